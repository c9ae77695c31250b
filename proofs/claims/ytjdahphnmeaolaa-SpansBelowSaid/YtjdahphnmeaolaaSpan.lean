/- spans.span, valid, common, value's methods. -/
import Derived.Test.YtjdahphnmeaolaaWhole
namespace Go.Proofs.Ytjdahphnmeaolaa
open Go.RowKit

def vS (p : Int × Int) : Bool := decide (p.1 ≤ p.2) && wB (-1000000) 1000000 [p.1, p.2]

theorem span_any (a b : Int) (w : World) :
    Calls Try.prog 71 #[.int .i64 a, .int .i64 b] w fun e w' => e = .returned (.agg #[.int .i64 a, .int .i64 b]) ∧ Below w.heap.size w w' := by
  go_enter Try.func71, Try.ntmps71
  go_wp2
  go_returns
  exact ⟨rfl, by go_grown⟩

theorem vfloor_any (a b : Int) (w : World) (h1 : 1 ≤ b) (h2 : b ≤ 1000000000000000000) (h3 : -1000000000000000000 ≤ a) (h4 : a ≤ 1000000000000000000) :
    Calls Try.prog 91 #[.agg #[.int .i64 a, .int .i64 b]] w fun e w' => e = .returned (.int .i64 (fl a b)) ∧ Below w.heap.size w w' := by
  go_enter Try.func91, Try.ntmps91
  go_wp2_with (go_at_call 74; refine (floor_any _ _ _ h1 h2 h3 h4).mono ?_; rintro e w' ⟨rfl, rfl⟩)
  go_returns
  exact ⟨rfl, by go_grown⟩

theorem vceil_any (a b : Int) (w : World) (h1 : 1 ≤ b) (h2 : b ≤ 1000000000000000000) (h3 : -1000000000000000000 ≤ a) (h4 : a ≤ 1000000000000000000) :
    Calls Try.prog 92 #[.agg #[.int .i64 a, .int .i64 b]] w fun e w' => e = .returned (.int .i64 (cl a b)) ∧ Below w.heap.size w w' := by
  go_enter Try.func92, Try.ntmps92
  go_wp2_with (go_at_call 75; refine (ceil_any _ _ _ h1 h2 h3 h4).mono ?_; rintro e w' ⟨rfl, rfl⟩)
  go_returns
  exact ⟨rfl, by go_grown⟩

theorem common_any (a b c d : Int) (w : World) :
    Calls Try.prog 69 #[.agg #[.int .i64 a, .int .i64 b], .agg #[.int .i64 c, .int .i64 d]] w fun e w' => e = .returned (.agg #[.int .i64 (max a c), .int .i64 (min b d)]) ∧ Below w.heap.size w w' := by
  go_enter Try.func69, Try.ntmps69
  go_wp2
  go_returns
  exact ⟨rfl, by go_grown⟩

theorem vS_bad {l : List (Int × Int)} {k : Nat} {x1 x2 : Int} (hx : l[k]? = some (x1, x2)) (h : vS (x1, x2) = false) : l.all vS = false := by
  rw [List.all_eq_false]
  obtain ⟨hk, e⟩ := List.getElem?_eq_some_iff.1 hx
  exact ⟨_, List.getElem_mem hk, by rw [e, h]; simp⟩
theorem vS_step {l : List (Int × Int)} {k : Nat} {x : Int × Int} (hx : l[k]? = some x) : (l.take (k + 1)).all vS = ((l.take k).all vS && vS x) := by
  rw [List.take_add_one, hx]
  simp

theorem valid_any (A : Option Addr) (n c B : Nat) (l : List (Int × Int)) (w : World) (hx : l.length = n) (hn : n ≤ maxLen) (hB : B ≤ w.heap.size) (h : RS w B A l) :
    Calls Try.prog 65 #[.slice A n c] w fun e w' => e = .returned (.bool (l.all vS)) ∧ Below w.heap.size w w' := by
  subst hx
  unfold maxLen at hn
  go_enter Try.func65, Try.ntmps65
  go_wp2
  go_loopw [7] (fun i wr => ∃ k : Nat, k ≤ l.length ∧ i = .int .i64 k ∧ (l.take k).all vS = true ∧ Below w.heap.size w wr) (fun i _ => l.length - (intOf i).toNat)
  case atStart => exact ⟨0, Nat.zero_le _, rfl, by simp, Below.refl _ _⟩
  case round =>
    obtain ⟨k, hk, rfl, hw, hbw⟩ := hrel
    have hsz := hbw.size
    by_cases hlt : k < l.length
    · obtain ⟨b, off, x, rfl, hb, hx, hc1, hc2⟩ := ((h.more hB).below hbw).at_ hlt
      have hb' : b < wr.heap.size := by omega
      obtain ⟨x1, x2⟩ := x
      simp only at hc1 hc2
      have HX := Lib.hid hx
      clear hx
      have HW := Lib.hid hw
      clear hw
      by_cases h1 : x2 < x1
      · go_wp2
        go_ret
        exact ⟨ret_bool (vS_bad HX.out (by simp [vS]; omega)).symm, by go_grown⟩
      cases hv : wB (-1000000) 1000000 [x1, x2] with
      | false =>
        have HV := Lib.hid hv
        clear hv
        go_wp2_with (go_at_call 67; refine (within_any (-1000000) 1000000 _ 2 _ _ [x1, x2] _ rfl (le_maxLen (by omega)) (RI.new2 (by simp))).mono ?_; rintro e w' ⟨rfl, rfl⟩; rw [HV.out])
        go_ret
        exact ⟨ret_bool (vS_bad HX.out (by simp [vS, HV.out])).symm, by go_grown⟩
      | true =>
        have HV := Lib.hid hv
        clear hv
        go_wp2_with (go_at_call 67; refine (within_any (-1000000) 1000000 _ 2 _ _ [x1, x2] _ rfl (le_maxLen (by omega)) (RI.new2 (by simp))).mono ?_; rintro e w' ⟨rfl, rfl⟩; rw [HV.out])
        go_roundw
        case rel => exact ⟨k + 1, by omega, by go_num, by rw [vS_step HX.out, HW.out]; simp [vS, HV.out]; omega, by go_grown⟩
        case measure => simp [intOf]; omega
    · go_wp2
      go_ret
      exact ⟨ret_bool (by rw [← hw, List.take_of_length_le (by omega)]), hbw⟩

end Go.Proofs.Ytjdahphnmeaolaa

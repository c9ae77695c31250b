/- whole.Within, Abs, Ascending, Lowest; the reference's within, Lowest. -/
import Derived.Test.YtliocbjmledfbaaBase
import Derived.Test.YtliocbjmledfbaaHQ
namespace Go.Proofs.Ytliocbjmledfbaa
open Go.RowKit

theorem ret_2 {k l : IntKind} {a b c d : Int} (h : a = c) (g : b = d) : Ending.returned (.tuple #[.int k a, .int l b]) = .returned (.tuple #[.int k c, .int l d]) := by rw [h, g]

theorem within_any (lo hi : Int) (A : Option Addr) (n c B : Nat) (xs : List Int) (w : World) (hx : xs.length = n) (hn : n ≤ maxLen) (h : RI w B A xs) :
    Calls Try.prog 54 #[.int .i64 lo, .int .i64 hi, .slice A n c] w fun e w' => e = .returned (.bool (wB lo hi xs)) ∧ w = w' := by
  subst hx
  unfold maxLen at hn
  go_enter Try.func54, Try.ntmps54
  go_wp2
  go_loop [11] (fun i => ∃ k : Nat, k ≤ xs.length ∧ i = .int .i64 k ∧ wB lo hi (xs.take k) = true) (fun i => xs.length - (intOf i).toNat)
  case atStart => exact ⟨0, Nat.zero_le _, rfl, by simp [wB]⟩
  case round =>
    obtain ⟨k, hk, rfl, hw⟩ := hrel
    by_cases hlt : k < xs.length
    · obtain ⟨b, off, x, rfl, hb, hx, hc⟩ := h.at_ hlt
      have HX := Lib.hid hx
      clear hx
      by_cases h1 : x < lo
      · go_wp2
        go_ret
        exact ⟨ret_bool (wB_bad HX.out (.inl h1)).symm, rfl⟩
      by_cases h2 : hi < x
      · go_wp2
        go_ret
        exact ⟨ret_bool (wB_bad HX.out (.inr h2)).symm, rfl⟩
      · go_wp2
        go_round
        case rel => exact ⟨k + 1, by omega, by go_num, by rw [wB_step HX.out, hw]; simp; omega⟩
        case measure => simp [intOf]; omega
    · go_wp2
      go_ret
      exact ⟨ret_bool (by rw [← hw, List.take_of_length_le (by omega)]), rfl⟩

theorem abs_any (a : Int) (w : World) (h1 : -4611686018427387904 ≤ a) (h2 : a ≤ 4611686018427387904) :
    Calls Try.prog 61 #[.int .i64 a] w fun e w' => e = .returned (.int .i64 (max a (-a))) ∧ w = w' := by
  go_enter Try.func61, Try.ntmps61
  go_wp2
  go_ret
  exact ⟨rfl, rfl⟩

theorem rwithin_any (a b c : Int) (w : World) :
    Calls Try.prog 56 #[.int .i64 a, .int .i64 b, .int .i64 c] w fun e w' => e = .returned (.bool (decide (b ≤ a) && decide (a ≤ c))) ∧ w = w' := by
  by_cases h : b ≤ a
  · go_enter Try.func56, Try.ntmps56
    go_wp2
    go_ret
    exact ⟨ret_bool (by simp [h]), rfl⟩
  · go_enter Try.func56, Try.ntmps56
    go_wp2
    go_ret
    exact ⟨ret_bool (by simp; omega), rfl⟩
theorem rwithin_yes {a b c : Int} (h1 : b ≤ a) (h2 : a ≤ c) (w : World) : Calls Try.prog 56 #[.int .i64 a, .int .i64 b, .int .i64 c] w fun e w' => e = .returned (.bool true) ∧ w = w' := by
  have := rwithin_any a b c w
  rwa [show (decide (b ≤ a) && decide (a ≤ c)) = true by simp [h1, h2]] at this
theorem rwithin_no {a b c : Int} (h : ¬ (b ≤ a ∧ a ≤ c)) (w : World) : Calls Try.prog 56 #[.int .i64 a, .int .i64 b, .int .i64 c] w fun e w' => e = .returned (.bool false) ∧ w = w' := by
  have := rwithin_any a b c w
  rwa [show (decide (b ≤ a) && decide (a ≤ c)) = false by simp; omega] at this

theorem asc_any (A : Option Addr) (n c B : Nat) (xs : List Int) (w : World) (hx : xs.length = n) (hn : n ≤ maxLen) (hB : B ≤ w.heap.size) (h : RI w B A xs) :
    Calls Try.prog 55 #[.slice A n c] w fun e w' => e = .returned (.bool (ascN xs (xs.length - 1))) ∧ Below w.heap.size w w' := by
  subst hx
  unfold maxLen at hn
  go_enter Try.func55, Try.ntmps55
  go_wp2
  go_loopw [3] (fun i wr => ∃ k : Nat, k ≤ xs.length - 1 ∧ i = .int .i64 ((k : Int) + 1) ∧ ascN xs k = true ∧ Below w.heap.size w wr) (fun i _ => xs.length - (intOf i).toNat)
  case atStart => exact ⟨0, by omega, rfl, by simp [ascN], by go_grown⟩
  case round =>
    obtain ⟨k, hk, rfl, hw, hbw⟩ := hrel
    by_cases hlt : k + 1 < xs.length
    · have hj := (h.more hB).below hbw
      obtain ⟨b, off, x, rfl, hb, hx, hc⟩ := hj.at_ (k := k) (by omega)
      obtain ⟨b', off', y, hA, hb', hy, hc2⟩ := hj.at_ (k := k + 1) (by omega)
      obtain ⟨rfl, rfl⟩ : b = b' ∧ off = off' := by simpa using hA
      have HX := Lib.hid hx
      have HY := Lib.hid hy
      have HW := Lib.hid hw
      have HBW := Lib.hid hbw
      have i1 : (k : Int) + 1 - 1 = k := by omega
      have i2 : IntKind.i64.wrap ((k : Int) + 1 - 1) = k := by rw [IntWalk.i64_in _ (by omega)]; omega
      have i3 : ((k : Int) + 1).toNat = k + 1 := by omega
      have i4 : (0 : Int) ≤ (k : Int) + 1 := by omega
      have i5 : (k : Int) + 1 < xs.length := by omega
      have i6 : (0 : Int) ≤ (k : Int) := by omega
      have i7 : (k : Int) < xs.length := by omega
      have i8 : IntKind.i64.wrap (k : Int) = k := IntWalk.i64_in _ (by omega)
      clear hx hy hA hw hbw hj hb' 
      by_cases g : x < y
      · go_wp2
        go_quiet (fail)
        go_wp2
        go_roundw
        case rel => exact ⟨k + 1, by omega, by go_num, by rw [ascN_step, HW.out, HX.out, HY.out]; simpa using g, by first | exact below_drewN HBW.out _ | go_grown⟩
        case measure => simp [intOf]; omega
      · go_wp2
        go_quiet (fail)
        go_wp2
        go_ret
        exact ⟨ret_bool (ascN_bad (m := k) (by omega) (by rw [HX.out, HY.out]; simp; omega)).symm, by first | exact below_drewN HBW.out _ | go_grown⟩
    · go_wp2
      go_ret
      exact ⟨ret_bool (by rw [← hw]; congr 1; omega), hbw⟩

theorem lowest_any (num den : Int) (w : World) (h1 : -4611686018427387904 ≤ num) (h2 : num ≤ 4611686018427387904) (h3 : 1 ≤ den) (h4 : den ≤ 4611686018427387904) :
    Calls Try.prog 62 #[.int .i64 num, .int .i64 den] w fun e w' => e = .returned (.tuple #[.int .i64 (lowN num den).1, .int .i64 (lowN num den).2]) ∧ Below w.heap.size w w' := by
  have hg := gcI_pos (a := num) h3
  have ha : max num (-num) ≤ 4611686018427387904 := by omega
  have ha0 : 0 ≤ max num (-num) := by omega
  have HA := Lib.hid (gcI_abs num den)
  have HC := Lib.hid (abs_any num)
  generalize max num (-num) = an at *
  go_enter Try.func62, Try.ntmps62
  go_wp2_with (go_at_call 61; refine (HC.out _ h1 h2).mono ?_; rintro e w' ⟨rfl, rfl⟩)
  go_loopw [6, 7] (fun a b wr => ∃ x y : Int, a = .int .i64 x ∧ b = .int .i64 y ∧ 0 ≤ x ∧ x ≤ 4611686018427387904 ∧ 0 ≤ y ∧ y ≤ 4611686018427387904 ∧ gcI x y = gcI num den ∧ Below w.heap.size w wr) (fun _ b _ => (intOf b).toNat)
  case atStart => exact ⟨an, den, rfl, rfl, by omega, by omega, by omega, by omega, HA.out, Below.refl _ _⟩
  case round =>
    obtain ⟨x, y, rfl, rfl, hx0, hx1, hy0, hy1, hgc, hbw⟩ := hrel
    have HG := Lib.hid hgc
    have HBW := Lib.hid hbw
    clear hgc hbw
    by_cases hy : y = 0
    · subst hy
      have e := HG.out
      rw [gcI_zero hx0] at e
      subst e
      have HT := Lib.hid (tdiv_bd (b := gcI num den) (show -4611686018427387904 ≤ num by omega) (show num ≤ 4611686018427387904 by omega))
      have j1 := HT.out.1
      have j2 := HT.out.2
      have j3 : IntKind.i64.wrap (num.tdiv (gcI num den)) = num.tdiv (gcI num den) := IntWalk.i64_in _ (by omega)
      have j4 : ((gcI num den : Int) == 0) = false := by simp; omega
      have j5 := Int.ediv_nonneg (show 0 ≤ den by omega) (show 0 ≤ gcI num den by omega)
      have j6 := Int.ediv_le_self (gcI num den) (show 0 ≤ den by omega)
      go_wp2
      go_quiet (fail)
      go_wp2
      go_ret2
      exact ⟨ret_2 rfl rfl, by first | exact below_drewN HBW.out _ | go_grown⟩
    · have j1 : ((y : Int) != 0) = true := by simpa using hy
      have j2 := Int.emod_nonneg x hy
      have j3 := Int.emod_lt_of_pos x (show 0 < y by omega)
      have j4 : ((y : Int) == 0) = false := by simpa using hy
      have j5 : IntKind.i64.wrap (x.tmod y) = x % y := by rw [Int.tmod_eq_emod_of_nonneg hx0]; exact IntWalk.i64_in _ (by omega)
      go_wp2
      go_quiet (fail)
      go_wp2
      go_roundw
      case rel => exact ⟨y, x % y, rfl, rfl, by omega, by omega, by omega, by omega, by rw [gcI_step]; exact HG.out, by first | exact below_drewN HBW.out _ | go_grown⟩
      case measure => simp [intOf]; omega

theorem rlowest_any (num den : Int) (w : World) (h1 : -4611686018427387904 ≤ num) (h2 : num ≤ 4611686018427387904) (h3 : 1 ≤ den) (h4 : den ≤ 4611686018427387904) :
    Calls Try.prog 63 #[.int .i64 num, .int .i64 den] w fun e w' => e = .returned (.tuple #[.int .i64 (lowN num den).1, .int .i64 (lowN num den).2]) ∧ Below w.heap.size w w' := by
  have hg := gcI_pos (a := num) h3
  have HA := Lib.hid (gcI_abs num den)
  go_enter Try.func63, Try.ntmps63
  go_wp2
  go_loopw [6, 7] (fun a b wr => ∃ x y : Int, a = .int .i64 x ∧ b = .int .i64 y ∧ 0 ≤ x ∧ x ≤ 4611686018427387904 ∧ 0 ≤ y ∧ y ≤ 4611686018427387904 ∧ gcI x y = gcI num den ∧ Below w.heap.size w wr) (fun _ b _ => (intOf b).toNat)
  case atStart => exact ⟨max num (-num), den, by go_num, rfl, by omega, by omega, by omega, by omega, HA.out, by go_grown⟩
  case round =>
    obtain ⟨x, y, rfl, rfl, hx0, hx1, hy0, hy1, hgc, hbw⟩ := hrel
    have HG := Lib.hid hgc
    have HBW := Lib.hid hbw
    clear hgc hbw
    by_cases hy : y = 0
    · subst hy
      have e := HG.out
      rw [gcI_zero hx0] at e
      subst e
      have HT := Lib.hid (tdiv_bd (b := gcI num den) (show -4611686018427387904 ≤ num by omega) (show num ≤ 4611686018427387904 by omega))
      have j1 := HT.out.1
      have j2 := HT.out.2
      have j3 : IntKind.i64.wrap (num.tdiv (gcI num den)) = num.tdiv (gcI num den) := IntWalk.i64_in _ (by omega)
      have j4 : ((gcI num den : Int) == 0) = false := by simp; omega
      have j5 := Int.ediv_nonneg (show 0 ≤ den by omega) (show 0 ≤ gcI num den by omega)
      have j6 := Int.ediv_le_self (gcI num den) (show 0 ≤ den by omega)
      go_wp2
      go_quiet (fail)
      go_wp2
      go_ret2
      exact ⟨ret_2 rfl rfl, by first | exact below_drewN HBW.out _ | go_grown⟩
    · have j2 := Int.emod_nonneg x hy
      have j3 := Int.emod_lt_of_pos x (show 0 < y by omega)
      have j4 : ((y : Int) == 0) = false := by simpa using hy
      have j7 : 0 < y := by omega
      go_wp2
      go_roundw
      case rel => exact ⟨y, x % y, rfl, rfl, by omega, by omega, by omega, by omega, by rw [gcI_step]; exact HG.out, by first | exact HBW.out | go_grown⟩
      case measure => simp [intOf]; omega

end Go.Proofs.Ytliocbjmledfbaa

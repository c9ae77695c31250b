/- sameInts. -/
import Derived.Test.YtliocbjmledfbaaHWhole
namespace Go.Proofs.Ytliocbjmledfbaa
open Go.RowKit

theorem take_same {xs ys : List Int} {k : Nat} {x y : Int} (hx : xs[k]? = some x) (hy : ys[k]? = some y) (h : xs.take k = ys.take k) (e : x = y) : xs.take (k + 1) = ys.take (k + 1) := by
  rw [List.take_add_one, List.take_add_one, hx, hy, h, e]

set_option maxRecDepth 100000 in
theorem same_any (A A' : Option Addr) (n c n' c' B B' : Nat) (xs ys : List Int) (w : World) (hx : xs.length = n) (hy : ys.length = n') (hn : n ≤ maxLen) (hn' : n' ≤ maxLen) (hB : B ≤ w.heap.size) (hB' : B' ≤ w.heap.size) (h : RI w B A xs) (h' : RI w B' A' ys) :
    Calls Try.prog 21 #[.slice A n c, .slice A' n' c'] w fun e w' => e = .returned (.bool (decide (xs = ys))) ∧ Below w.heap.size w w' := by
  by_cases hl : n = n'
  · obtain rfl := hl
    unfold maxLen at hn
    have HL := Lib.hid (And.intro hx hy)
    have hxl : xs.length = n := hx
    clear hx hy
    go_enter Try.func21, Try.ntmps21
    go_wp2
    go_loopw [5] (fun i wr => ∃ k : Nat, k ≤ n ∧ i = .int .i64 k ∧ xs.take k = ys.take k ∧ Below w.heap.size w wr) (fun i _ => n - (intOf i).toNat)
    case atStart => exact ⟨0, Nat.zero_le _, rfl, rfl, by go_grown⟩
    case round =>
      obtain ⟨k, hk, rfl, hw, hbw⟩ := hrel
      have HW := Lib.hid hw
      have HBW := Lib.hid hbw
      have hj := (h.more hB).below hbw
      have hj' := (h'.more hB').below hbw
      clear hw hbw
      by_cases hlt : k < n
      · obtain ⟨b, off, x, rfl, hb, hx, hc⟩ := hj.at_ (k := k) (by rw [HL.out.1]; exact hlt)
        obtain ⟨b', off', y, rfl, hb', hy, hc'⟩ := hj'.at_ (k := k) (by rw [HL.out.2]; exact hlt)
        have HX := Lib.hid (And.intro hx hy)
        have i1 : (0 : Int) ≤ (k : Int) := by omega
        have i2 : (k : Int) < n := by omega
        clear hx hy hj hj' hxl
        by_cases g : x = y
        · have g' : ((x : Int) != y) = false := by simpa using g
          have G := Lib.hid g
          clear g
          go_wp2
          go_quiet (fail)
          go_wp2
          go_roundw
          case rel => exact ⟨k + 1, by omega, by go_num, take_same HX.out.1 HX.out.2 HW.out G.out, by first | exact below_drewN HBW.out _ | exact HBW.out⟩
          case measure => simp [intOf]; omega
        · have g' : ((x : Int) != y) = true := by simpa using g
          have HN := Lib.hid (show decide (xs = ys) = false by rw [decide_eq_false_iff_not]; rintro rfl; have := HX.out.1.symm.trans HX.out.2; simp at this; exact g this)
          clear g
          go_wp2
          go_quiet (fail)
          go_wp2
          go_ret
          exact ⟨ret_bool HN.out.symm, by first | exact below_drewN HBW.out _ | exact HBW.out⟩
      · have HN := Lib.hid (show decide (xs = ys) = true by
          have e := HW.out
          rw [List.take_of_length_le (by rw [HL.out.1]; omega), List.take_of_length_le (by rw [HL.out.2]; omega)] at e
          simpa using e)
        clear hxl
        go_wp2
        go_ret
        exact ⟨ret_bool HN.out.symm, HBW.out⟩
  · have HN := Lib.hid (show decide (xs = ys) = false by rw [decide_eq_false_iff_not]; rintro rfl; exact hl (hx.symm.trans hy))
    have hne : ((n : Int) != n') = true := by rw [bne_iff_ne]; omega
    clear hx hy hl
    go_enter Try.func21, Try.ntmps21
    go_wp2
    go_ret
    exact ⟨ret_bool HN.out.symm, by go_grown⟩
theorem same_yes (A A' : Option Addr) (n c c' B B' : Nat) (xs : List Int) (w : World) (hx : xs.length = n) (hn : n ≤ maxLen) (hB : B ≤ w.heap.size) (hB' : B' ≤ w.heap.size) (h : RI w B A xs) (h' : RI w B' A' xs) :
    Calls Try.prog 21 #[.slice A n c, .slice A' n c'] w fun e w' => e = .returned (.bool true) ∧ Below w.heap.size w w' := by
  have := same_any A A' n c n c' B B' xs xs w hx hx hn hn hB hB' h h'
  simpa using this
end Go.Proofs.Ytliocbjmledfbaa

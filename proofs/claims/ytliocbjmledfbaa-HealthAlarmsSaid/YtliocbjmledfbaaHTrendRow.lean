/- Trend and Chance of both sides; the law of the trends. -/
import Derived.Test.YtliocbjmledfbaaHOrders
import Derived.Test.YtliocbjmledfbaaHSame
import Derived.Test.YtliocbjmledfbaaHCrestRow
namespace Go.Proofs.Ytliocbjmledfbaa
open Go.RowKit

theorem rorders_any (least : Int) (f : Nat) : OrdSaid least f := by
  induction f with
  | zero => exact orders_zero least
  | succ f ih => exact orders_succ least f ih
def tdN (V : List Int) : Int × Int := if valB V then (trL V, 0) else (0, 1)
def cnN (V : List Int) : Int × Int × Int := if valB V then ((lowN (lst V).1 (lst V).2).1, (lowN (lst V).1 (lst V).2).2, 0) else (0, 0, 1)
theorem lst_pos {V : List Int} (h : V.length ≤ 8) : 1 ≤ (lst V).2 := by
  unfold lst
  rw [lst_ord V h]
  exact ord_pos _ _ _ _ rfl

set_option maxRecDepth 100000 in
theorem tTrend_any (A : Option Addr) (n c B : Nat) (V : List Int) (w : World) (hx : V.length = n) (hn : n ≤ maxLen) (hc : n ≤ c) (hB : B ≤ w.heap.size) (h : RI w B A V) :
    Calls Try.prog 31 #[.slice A n c] w fun e w' => e = .returned (.tuple #[.int .i64 (tdN V).1, .int .i64 (tdN V).2]) ∧ Below w.heap.size w w' := by
  have HA := Lib.hid (areValues_any A n c B V w hx hn hB h)
  cases hv : valB V with
  | false =>
    rw [hv] at HA
    rw [show tdN V = (0, 1) by unfold tdN; simp [hv]]
    clear hv h
    go_enter Try.func31, Try.ntmps31
    go_wp2_with (go_at_call 64; refine Calls.mono HA.out ?_; rintro e w1 ⟨rfl, hb1⟩)
    go_ret2
    exact ⟨rfl, hb1⟩
  | true =>
    rw [hv] at HA
    rw [show tdN V = (trL V, 0) by unfold tdN; simp [hv]]
    obtain ⟨v1, v2, _⟩ := valB_get hv
    have HT := Lib.hid (fun W (hW : Below w.heap.size w W) => trend_any A n c B V W hx (by omega) hc (h.below (hW.mono hB)))
    generalize trL V = tr at *
    clear hv h
    go_enter Try.func31, Try.ntmps31
    go_wp2_with (first
      | (go_at_call 64; refine Calls.mono HA.out ?_; rintro e w1 ⟨rfl, hb1⟩; have HB1 := Lib.hid hb1; clear hb1)
      | (go_at_call 65; refine Calls.mono (HT.out _ HB1.out) ?_; rintro e w2 ⟨rfl, rfl⟩))
    go_ret2
    exact ⟨rfl, HB1.out⟩
set_option maxRecDepth 100000 in
theorem rTrend_any (A : Option Addr) (n c B : Nat) (V : List Int) (w : World) (hx : V.length = n) (hn : n ≤ maxLen) (h : RI w B A V) :
    Calls Try.prog 32 #[.slice A n c] w fun e w' => e = .returned (.tuple #[.int .i64 (tdN V).1, .int .i64 (tdN V).2]) ∧ Below w.heap.size w w' := by
  have HA := Lib.hid (valued_any A n c B V w hx hn h)
  cases hv : valB V with
  | false =>
    rw [hv] at HA
    rw [show tdN V = (0, 1) by unfold tdN; simp [hv]]
    clear hv h
    go_enter Try.func32, Try.ntmps32
    go_wp2_with (go_at_call 66; refine Calls.mono HA.out ?_; rintro e w1 ⟨rfl, rfl⟩)
    go_ret2
    exact ⟨rfl, Below.refl _ _⟩
  | true =>
    rw [hv] at HA
    rw [show tdN V = (trL V, 0) by unfold tdN; simp [hv]]
    obtain ⟨v1, v2, _⟩ := valB_get hv
    have HT := Lib.hid (rtrend_any A n c B V w hx (by omega) h)
    generalize trL V = tr at *
    clear hv h
    go_enter Try.func32, Try.ntmps32
    go_wp2_with (first
      | (go_at_call 66; refine Calls.mono HA.out ?_; rintro e w1 ⟨rfl, rfl⟩)
      | (go_at_call 67; refine Calls.mono HT.out ?_; rintro e w2 ⟨rfl, d, rfl⟩))
    go_ret2
    exact ⟨rfl, below_drewN (Below.refl _ _) _⟩
set_option maxRecDepth 100000 in
theorem tChance_any (A : Option Addr) (n c B : Nat) (V : List Int) (w : World) (hx : V.length = n) (hn : n ≤ maxLen) (hc : n ≤ c) (hB : B ≤ w.heap.size) (h : RI w B A V) :
    Calls Try.prog 34 #[.slice A n c] w fun e w' => e = .returned (.tuple #[.int .i64 (cnN V).1, .int .i64 (cnN V).2.1, .int .i64 (cnN V).2.2]) ∧ Below w.heap.size w w' := by
  cases hv : valB V with
  | false =>
    have HA := Lib.hid (areValues_any A n c B V w hx hn hB h)
    rw [hv] at HA
    rw [show cnN V = (0, 0, 1) by unfold cnN; simp [hv]]
    clear hv h
    go_enter Try.func34, Try.ntmps34
    go_wp2_with (go_at_call 64; refine Calls.mono HA.out ?_; rintro e w1 ⟨rfl, hb1⟩)
    go_ret3
    exact ⟨rfl, hb1⟩
  | true =>
    rw [show cnN V = ((lowN (lst V).1 (lst V).2).1, (lowN (lst V).1 (lst V).2).2, 0) by unfold cnN; simp [hv]]
    exact Chance_ok A n c B V w hx hc hB h hv (lst_pos (valB_get hv).2.1)
set_option maxRecDepth 100000 in
theorem rChance_any (A : Option Addr) (n c B : Nat) (V : List Int) (w : World) (hx : V.length = n) (hn : n ≤ maxLen) (hc : n ≤ c) (hB : B ≤ w.heap.size) (h : RI w B A V) :
    Calls Try.prog 35 #[.slice A n c] w fun e w' => e = .returned (.tuple #[.int .i64 (cnN V).1, .int .i64 (cnN V).2.1, .int .i64 (cnN V).2.2]) ∧ Below w.heap.size w w' := by
  have HA := Lib.hid (valued_any A n c B V w hx hn h)
  cases hv : valB V with
  | false =>
    rw [hv] at HA
    rw [show cnN V = (0, 0, 1) by unfold cnN; simp [hv]]
    clear hv h
    go_enter Try.func35, Try.ntmps35
    go_wp2_with (go_at_call 66; refine Calls.mono HA.out ?_; rintro e w1 ⟨rfl, rfl⟩)
    go_ret3
    exact ⟨rfl, Below.refl _ _⟩
  | true =>
    rw [hv] at HA
    obtain ⟨v1, v2, _⟩ := valB_get hv
    have hp := lst_pos v2
    have hb := lst_bd v2
    rw [show cnN V = ((lowN (lst V).1 (lst V).2).1, (lowN (lst V).1 (lst V).2).2, 0) by unfold cnN; simp [hv]]
    have HT := Lib.hid (rtrend_any A n c B V w hx (by omega) h)
    have HO := Lib.hid (fun d => rorders_any (trL V) V.length [] V (.slice none 0 0) (.slice A n c) (w.drewN d) rfl (by simp; omega) (.inl ⟨rfl, rfl⟩) (by
      obtain ⟨b, off, x, rfl, _, _, _⟩ := h.at_ (k := 0) (by omega)
      exact .inr ⟨b, off, c, by rw [hx], by omega, (h.drewN d).more hB⟩))
    have HL := Lib.hid (fun W => rlowest_any (lst V).1 (lst V).2 W (by omega) (by omega) hp (by omega))
    have ho : ord (trL V) V.length [] V = lst V := by unfold lst; exact (lst_ord V v2).symm
    rw [ho] at HO
    unfold resV at HO
    generalize lowN (lst V).1 (lst V).2 = ll at *
    generalize lst V = l at *
    generalize trL V = tr at *
    obtain ⟨a, b⟩ := l
    obtain ⟨x, y⟩ := ll
    simp only at HO HL ⊢
    clear hv h hp hb ho
    go_enter Try.func35, Try.ntmps35
    go_wp2_with (first
      | (go_at_call 66; refine Calls.mono HA.out ?_; rintro e w1 ⟨rfl, rfl⟩)
      | (go_at_call 67; refine Calls.mono HT.out ?_; rintro e w2 ⟨rfl, d, rfl⟩)
      | (go_at_call 70; refine Calls.mono (HO.out _) ?_; rintro e w3 ⟨rfl, hb3⟩; have HB3 := Lib.hid ((below_drewN (Below.refl w.heap.size w) d).trans hb3); clear hb3)
      | (go_at_call 63; refine Calls.mono (HL.out _) ?_; rintro e w4 ⟨rfl, hb4⟩))
    go_ret3
    exact ⟨rfl, HB3.out.trans (hb4.mono HB3.out.size)⟩
def longB (n : Nat) : Bool := decide (6 < n) && decide (n ≤ 8)
set_option maxRecDepth 100000 in
theorem long_any (A : Option Addr) (n c : Nat) (w : World) (hn : n ≤ maxLen) :
    Calls Try.prog 33 #[.slice A n c] w fun e w' => e = .returned (.bool (longB n)) ∧ w = w' := by
  unfold maxLen at hn
  by_cases g : 6 < n
  · by_cases g2 : n ≤ 8
    · rw [show longB n = true by unfold longB; simp [g, g2]]
      go_enter Try.func33, Try.ntmps33
      go_wp2
      go_ret
      exact ⟨by simp; omega, rfl⟩
    · rw [show longB n = false by unfold longB; simp [g2]]
      go_enter Try.func33, Try.ntmps33
      go_wp2
      go_ret
      exact ⟨by simp; omega, rfl⟩
  · rw [show longB n = false by unfold longB; simp [g]]
    go_enter Try.func33, Try.ntmps33
    go_wp2
    go_ret
    exact ⟨by simp, rfl⟩
end Go.Proofs.Ytliocbjmledfbaa

/- Chance, Trend. -/
import Derived.Test.YtliocbjmledfbaaHChance
namespace Go.Proofs.Ytliocbjmledfbaa
open Go.RowKit

theorem valB_get {V : List Int} (h : valB V = true) : 1 ≤ V.length ∧ V.length ≤ 8 ∧ wB (-1000000) 1000000 V = true := by
  unfold valB at h
  simpa [and_assoc] using h
theorem lst_bd {V : List Int} (h : V.length ≤ 8) : (0 ≤ (lst V).1 ∧ (lst V).1 ≤ 16777216) ∧ (0 ≤ (lst V).2 ∧ (lst V).2 ≤ 16777216) := by
  have hb := ext_bd V (trL V) h V.length [] (List.replicate 8 false)
  have : (8 : Int) ^ V.length ≤ 16777216 := by
    rcases (by omega : V.length = 0 ∨ V.length = 1 ∨ V.length = 2 ∨ V.length = 3 ∨ V.length = 4 ∨ V.length = 5 ∨ V.length = 6 ∨ V.length = 7 ∨ V.length = 8) with e | e | e | e | e | e | e | e | e <;> rw [e] <;> decide
  unfold lst
  omega

theorem Chance_ok (A : Option Addr) (n c B : Nat) (V : List Int) (w : World) (hx : V.length = n) (hc : n ≤ c) (hB : B ≤ w.heap.size) (h : RI w B A V) (hv : valB V = true) (hd : 1 ≤ (lst V).2) :
    Calls Try.prog 34 #[.slice A n c] w fun e w' => e = .returned (.tuple #[.int .i64 (lowN (lst V).1 (lst V).2).1, .int .i64 (lowN (lst V).1 (lst V).2).2, .int .i64 0]) ∧ Below w.heap.size w w' := by
  obtain ⟨v1, v2, _⟩ := valB_get hv
  have hb := lst_bd v2
  have HA := Lib.hid (areValues_any A n c B V w hx (by unfold maxLen; omega) hB h)
  rw [hv] at HA
  have HC := Lib.hid (fun W (hW : Below w.heap.size w W) => chance_any A n c B V W hx (by omega) (by omega) hc (by have := hW.size; omega) (h.below (hW.mono hB)))
  have HL := Lib.hid (fun W => flowest_any (lst V).1 (lst V).2 W (by omega) (by omega) hd (by omega))
  generalize lowN (lst V).1 (lst V).2 = ll at *
  generalize lst V = l at *
  obtain ⟨a, b⟩ := l
  obtain ⟨x, y⟩ := ll
  simp only at HC HL ⊢
  clear hd hb hv h
  go_enter Try.func34, Try.ntmps34
  go_wp2_with (first
    | (go_at_call 64; refine Calls.mono HA.out ?_; rintro e w1 ⟨rfl, hb1⟩; have HB1 := Lib.hid hb1; have hz1 := hb1.size; clear hb1)
    | (go_at_call 68; refine Calls.mono (HC.out _ HB1.out) ?_; rintro e w2 ⟨rfl, hb2⟩; have HB2 := Lib.hid hb2; have hz2 := hb2.size; clear hb2)
    | (go_at_call 69; refine Calls.mono (HL.out _) ?_; rintro e w3 ⟨rfl, hb3⟩))
  go_ret3
  exact ⟨rfl, (HB1.out.trans (HB2.out.mono hz1)).trans (hb3.mono (by omega))⟩

end Go.Proofs.Ytliocbjmledfbaa

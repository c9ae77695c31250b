/- The law of the crests. -/
import Derived.Test.YtliocbjmledfbaaHCrest
namespace Go.Proofs.Ytliocbjmledfbaa
open Go.RowKit

/-- The look at an example succeeds. -/
def WK : Prop := ∀ w : World, Calls Try.prog 22 #[] w fun e w' => e = .returned (.bool true) ∧ Below w.heap.size w w'

theorem gcI_dvd_right (a b : Int) : gcI a b ∣ b := Int.gcd_dvd_right a b
theorem lowN_fst {m s : Int} (h0 : 0 ≤ m) : (lowN m s).1 = m / gcI m s := by
  unfold lowN
  exact Int.tdiv_eq_ediv_of_nonneg h0
theorem lowN_ge {m s : Int} (h0 : 0 ≤ m) (h1 : 1 ≤ s) (h2 : s ≤ m) : (lowN m s).2 ≤ (lowN m s).1 := by
  rw [lowN_fst h0]
  exact Int.ediv_le_ediv (by have := gcI_pos (a := m) h1; omega) h2
theorem lowN_le {m s n : Int} (h0 : 0 ≤ m) (h1 : 1 ≤ s) (h2 : m ≤ n * s) : (lowN m s).1 ≤ n * (lowN m s).2 := by
  have hg := gcI_pos (a := m) h1
  rw [lowN_fst h0]
  show _ ≤ n * (s / gcI m s)
  rw [← Int.mul_ediv_assoc n (gcI_dvd_right m s)]
  exact Int.ediv_le_ediv (by omega) h2
theorem lowN_bd {m s M : Int} (h0 : 0 ≤ m) (hm : m ≤ M) (h1 : 1 ≤ s) (hs : s ≤ M) : 0 ≤ (lowN m s).1 ∧ (lowN m s).1 ≤ M ∧ 0 ≤ (lowN m s).2 ∧ (lowN m s).2 ≤ M := by
  have hg := gcI_pos (a := m) h1
  rw [lowN_fst h0]
  show _ ∧ _ ∧ 0 ≤ s / _ ∧ s / _ ≤ M
  have a := Int.ediv_nonneg h0 (show 0 ≤ gcI m s by omega)
  have b := Int.ediv_le_self (gcI m s) h0
  have c := Int.ediv_nonneg (show 0 ≤ s by omega) (show 0 ≤ gcI m s by omega)
  have d := Int.ediv_le_self (gcI m s) (show 0 ≤ s by omega)
  omega

theorem law_crests (wk : WK) (en pk su dn n : Int) (w : World) :
    Calls Try.prog 5 #[.agg #[.int .i64 en, .int .i64 pk, .int .i64 su, .int .i64 dn], .int .i64 n] w fun e w' => e = .returned (.bool true) ∧ Below w.heap.size w w' := by
  have HWK := Lib.hid wk
  have HA := Lib.hid (crest_any en pk su dn n)
  have HB := Lib.hid (rcrest_any en pk su dn n)
  cases hc : crB pk su n with
  | false =>
    have e0 := crN_bad hc
    rw [e0] at HA HB
    simp only [crV] at HA HB
    clear hc e0 wk
    go_enter Try.func5, Try.ntmps5
    go_wp2_with (first
      | (go_at_call 29; refine Calls.mono (HA.out _) ?_; rintro e w1 ⟨rfl, hb1⟩; have hz1 := hb1.size; simp at hz1; have t0 := cell_keep hb1 (show _ = some (Value.int .i64 en) from cell_newest w _ _ _ 0); have t1 := cell_keep hb1 (show _ = some (Value.int .i64 pk) from cell_newest w _ _ _ 1); have t2 := cell_keep hb1 (show _ = some (Value.int .i64 su) from cell_newest w _ _ _ 2); have t3 := cell_keep hb1 (show _ = some (Value.int .i64 dn) from cell_newest w _ _ _ 3))
      | (go_at_call 30; refine Calls.mono (HB.out _) ?_; rintro e w2 ⟨rfl, hb2⟩; have hz2 := hb2.size)
      | (go_at_call 22; refine Calls.mono (HWK.out _) ?_; rintro e w3 ⟨rfl, hb3⟩))
    go_ret
    exact ⟨rfl, ((Below.trans (by go_grown) (hb1.mono (by simp))).trans (hb2.mono (by omega))).trans (hb3.mono (by omega))⟩
  | true =>
    have hg : (1 ≤ n ∧ n ≤ 24) ∧ (0 ≤ pk ∧ pk ≤ 48000000) ∧ (pk ≤ su ∧ su ≤ n * pk) := by unfold crB at hc; simpa [and_assoc] using hc
    obtain ⟨⟨g1, g2⟩, ⟨g3, g4⟩, g5, g6⟩ := hg
    have hm := mul_bd (show 0 ≤ n by omega) g2 g3 g4
    obtain ⟨m1, m2⟩ := hm
    by_cases h4 : su = 0
    · subst h4
      have e0 := crN_zero hc
      rw [e0] at HA HB
      simp only [crV] at HA HB
      clear hc e0 wk
      go_enter Try.func5, Try.ntmps5
      go_wp2_with (first
        | (go_at_call 29; refine Calls.mono (HA.out _) ?_; rintro e w1 ⟨rfl, hb1⟩; have hz1 := hb1.size; simp at hz1; have t0 := cell_keep hb1 (show _ = some (Value.int .i64 en) from cell_newest w _ _ _ 0); have t1 := cell_keep hb1 (show _ = some (Value.int .i64 pk) from cell_newest w _ _ _ 1); have t2 := cell_keep hb1 (show _ = some (Value.int .i64 0) from cell_newest w _ _ _ 2); have t3 := cell_keep hb1 (show _ = some (Value.int .i64 dn) from cell_newest w _ _ _ 3))
        | (go_at_call 30; refine Calls.mono (HB.out _) ?_; rintro e w2 ⟨rfl, hb2⟩; have hz2 := hb2.size; have s2 := cell_keep hb2 t2)
        | (go_at_call 22; refine Calls.mono (HWK.out _) ?_; rintro e w3 ⟨rfl, hb3⟩))
      go_ret
      exact ⟨rfl, ((Below.trans (by go_grown) (hb1.mono (by simp))).trans (hb2.mono (by omega))).trans (hb3.mono (by omega))⟩
    · have e0 := crN_good hc h4
      rw [e0] at HA HB
      simp only [crV] at HA HB
      have k1 : ((su : Int) == 0) = false := by simpa using h4
      have k2 : 0 < su := by omega
      have k3 := lowN_ge m1 (show 1 ≤ su by omega) g6
      have k4 := lowN_le (n := n) m1 (show 1 ≤ su by omega) (Int.mul_le_mul_of_nonneg_left g5 (by omega))
      have k5 := lowN_bd (s := su) m1 m2 (by omega) (by omega)
      obtain ⟨k5, k6, k7, k8⟩ := k5
      have k9 : 0 ≤ n * (lowN (n * pk) su).2 ∧ _ := mul_bd (show 0 ≤ n by omega) g2 k7 k8
      obtain ⟨k9, k10⟩ := k9
      generalize lowN (n * pk) su = lw at *
      obtain ⟨l1, l2⟩ := lw
      simp only at HA HB k3 k4 k5 k6 k7 k8 k9 k10
      clear hc e0 wk
      go_enter Try.func5, Try.ntmps5
      go_wp2_with (first
        | (go_at_call 29; refine Calls.mono (HA.out _) ?_; rintro e w1 ⟨rfl, hb1⟩; have hz1 := hb1.size; simp at hz1; have t0 := cell_keep hb1 (show _ = some (Value.int .i64 en) from cell_newest w _ _ _ 0); have t1 := cell_keep hb1 (show _ = some (Value.int .i64 pk) from cell_newest w _ _ _ 1); have t2 := cell_keep hb1 (show _ = some (Value.int .i64 su) from cell_newest w _ _ _ 2); have t3 := cell_keep hb1 (show _ = some (Value.int .i64 dn) from cell_newest w _ _ _ 3))
        | (go_at_call 30; refine Calls.mono (HB.out _) ?_; rintro e w2 ⟨rfl, hb2⟩; have hz2 := hb2.size; have s2 := cell_keep hb2 t2)
        | (go_at_call 22; refine Calls.mono (HWK.out _) ?_; rintro e w3 ⟨rfl, hb3⟩))
      go_ret
      exact ⟨rfl, ((Below.trans (by go_grown) (hb1.mono (by simp))).trans (hb2.mono (by omega))).trans (hb3.mono (by omega))⟩

end Go.Proofs.Ytliocbjmledfbaa

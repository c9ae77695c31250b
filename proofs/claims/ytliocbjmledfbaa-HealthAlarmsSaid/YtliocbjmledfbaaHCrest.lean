/- Crest of both sides. -/
import Derived.Test.YtliocbjmledfbaaHWhole
namespace Go.Proofs.Ytliocbjmledfbaa
open Go.RowKit

theorem wB_one (lo hi x : Int) : wB lo hi [x] = decide (lo ≤ x ∧ x ≤ hi) := by simp [wB]
theorem mul_bd {n p M N : Int} (h0 : 0 ≤ n) (h1 : n ≤ N) (h2 : 0 ≤ p) (h3 : p ≤ M) : 0 ≤ n * p ∧ n * p ≤ N * M :=
  ⟨Int.mul_nonneg h0 h2, Int.le_trans (Int.mul_le_mul_of_nonneg_right h1 h2) (Int.mul_le_mul_of_nonneg_left h3 (by omega))⟩
def crV (c : Int × Int × Int) : Value := .tuple #[.int .i64 c.1, .int .i64 c.2.1, .int .i64 c.2.2]
theorem crN_bad {p s n : Int} (h : crB p s n = false) : crN p s n = (0, 0, 1) := by unfold crN; simp [h]
theorem crN_zero {p n : Int} (h : crB p 0 n = true) : crN p 0 n = (0, 1, 0) := by unfold crN; simp [h]
theorem crN_good {p s n : Int} (h : crB p s n = true) (h0 : s ≠ 0) : crN p s n = ((lowN (n * p) s).1, (lowN (n * p) s).2, 0) := by unfold crN; simp [h, h0]

theorem crest_any (en pk su dn n : Int) (w : World) :
    Calls Try.prog 29 #[.agg #[.int .i64 en, .int .i64 pk, .int .i64 su, .int .i64 dn], .int .i64 n] w fun e w' => e = .returned (crV (crN pk su n)) ∧ Below w.heap.size w w' := by
  by_cases h1 : 1 ≤ n ∧ n ≤ 24
  · have H1 := Lib.hid (show wB 1 24 [n] = true by rw [wB_one]; simp [h1])
    obtain ⟨n1, n2⟩ := h1
    by_cases h2 : 0 ≤ pk ∧ pk ≤ 48000000
    · have H2 := Lib.hid (show wB 0 48000000 [pk] = true by rw [wB_one]; simp [h2])
      obtain ⟨p1, p2⟩ := h2
      have hm := mul_bd (show 0 ≤ n by omega) n2 p1 p2
      obtain ⟨m1, m2⟩ := hm
      by_cases h3 : pk ≤ su ∧ su ≤ n * pk
      · have H3 := Lib.hid (show wB pk (n * pk) [su] = true by rw [wB_one]; simp [h3])
        have hc : crB pk su n = true := by unfold crB; simp; omega
        obtain ⟨s1, s2⟩ := h3
        by_cases h4 : su = 0
        · subst h4
          rw [crN_zero hc]
          clear hc
          go_enter Try.func29, Try.ntmps29
          go_wp2_with (first
            | (go_at_call_of 54 (Value.int .i64 24); refine (within_any 1 24 _ 1 _ _ [n] _ rfl (le_maxLen (by omega)) (RI.new1 (by simp))).mono ?_; rintro e w' ⟨rfl, rfl⟩; rw [H1.out])
            | (go_at_call_of 54 (Value.int .i64 48000000); refine (within_any 0 48000000 _ 1 _ _ [pk] _ rfl (le_maxLen (by omega)) (RI.new1 (by simp))).mono ?_; rintro e w' ⟨rfl, rfl⟩; rw [H2.out])
            | (go_at_call 54; refine (within_any pk (n * pk) _ 1 _ _ [0] _ rfl (le_maxLen (by omega)) (RI.new1 (by simp))).mono ?_; rintro e w' ⟨rfl, rfl⟩; rw [H3.out]))
          go_ret3
          exact ⟨rfl, by go_grown⟩
        · rw [crN_good hc h4]
          have h4' : ((su : Int) == 0) = false := by simpa using h4
          clear hc
          have HL := Lib.hid (fun W => lowest_any (n * pk) su W (by omega) (by omega) (by omega) (by omega))
          generalize lowN (n * pk) su = lw at HL ⊢
          obtain ⟨l1, l2⟩ := lw
          dsimp only at HL ⊢
          go_enter Try.func29, Try.ntmps29
          go_wp2_with (first
            | (go_at_call_of 54 (Value.int .i64 24); refine (within_any 1 24 _ 1 _ _ [n] _ rfl (le_maxLen (by omega)) (RI.new1 (by simp))).mono ?_; rintro e w' ⟨rfl, rfl⟩; rw [H1.out])
            | (go_at_call_of 54 (Value.int .i64 48000000); refine (within_any 0 48000000 _ 1 _ _ [pk] _ rfl (le_maxLen (by omega)) (RI.new1 (by simp))).mono ?_; rintro e w' ⟨rfl, rfl⟩; rw [H2.out])
            | (go_at_call 54; refine (within_any pk (n * pk) _ 1 _ _ [su] _ rfl (le_maxLen (by omega)) (RI.new1 (by simp))).mono ?_; rintro e w' ⟨rfl, rfl⟩; rw [H3.out])
            | (go_at_call 62; refine Calls.mono (HL.out _) ?_; rintro e wL ⟨rfl, hbL⟩))
          go_ret3
          exact ⟨rfl, Below.trans (by go_grown) (hbL.mono (by simp <;> omega))⟩
      · have H3 := Lib.hid (show wB pk (n * pk) [su] = false by rw [wB_one]; simp; omega)
        have hc : crB pk su n = false := by unfold crB; simp; omega
        rw [crN_bad hc]
        clear hc h3
        go_enter Try.func29, Try.ntmps29
        go_wp2_with (first
          | (go_at_call_of 54 (Value.int .i64 24); refine (within_any 1 24 _ 1 _ _ [n] _ rfl (le_maxLen (by omega)) (RI.new1 (by simp))).mono ?_; rintro e w' ⟨rfl, rfl⟩; rw [H1.out])
          | (go_at_call_of 54 (Value.int .i64 48000000); refine (within_any 0 48000000 _ 1 _ _ [pk] _ rfl (le_maxLen (by omega)) (RI.new1 (by simp))).mono ?_; rintro e w' ⟨rfl, rfl⟩; rw [H2.out])
          | (go_at_call 54; refine (within_any pk (n * pk) _ 1 _ _ [su] _ rfl (le_maxLen (by omega)) (RI.new1 (by simp))).mono ?_; rintro e w' ⟨rfl, rfl⟩; rw [H3.out]))
        go_ret3
        exact ⟨rfl, by go_grown⟩
    · have H2 := Lib.hid (show wB 0 48000000 [pk] = false by rw [wB_one]; simp; omega)
      have hc : crB pk su n = false := by unfold crB; simp; omega
      rw [crN_bad hc]
      clear hc h2
      go_enter Try.func29, Try.ntmps29
      go_wp2_with (first
        | (go_at_call_of 54 (Value.int .i64 24); refine (within_any 1 24 _ 1 _ _ [n] _ rfl (le_maxLen (by omega)) (RI.new1 (by simp))).mono ?_; rintro e w' ⟨rfl, rfl⟩; rw [H1.out])
        | (go_at_call_of 54 (Value.int .i64 48000000); refine (within_any 0 48000000 _ 1 _ _ [pk] _ rfl (le_maxLen (by omega)) (RI.new1 (by simp))).mono ?_; rintro e w' ⟨rfl, rfl⟩; rw [H2.out]))
      go_ret3
      exact ⟨rfl, by go_grown⟩
  · have H1 := Lib.hid (show wB 1 24 [n] = false by rw [wB_one]; simp; omega)
    have hc : crB pk su n = false := by unfold crB; simp; omega
    rw [crN_bad hc]
    clear hc h1
    go_enter Try.func29, Try.ntmps29
    go_wp2_with (go_at_call_of 54 (Value.int .i64 24); refine (within_any 1 24 _ 1 _ _ [n] _ rfl (le_maxLen (by omega)) (RI.new1 (by simp))).mono ?_; rintro e w' ⟨rfl, rfl⟩; rw [H1.out])
    go_ret3
    exact ⟨rfl, by go_grown⟩

theorem rcrest_any (en pk su dn n : Int) (w : World) :
    Calls Try.prog 30 #[.agg #[.int .i64 en, .int .i64 pk, .int .i64 su, .int .i64 dn], .int .i64 n] w fun e w' => e = .returned (crV (crN pk su n)) ∧ Below w.heap.size w w' := by
  by_cases h1 : 1 ≤ n ∧ n ≤ 24
  · have H1 := Lib.hid (rwithin_yes h1.1 h1.2)
    obtain ⟨n1, n2⟩ := h1
    by_cases h2 : 0 ≤ pk ∧ pk ≤ 48000000
    · have H2 := Lib.hid (rwithin_yes h2.1 h2.2)
      obtain ⟨p1, p2⟩ := h2
      have hm := mul_bd (show 0 ≤ n by omega) n2 p1 p2
      obtain ⟨m1, m2⟩ := hm
      by_cases h3 : pk ≤ su ∧ su ≤ n * pk
      · have H3 := Lib.hid (rwithin_yes h3.1 h3.2)
        have hc : crB pk su n = true := by unfold crB; simp; omega
        obtain ⟨s1, s2⟩ := h3
        by_cases h4 : su = 0
        · subst h4
          rw [crN_zero hc]
          clear hc
          go_enter Try.func30, Try.ntmps30
          go_wp2_with (first
            | (go_at_call_of 56 (Value.int .i64 24); refine (H1.out _).mono ?_; rintro e w' ⟨rfl, rfl⟩)
            | (go_at_call_of 56 (Value.int .i64 48000000); refine (H2.out _).mono ?_; rintro e w' ⟨rfl, rfl⟩)
            | (go_at_call 56; refine (H3.out _).mono ?_; rintro e w' ⟨rfl, rfl⟩))
          go_ret3
          exact ⟨rfl, by go_grown⟩
        · rw [crN_good hc h4]
          have h4' : ((su : Int) == 0) = false := by simpa using h4
          clear hc
          have HL := Lib.hid (fun W => rlowest_any (n * pk) su W (by omega) (by omega) (by omega) (by omega))
          generalize lowN (n * pk) su = lw at HL ⊢
          obtain ⟨l1, l2⟩ := lw
          dsimp only at HL ⊢
          go_enter Try.func30, Try.ntmps30
          go_wp2_with (first
            | (go_at_call_of 56 (Value.int .i64 24); refine (H1.out _).mono ?_; rintro e w' ⟨rfl, rfl⟩)
            | (go_at_call_of 56 (Value.int .i64 48000000); refine (H2.out _).mono ?_; rintro e w' ⟨rfl, rfl⟩)
            | (go_at_call 56; refine (H3.out _).mono ?_; rintro e w' ⟨rfl, rfl⟩)
            | (go_at_call 63; refine Calls.mono (HL.out _) ?_; rintro e wL ⟨rfl, hbL⟩))
          go_ret3
          exact ⟨rfl, Below.trans (by go_grown) (hbL.mono (by simp <;> omega))⟩
      · have H3 := Lib.hid (rwithin_no h3)
        have hc : crB pk su n = false := by unfold crB; simp; omega
        rw [crN_bad hc]
        clear hc h3
        go_enter Try.func30, Try.ntmps30
        go_wp2_with (first
          | (go_at_call_of 56 (Value.int .i64 24); refine (H1.out _).mono ?_; rintro e w' ⟨rfl, rfl⟩)
          | (go_at_call_of 56 (Value.int .i64 48000000); refine (H2.out _).mono ?_; rintro e w' ⟨rfl, rfl⟩)
          | (go_at_call 56; refine (H3.out _).mono ?_; rintro e w' ⟨rfl, rfl⟩))
        go_ret3
        exact ⟨rfl, by go_grown⟩
    · have H2 := Lib.hid (rwithin_no h2)
      have hc : crB pk su n = false := by unfold crB; simp; omega
      rw [crN_bad hc]
      clear hc h2
      go_enter Try.func30, Try.ntmps30
      go_wp2_with (first
        | (go_at_call_of 56 (Value.int .i64 24); refine (H1.out _).mono ?_; rintro e w' ⟨rfl, rfl⟩)
        | (go_at_call 56; refine (H2.out _).mono ?_; rintro e w' ⟨rfl, rfl⟩))
      go_ret3
      exact ⟨rfl, by go_grown⟩
  · have H1 := Lib.hid (rwithin_no h1)
    have hc : crB pk su n = false := by unfold crB; simp; omega
    rw [crN_bad hc]
    clear hc h1
    go_enter Try.func30, Try.ntmps30
    go_wp2_with (go_at_call 56; refine (H1.out _).mono ?_; rintro e w' ⟨rfl, rfl⟩)
    go_ret3
    exact ⟨rfl, by go_grown⟩

end Go.Proofs.Ytliocbjmledfbaa

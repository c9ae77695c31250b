/- Plain mathematics of the law of the whole. -/
import Derived.Test.YtliocbjmledfbaaHRes
namespace Go.Proofs.Ytliocbjmledfbaa

def sqN (L : List Int) (t : Int) (k : Nat) : Int := sm (fun i => atL L i * t * atL L i * t) k
def ppN (L : List Int) (m : Nat) (k : Nat) : Int := sm (fun i => paN L m (i % m) L.length * paN L m (i % m) L.length) k
def alN (L : List Int) (m : Nat) : Nat → Bool
  | 0 => true
  | k + 1 => alN L m k && (atL L k == atL L (k % m))
theorem alN_iff (L : List Int) (m n : Nat) : alN L m n = true ↔ ∀ k, k < n → atL L k = atL L (k % m) := by
  induction n with
  | zero => simp [alN]
  | succ n ih =>
    simp only [alN, Bool.and_eq_true, ih, beq_iff_eq]
    constructor
    · rintro ⟨h1, h2⟩ k hk
      by_cases e : k = n
      · subst e; exact h2
      · exact h1 k (by omega)
    · intro h
      exact ⟨fun k hk => h k (by omega), h n (by omega)⟩
theorem te_bd {L : List Int} {t : Int} {tn m : Nat} (h : TE L t tn m) : 1 ≤ t ∧ t ≤ 24 := by
  have := h.te
  have := h.t1
  have := h.t2
  omega
theorem xt_bd {x t : Int} (hx : -1000000 ≤ x ∧ x ≤ 1000000) (ht : 1 ≤ t ∧ t ≤ 24) : (-24000000 ≤ x * t ∧ x * t ≤ 24000000) ∧ (-24000000000000 ≤ x * t * x ∧ x * t * x ≤ 24000000000000) ∧ (0 ≤ x * t * x * t ∧ x * t * x * t ≤ 576000000000000) := by
  have a1 : x * t ≤ 1000000 * t := Int.mul_le_mul_of_nonneg_right hx.2 (by omega)
  have a2 : -1000000 * t ≤ x * t := Int.mul_le_mul_of_nonneg_right hx.1 (by omega)
  have b : -24000000 ≤ x * t ∧ x * t ≤ 24000000 := by omega
  have c : x * t * x = x * x * t := by grind
  have d := sq_bd (M := 1000000) hx
  have d1 : x * x * t ≤ 1000000000000 * t := Int.mul_le_mul_of_nonneg_right (by omega) (by omega)
  have d2 : 0 ≤ x * x * t := Int.mul_nonneg d.1 (by omega)
  have e : x * t * x * t = (x * t) * (x * t) := by grind
  have f := sq_bd (M := 24000000) b
  rw [c, ← c, e, c]
  omega
theorem wh_step {L : List Int} {t : Int} {tn m k : Nat} (h : TE L t tn m) (hk : k < L.length) (x p : Int) (hx : atL L k = x) (hp : paN L m (k % m) L.length = p) :
    IntKind.i64.wrap (x * t) = x * t ∧ IntKind.i64.wrap (x * t * x) = x * t * x ∧ IntKind.i64.wrap (x * t * x * t) = x * t * x * t ∧ IntKind.i64.wrap (sqN L t k + x * t * x * t) = sqN L t (k + 1) ∧
    IntKind.i64.wrap (p * p) = p * p ∧ IntKind.i64.wrap (ppN L m k + p * p) = ppN L m (k + 1) := by
  subst hx hp
  have hb := atL_bd (M := 1000000) (by omega) h.b
  have hn := h.n2
  have ht := te_bd h
  have hp : ∀ i, -24000000 ≤ paN L m (i % m) L.length ∧ paN L m (i % m) L.length ≤ 24000000 := fun i => by
    have := paN_bd h.b m (i % m) L.length
    omega
  have q := xt_bd (hb k) ht
  have s : ∀ i, i < k + 1 → -576000000000000 ≤ atL L i * t * atL L i * t ∧ atL L i * t * atL L i * t ≤ 576000000000000 := fun i _ => by
    have := (xt_bd (hb i) ht).2.2
    omega
  have s1 := sm_bd s
  have s2 := sm_bd (n := k) (fun i hi => s i (by omega))
  have r : ∀ i, i < k + 1 → -576000000000000 ≤ paN L m (i % m) L.length * paN L m (i % m) L.length ∧ paN L m (i % m) L.length * paN L m (i % m) L.length ≤ 576000000000000 := fun i _ => by
    have := sq_bd (M := 24000000) (hp i)
    omega
  have r1 := sm_bd r
  have r2 := r k (by omega)
  have e1 : sqN L t (k + 1) = sqN L t k + atL L k * t * atL L k * t := rfl
  have e2 : ppN L m (k + 1) = ppN L m k + paN L m (k % m) L.length * paN L m (k % m) L.length := rfl
  have f1 : sqN L t (k + 1) = sm (fun i => atL L i * t * atL L i * t) (k + 1) := rfl
  have f2 : ppN L m (k + 1) = sm (fun i => paN L m (i % m) L.length * paN L m (i % m) L.length) (k + 1) := rfl
  refine ⟨IntWalk.i64_in _ (by omega), IntWalk.i64_in _ (by omega), IntWalk.i64_in _ (by omega), ?_, IntWalk.i64_in _ (by omega), ?_⟩
  · rw [← e1]; exact IntWalk.i64_in _ (by omega)
  · rw [← e2]; exact IntWalk.i64_in _ (by omega)
theorem reL_at {L : List Int} {t : Int} {tn m : Nat} (h : TE L t tn m) {k : Nat} (hk : k < L.length) : atL (reL L m t) k = atL L k * tn - paN L m (k % m) (tn * m) := by
  rw [reL_get hk, h.te, ← h.n]
theorem wh_squares {L : List Int} {t : Int} {tn m : Nat} (h : TE L t tn m) : sqN L t L.length = enN (reL L m t) L.length + ppN L m L.length := by
  have e := re_squares (L := L) (m := m) (t := tn)
  unfold sqN enN ppN
  rw [sm_congr (g := fun k => atL L k * tn * (atL L k * tn)) (fun k _ => by rw [h.te]; grind)]
  rw [sm_congr (f := fun k => atL (reL L m t) k * atL (reL L m t) k) (g := fun k => (atL L k * tn - paN L m (k % m) (tn * m)) * (atL L k * tn - paN L m (k % m) (tn * m))) (fun k hk => by rw [reL_at h hk])]
  rw [h.n]
  exact e
theorem wh_wrap {L : List Int} {t : Int} {tn m : Nat} (h : TE L t tn m) : IntKind.i64.wrap (enN (reL L m t) L.length + ppN L m L.length) = enN (reL L m t) L.length + ppN L m L.length := by
  rw [← wh_squares h]
  have hb := atL_bd (M := 1000000) (by omega) h.b
  have hn := h.n2
  have ht := te_bd h
  have s1 := sm_bd (n := L.length) (f := fun i => atL L i * t * atL L i * t) (M := 576000000000000) (fun i _ => by
    have := (xt_bd (hb i) ht).2.2
    omega)
  unfold sqN
  exact IntWalk.i64_in _ (by omega)
theorem wh_part {R : List Int} (hR : ∀ j, -48000000 ≤ atL R j ∧ atL R j ≤ 48000000) (m j : Nat) {q tn : Nat} (hq : q < tn) (ht : tn ≤ 24) :
    IntKind.i64.wrap (sm (fun q => atL R (q * m + j)) q + atL R (q * m + j)) = sm (fun q => atL R (q * m + j)) (q + 1) := by
  have s := sm_bd (n := q + 1) (f := fun q => atL R (q * m + j)) (M := 48000000) (fun i _ => hR _)
  have e : sm (fun q => atL R (q * m + j)) (q + 1) = sm (fun q => atL R (q * m + j)) q + atL R (q * m + j) := rfl
  rw [← e]
  exact IntWalk.i64_in _ (by omega)
theorem wh_alike {L : List Int} {t : Int} {tn m : Nat} (h : TE L t tn m) : (enN (reL L m t) L.length == 0) = alN L m L.length := by
  rw [Bool.eq_iff_iff, alN_iff, beq_iff_eq]
  have e := re_alike (L := L) (t := tn) (show 0 < m from h.m1) h.t1
  rw [← h.n] at e
  rw [← e]
  unfold enN
  rw [sm_zero_iff (fun k _ => (sq_bd (M := 48000000) (by by_cases hk : k < L.length
                                                         · rw [reL_get hk]; exact re_bd h k
                                                         · have : atL (reL L m t) k = 0 := by unfold atL; rw [List.getElem?_eq_none (by rw [reL_len]; omega)]; rfl
                                                           omega)).1)]
  constructor
  · intro a k hk
    have b := a k hk
    rw [reL_at h hk, ← h.n] at b
    rcases Int.mul_eq_zero.1 b with c | c <;> exact c
  · intro a k hk
    have b := a k hk
    rw [reL_at h hk, ← h.n, b]
    rfl
theorem wh_zero {L : List Int} {t : Int} {tn m j : Nat} (h : TE L t tn m) (hj : j < m) : sm (fun q => atL (reL L m t) (q * m + j)) tn = 0 := by
  rw [← re_zero (L := L) (m := m) (t := tn) j hj]
  refine sm_congr fun q hq => ?_
  have hq' : (q + 1) * m ≤ tn * m := Nat.mul_le_mul_right m hq
  have hlt : q * m + j < L.length := by rw [h.n]; rw [Nat.succ_mul] at hq'; omega
  rw [reL_at h hlt, show (q * m + j) % m = j by rw [Nat.mul_comm q m, Nat.mul_add_mod, Nat.mod_eq_of_lt hj]]
end Go.Proofs.Ytliocbjmledfbaa

/- Plain mathematics of Pattern, Residual, Measure: no program. -/
import Derived.Test.YtliocbjmledfbaaHW
namespace Go.Proofs.Ytliocbjmledfbaa

def teB (L : List Int) (t : Int) : Bool := decide (1 ≤ L.length ∧ L.length ≤ 24) && wB (-1000000) 1000000 L && decide (1 ≤ t ∧ t ≤ L.length) && decide ((L.length : Int) % t = 0)
def patN (L : List Int) (t : Int) : List Int × Int := if teB L t then (paL L (L.length / t.toNat), 0) else ([], 1)
def resN (L : List Int) (t : Int) : List Int × Int := if teB L t then (reL L (L.length / t.toNat) t, 0) else ([], 1)
def absZ (a : Int) : Int := max a (-a)
def pkN (R : List Int) : Nat → Int
  | 0 => 0
  | n + 1 => max (pkN R n) (absZ (atL R n))
def enN (R : List Int) (n : Nat) : Int := sm (fun k => atL R k * atL R k) n
def suN (R : List Int) (n : Nat) : Int := sm (fun k => absZ (atL R k)) n
structure Lv where
  en : Int
  pk : Int
  su : Int
  dn : Int
  er : Int
def meaN (L : List Int) (den t : Int) : Lv :=
  if teB L t && decide (1 ≤ den ∧ den ≤ 1000000) then ⟨enN (resN L t).1 L.length, pkN (resN L t).1 L.length, suN (resN L t).1 L.length, den * t, 0⟩ else ⟨0, 0, 0, 0, 1⟩

theorem teB_get {L : List Int} {t : Int} (h : teB L t = true) : (1 ≤ L.length ∧ L.length ≤ 24) ∧ wB (-1000000) 1000000 L = true ∧ (1 ≤ t ∧ t ≤ L.length) ∧ (L.length : Int) % t = 0 := by
  unfold teB at h
  simpa [and_assoc] using h
/-- So many teeth, with so many points each. -/
structure TE (L : List Int) (t : Int) (tn m : Nat) : Prop where
  te : t = (tn : Int)
  t1 : 1 ≤ tn
  t2 : tn ≤ 24
  m1 : 1 ≤ m
  m2 : m ≤ 24
  n : L.length = tn * m
  n2 : L.length ≤ 24
  b : wB (-1000000) 1000000 L = true
  q : L.length / t.toNat = m
theorem TE.get {L : List Int} {t : Int} (h : teB L t = true) : ∃ tn m, TE L t tn m := by
  obtain ⟨⟨h1, h2⟩, h3, ⟨h4, h5⟩, h6⟩ := teB_get h
  have e : t = (t.toNat : Int) := by omega
  have hmod : L.length % t.toNat = 0 := by
    rw [e] at h6
    have : ((L.length % t.toNat : Nat) : Int) = 0 := by rw [Int.natCast_emod]; exact h6
    omega
  have hm := Nat.div_add_mod L.length t.toNat
  rw [hmod, Nat.add_zero] at hm
  have hpos : 1 ≤ L.length / t.toNat := Nat.div_pos (by omega) (by omega)
  refine ⟨t.toNat, L.length / t.toNat, e, by omega, by omega, hpos, Nat.le_trans (Nat.div_le_self _ _) h2, hm.symm, h2, h3, rfl⟩
theorem atL_bd {L : List Int} {M : Int} (h0 : 0 ≤ M) (h : wB (-M) M L = true) (k : Nat) : -M ≤ atL L k ∧ atL L k ≤ M := by
  unfold atL
  cases e : L[k]? with
  | none => simp; omega
  | some x => exact wB_mem h e
theorem paN_bd {L : List Int} (h : wB (-1000000) 1000000 L = true) (m j n : Nat) : -(n * 1000000) ≤ paN L m j n ∧ paN L m j n ≤ n * 1000000 := by
  unfold paN
  refine sm_bd fun k _ => ?_
  have := atL_bd (M := 1000000) (by omega) h k
  split <;> omega
def papN (L : List Int) (m i : Nat) : List Int := (List.range m).map fun j => paN L m j i
theorem papN_len (L : List Int) (m i : Nat) : (papN L m i).length = m := by simp [papN]
theorem papN_get (L : List Int) (m i j : Nat) (h : j < m) : (papN L m i)[j]? = some (paN L m j i) := by simp [papN, h]
theorem papN_first (L : List Int) (m : Nat) : papN L m 0 = List.replicate m 0 := by
  apply List.ext_getElem (by simp [papN])
  intro j h1 h2
  simp [papN, paN, sm]
theorem papN_set (L : List Int) (m i : Nat) : (papN L m i).set (i % m) (paN L m (i % m) i + atL L i) = papN L m (i + 1) := by
  apply List.ext_getElem (by simp [papN])
  intro j h1 h2
  rw [List.getElem_set]
  simp only [papN, List.getElem_map, List.getElem_range, paN_step]
  by_cases e : i % m = j
  · rw [if_pos e, if_pos e, e]
  · rw [if_neg e, if_neg e]
    omega
theorem paL_pap (L : List Int) (m : Nat) : papN L m L.length = paL L m := rfl
/-- The residuals of the first k points. -/
def rpN (L : List Int) (m : Nat) (t : Int) (k : Nat) : List Int := (List.range k).map fun i => atL L i * t - paN L m (i % m) L.length
theorem rpN_len (L : List Int) (m : Nat) (t : Int) (k : Nat) : (rpN L m t k).length = k := by simp [rpN]
theorem rpN_step (L : List Int) (m : Nat) (t : Int) (k : Nat) : rpN L m t (k + 1) = rpN L m t k ++ [atL L k * t - paN L m (k % m) L.length] := by simp [rpN, List.range_succ]
theorem rpN_last (L : List Int) (m : Nat) (t : Int) : rpN L m t L.length = reL L m t := rfl
theorem reL_len (L : List Int) (m : Nat) (t : Int) : (reL L m t).length = L.length := by simp [reL]
theorem reL_get {L : List Int} {m : Nat} {t : Int} {k : Nat} (h : k < L.length) : atL (reL L m t) k = atL L k * t - paN L m (k % m) L.length := by
  simp [atL, reL, h]
theorem re_bd {L : List Int} {t : Int} {tn m : Nat} (h : TE L t tn m) (k : Nat) : -48000000 ≤ atL L k * t - paN L m (k % m) L.length ∧ atL L k * t - paN L m (k % m) L.length ≤ 48000000 := by
  have h1 := paN_bd h.b m (k % m) L.length
  have h2 := atL_bd (M := 1000000) (by omega) h.b k
  have h3 := h.n2
  have h4 : atL L k * t ≤ 1000000 * t := Int.mul_le_mul_of_nonneg_right h2.2 (by rw [h.te]; omega)
  have h5 : -1000000 * t ≤ atL L k * t := Int.mul_le_mul_of_nonneg_right h2.1 (by rw [h.te]; omega)
  have h6 := h.t2
  have h7 := h.te
  omega
theorem sq_bd {x M : Int} (h : -M ≤ x ∧ x ≤ M) : 0 ≤ x * x ∧ x * x ≤ M * M := by
  constructor
  · rcases Int.le_total 0 x with h0 | h0
    · exact Int.mul_nonneg h0 h0
    · exact Int.mul_nonneg_of_nonpos_of_nonpos h0 h0
  · rcases Int.le_total 0 x with h0 | h0
    · exact Int.mul_le_mul h.2 h.2 h0 (by omega)
    · have := Int.mul_le_mul (show -x ≤ M by omega) (show -x ≤ M by omega) (by omega) (by omega : 0 ≤ M)
      rwa [Int.neg_mul_neg] at this
theorem lv_bd {R : List Int} {M : Int} (h0 : 0 ≤ M) (h : ∀ k, -M ≤ atL R k ∧ atL R k ≤ M) (n : Nat) : (0 ≤ enN R n ∧ enN R n ≤ n * (M * M)) ∧ (0 ≤ pkN R n ∧ pkN R n ≤ M) ∧ (0 ≤ suN R n ∧ suN R n ≤ n * M) := by
  refine ⟨⟨sm_nonneg fun k _ => (sq_bd (h k)).1, (sm_bd (M := M * M) fun k _ => ?_).2⟩, ?_, ⟨sm_nonneg fun k _ => ?_, (sm_bd (M := M) fun k _ => ?_).2⟩⟩
  · have a := sq_bd (h k)
    have b : 0 ≤ M * M := Int.mul_nonneg h0 h0
    omega
  · induction n with
    | zero => simp [pkN]; omega
    | succ n ih => have := h n; simp only [pkN, absZ]; omega
  · have := h k; simp only [absZ]; omega
  · have := h k; simp only [absZ]; omega
end Go.Proofs.Ytliocbjmledfbaa

/- At a knot a table has its own value. -/
import Derived.Test.YtjdahphnmeaolaaPure2
namespace Go.Proofs.Ytjdahphnmeaolaa

theorem st_mono {X : List Int} (h : stN X (X.length - 1) = true) {i j : Nat} (hij : i < j) (hj : j < X.length) : gz X i < gz X j := by
  induction j with
  | zero => omega
  | succ j ih =>
    have s := stN_get h (m := j) (by omega)
    have e : gz X j < gz X (j + 1) := by unfold gz; omega
    by_cases hlt : i < j
    · have := ih hlt (by omega)
      omega
    · obtain rfl : i = j := by omega
      exact e

theorem knot_on {X : List Int} (h : axB X = true) {i : Nat} (hi : i < X.length) : On X (gz X i) := by
  obtain ⟨a, b, c, d⟩ := axB_get h
  constructor
  · by_cases h0 : i = 0
    · rw [h0]; omega
    · have := st_mono d (i := 0) (j := i) (by omega) hi
      omega
  · by_cases h0 : i = X.length - 1
    · rw [← h0]; omega
    · have := st_mono d (i := i) (j := X.length - 1) (by omega) (by omega)
      omega

/-- The part of a knot begins or ends with it. -/
theorem knot_part {X : List Int} (h : axB X = true) {i : Nat} (hi : i < X.length) : i = partN X (gz X i) ∨ i = partN X (gz X i) + 1 := by
  obtain ⟨a, b, c, d⟩ := axB_get h
  have o := knot_on h hi
  have s := seg_of h o.1 o.2
  have sl := s.lt
  have slo := s.lo
  have shi := s.hi
  generalize partN X (gz X i) = p at *
  rcases Nat.lt_trichotomy i p with hlt | hlt | hlt
  · have := st_mono d hlt (by omega)
    omega
  · exact .inl hlt
  · by_cases e : i = p + 1
    · exact .inr e
    · have := st_mono d (i := p + 1) (j := i) (by omega) hi
      omega

theorem knot_num {Y : List Int} {V : List (List Int)} (h : axB Y = true) {i k : Nat} (hk : k < Y.length) : kNum Y V i (gz Y k) = kDen Y (gz Y k) * gz (gr V i) k := by
  unfold kNum kDen
  rcases knot_part h hk with e | e
  · rw [← e]
    have : gz Y k - gz Y k = 0 := by omega
    rw [this]
    simp
  · rw [← e]
    have : gz Y k - gz Y k = 0 := by omega
    rw [this]
    simp

theorem knot_atN {X Y : List Int} {V : List (List Int)} (hx : axB X = true) (hy : axB Y = true) {i k : Nat} (hi : i < X.length) (hk : k < Y.length) : atN X Y V (gz X i) (gz Y k) = gz (gr V i) k * atD X Y (gz X i) (gz Y k) := by
  unfold atN atD
  rcases knot_part hx hi with e | e
  · rw [← e]
    simp only [knot_num hy hk]
    have : gz X i - gz X i = 0 := by omega
    rw [this]
    simp
    grind
  · rw [← e]
    simp only [knot_num hy hk]
    have : gz X i - gz X i = 0 := by omega
    rw [this]
    simp
    grind

theorem fl_mul {v d : Int} (h : 1 ≤ d) : fl (v * d) d = v := by
  unfold fl
  exact Int.mul_ediv_cancel v (by omega)
theorem cl_mul {v d : Int} (h : 1 ≤ d) : cl (v * d) d = v := by
  unfold cl
  rw [show -(v * d) = (-v) * d by grind, Int.mul_ediv_cancel (-v) (by omega)]
  omega

end Go.Proofs.Ytjdahphnmeaolaa

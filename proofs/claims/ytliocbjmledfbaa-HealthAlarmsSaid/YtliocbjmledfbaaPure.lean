/- Plain mathematics: no program. -/
namespace Go.Proofs.Ytliocbjmledfbaa

/-- whole.Floor, whole.Ceil. -/
def fl (a b : Int) : Int := a / b
def cl (a b : Int) : Int := -((-a) / b)
/-- whole.Within. -/
def wB (lo hi : Int) (xs : List Int) : Bool := xs.all fun n => decide (lo ≤ n) && decide (n ≤ hi)

theorem fl_tdiv_neg {a b : Int} (hb : 1 ≤ b) (h : a.tmod b < 0) : a.tdiv b - 1 = fl a b := by
  unfold fl
  have h1 := Int.mul_tdiv_add_tmod a b
  have h2 := Int.mul_ediv_add_emod a b
  have h3 := Int.emod_nonneg a (show b ≠ 0 by omega)
  have h4 := Int.emod_lt_of_pos a (show 0 < b by omega)
  have h5 : -b < a.tmod b := by
    have := Int.lt_tmod_of_pos a (show 0 < b by omega)
    omega
  have h6 : b * (a.tdiv b - 1 - a / b) = a % b - a.tmod b - b := by grind
  rcases Int.lt_trichotomy (a.tdiv b - 1 - a / b) 0 with h | h | h
  · have : b * (a.tdiv b - 1 - a / b) ≤ b * (-1) := Int.mul_le_mul_of_nonneg_left (by omega) (by omega)
    omega
  · omega
  · have : b * 1 ≤ b * (a.tdiv b - 1 - a / b) := Int.mul_le_mul_of_nonneg_left (by omega) (by omega)
    omega

theorem fl_tdiv_pos {a b : Int} (hb : 1 ≤ b) (h : 0 ≤ a.tmod b) : a.tdiv b = fl a b := by
  unfold fl
  have h1 := Int.mul_tdiv_add_tmod a b
  have h2 := Int.mul_ediv_add_emod a b
  have h3 := Int.emod_nonneg a (show b ≠ 0 by omega)
  have h4 := Int.emod_lt_of_pos a (show 0 < b by omega)
  have h5 : a.tmod b < b := Int.tmod_lt_of_pos a (by omega)
  have h6 : b * (a.tdiv b - a / b) = a % b - a.tmod b := by grind
  rcases Int.lt_trichotomy (a.tdiv b - a / b) 0 with h | h | h
  · have : b * (a.tdiv b - a / b) ≤ b * (-1) := Int.mul_le_mul_of_nonneg_left (by omega) (by omega)
    omega
  · omega
  · have : b * 1 ≤ b * (a.tdiv b - a / b) := Int.mul_le_mul_of_nonneg_left (by omega) (by omega)
    omega

theorem tdiv_bd {a b M : Int} (h1 : -M ≤ a) (h2 : a ≤ M) : -M ≤ a.tdiv b ∧ a.tdiv b ≤ M := by
  have h := Int.natAbs_tdiv_le_natAbs a b
  omega

theorem fl_bd {a b M : Int} (hb : 1 ≤ b) (h1 : -M ≤ a) (h2 : a ≤ M) : -M ≤ fl a b ∧ fl a b ≤ M := by
  unfold fl
  by_cases h0 : 0 ≤ a
  · have := Int.ediv_nonneg h0 (show 0 ≤ b by omega)
    have := Int.ediv_le_self b h0
    omega
  · have h3 := Int.ediv_neg_of_neg_of_pos (show a < 0 by omega) (show 0 < b by omega)
    have h4 : a ≤ a / b := by
      rw [Int.le_ediv_iff_mul_le (by omega)]
      have : a * b ≤ a * 1 := Int.mul_le_mul_of_nonpos_left (by omega) (by omega)
      omega
    omega

theorem wB_step {lo hi x : Int} {xs : List Int} {k : Nat} (hx : xs[k]? = some x) : wB lo hi (xs.take (k + 1)) = (wB lo hi (xs.take k) && (decide (lo ≤ x) && decide (x ≤ hi))) := by
  unfold wB
  rw [List.take_add_one, hx]
  simp

theorem wB_bad {lo hi x : Int} {xs : List Int} {k : Nat} (hx : xs[k]? = some x) (h : x < lo ∨ hi < x) : wB lo hi xs = false := by
  unfold wB
  rw [List.all_eq_false]
  obtain ⟨hk, rfl⟩ := List.getElem?_eq_some_iff.1 hx
  exact ⟨_, List.getElem_mem hk, by simp; omega⟩

theorem wB_mem {lo hi x : Int} {xs : List Int} {k : Nat} (h : wB lo hi xs = true) (hx : xs[k]? = some x) : lo ≤ x ∧ x ≤ hi := by
  unfold wB at h
  rw [List.all_eq_true] at h
  obtain ⟨hk, rfl⟩ := List.getElem?_eq_some_iff.1 hx
  have := h _ (List.getElem_mem hk)
  simp at this
  omega

/-- The steps of an axis. -/
def stN (X : List Int) (n : Nat) : Bool := (List.range n).all fun j => decide (1 ≤ X[j + 1]?.getD 0 - X[j]?.getD 0) && decide (X[j + 1]?.getD 0 - X[j]?.getD 0 ≤ 10000)
def axB (X : List Int) : Bool := decide (2 ≤ X.length) && decide (X.length ≤ 12) && wB (-1000000) 1000000 X && stN X (X.length - 1)

theorem stN_step (X : List Int) (n : Nat) : stN X (n + 1) = (stN X n && (decide (1 ≤ X[n + 1]?.getD 0 - X[n]?.getD 0) && decide (X[n + 1]?.getD 0 - X[n]?.getD 0 ≤ 10000))) := by
  unfold stN
  rw [List.range_succ, List.all_append]
  simp
theorem stN_bad {X : List Int} {n m : Nat} (h : m < n) (hm : X[m + 1]?.getD 0 - X[m]?.getD 0 < 1 ∨ 10000 < X[m + 1]?.getD 0 - X[m]?.getD 0) : stN X n = false := by
  unfold stN
  rw [List.all_eq_false]
  exact ⟨m, List.mem_range.2 h, by simp; omega⟩
theorem stN_get {X : List Int} {n m : Nat} (h : stN X n = true) (hm : m < n) : 1 ≤ X[m + 1]?.getD 0 - X[m]?.getD 0 ∧ X[m + 1]?.getD 0 - X[m]?.getD 0 ≤ 10000 := by
  unfold stN at h
  rw [List.all_eq_true] at h
  have := h m (List.mem_range.2 hm)
  simp at this
  omega

/-- CheckTable. -/
def rowsB (n : Nat) (V : List (List Int)) : Bool := V.all fun r => decide (r.length = n) && wB (-1000000) 1000000 r
def ctB (X Y : List Int) (V : List (List Int)) : Bool := axB X && axB Y && decide (V.length = X.length) && rowsB Y.length V
def ctE (X Y : List Int) (V : List (List Int)) : Int := if ctB X Y V then 0 else 11
theorem ctE_yes {X Y : List Int} {V : List (List Int)} (h : ctB X Y V = true) : ctE X Y V = 0 := by unfold ctE; rw [h]; rfl
theorem ctE_no {X Y : List Int} {V : List (List Int)} (h : ctB X Y V = false) : ctE X Y V = 11 := by unfold ctE; rw [h]; rfl
theorem rowsB_step {n k : Nat} {V : List (List Int)} {r : List Int} (hr : V[k]? = some r) : rowsB n (V.take (k + 1)) = (rowsB n (V.take k) && (decide (r.length = n) && wB (-1000000) 1000000 r)) := by
  unfold rowsB
  rw [List.take_add_one, hr]
  simp
theorem rowsB_bad {n k : Nat} {V : List (List Int)} {r : List Int} (hr : V[k]? = some r) (h : (decide (r.length = n) && wB (-1000000) 1000000 r) = false) : rowsB n V = false := by
  unfold rowsB
  rw [List.all_eq_false]
  obtain ⟨hk, rfl⟩ := List.getElem?_eq_some_iff.1 hr
  exact ⟨_, List.getElem_mem hk, by simp [h]⟩
theorem rowsB_get {n k : Nat} {V : List (List Int)} {r : List Int} (h : rowsB n V = true) (hr : V[k]? = some r) : r.length = n ∧ wB (-1000000) 1000000 r = true := by
  unfold rowsB at h
  rw [List.all_eq_true] at h
  obtain ⟨hk, rfl⟩ := List.getElem?_eq_some_iff.1 hr
  have := h _ (List.getElem_mem hk)
  simpa using this

end Go.Proofs.Ytliocbjmledfbaa

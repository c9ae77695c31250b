/- Plain mathematics of an average without its teeth: no program. -/
import Derived.Test.YtliocbjmledfbaaHP
namespace Go.Proofs.Ytliocbjmledfbaa

/-- A sum. -/
def sm (f : Nat → Int) : Nat → Int
  | 0 => 0
  | n + 1 => sm f n + f n
theorem sm_congr {f g : Nat → Int} {n : Nat} (h : ∀ k, k < n → f k = g k) : sm f n = sm g n := by
  induction n with
  | zero => rfl
  | succ n ih => simp only [sm]; rw [ih (fun k hk => h k (by omega)), h n (by omega)]
theorem sm_add (f g : Nat → Int) (n : Nat) : sm (fun k => f k + g k) n = sm f n + sm g n := by
  induction n with
  | zero => rfl
  | succ n ih => simp only [sm]; rw [ih]; omega
theorem sm_sub (f g : Nat → Int) (n : Nat) : sm (fun k => f k - g k) n = sm f n - sm g n := by
  induction n with
  | zero => rfl
  | succ n ih => simp only [sm]; rw [ih]; omega
theorem sm_mul (c : Int) (f : Nat → Int) (n : Nat) : sm (fun k => c * f k) n = c * sm f n := by
  induction n with
  | zero => simp [sm]
  | succ n ih => simp only [sm]; rw [ih]; grind
theorem sm_zero (n : Nat) : sm (fun _ => 0) n = 0 := by
  induction n with
  | zero => rfl
  | succ n ih => simp only [sm]; rw [ih]; rfl
theorem sm_const (c : Int) (n : Nat) : sm (fun _ => c) n = n * c := by
  induction n with
  | zero => simp [sm]
  | succ n ih => simp only [sm]; rw [ih]; grind
theorem sm_append (f : Nat → Int) (a b : Nat) : sm f (a + b) = sm f a + sm (fun k => f (a + k)) b := by
  induction b with
  | zero => simp [sm]
  | succ b ih => rw [← Nat.add_assoc]; simp only [sm]; rw [ih]; omega
theorem sm_nonneg {f : Nat → Int} {n : Nat} (h : ∀ k, k < n → 0 ≤ f k) : 0 ≤ sm f n := by
  induction n with
  | zero => simp [sm]
  | succ n ih => simp only [sm]; have := ih (fun k hk => h k (by omega)); have := h n (by omega); omega
theorem sm_bd {f : Nat → Int} {n : Nat} {M : Int} (h : ∀ k, k < n → -M ≤ f k ∧ f k ≤ M) : -(n * M) ≤ sm f n ∧ sm f n ≤ n * M := by
  induction n with
  | zero => simp [sm]
  | succ n ih =>
    simp only [sm]
    have := ih (fun k hk => h k (by omega))
    have := h n (by omega)
    have e : ((n + 1 : Nat) : Int) * M = n * M + M := by grind
    omega
theorem sm_zero_iff {f : Nat → Int} {n : Nat} (h : ∀ k, k < n → 0 ≤ f k) : sm f n = 0 ↔ ∀ k, k < n → f k = 0 := by
  induction n with
  | zero => simp [sm]
  | succ n ih =>
    have ih' := ih (fun k hk => h k (by omega))
    have h1 := sm_nonneg (fun k hk => h k (show k < n + 1 by omega)) (n := n)
    have h2 := h n (by omega)
    simp only [sm]
    constructor
    · intro e k hk
      by_cases hkn : k = n
      · subst hkn; omega
      · exact ih'.1 (by omega) k (by omega)
    · intro e
      rw [ih'.2 (fun k hk => e k (by omega)), e n (by omega)]
      rfl
/-- A sum over rows and columns. -/
theorem sm_grid (f : Nat → Int) (m t : Nat) : sm f (t * m) = sm (fun q => sm (fun j => f (q * m + j)) m) t := by
  induction t with
  | zero => simp [sm]
  | succ t ih => rw [Nat.succ_mul, sm_append, ih]; simp only [sm]
theorem sm_swap (f : Nat → Nat → Int) (m t : Nat) : sm (fun q => sm (fun j => f q j) m) t = sm (fun j => sm (fun q => f q j) t) m := by
  induction t with
  | zero => simp only [sm]; rw [sm_zero]
  | succ t ih => simp only [sm]; rw [ih, ← sm_add]

/-! ### The pattern: what the points alike are together -/
def atL (L : List Int) (k : Nat) : Int := L[k]?.getD 0
/-- .. over the first n points. -/
def paN (L : List Int) (m j : Nat) (n : Nat) : Int := sm (fun k => if k % m = j then atL L k else 0) n
def paL (L : List Int) (m : Nat) : List Int := (List.range m).map fun j => paN L m j L.length
def reL (L : List Int) (m : Nat) (teeth : Int) : List Int := (List.range L.length).map fun k => atL L k * teeth - paN L m (k % m) L.length

theorem paN_step (L : List Int) (m j n : Nat) : paN L m j (n + 1) = paN L m j n + (if n % m = j then atL L n else 0) := rfl
theorem sm_pick (f : Nat → Int) (m j : Nat) (hj : j < m) : sm (fun i => if i = j then f i else 0) m = f j := by
  induction m with
  | zero => omega
  | succ m ih =>
    simp only [sm]
    by_cases h : j = m
    · subst h
      rw [sm_congr (g := fun _ => 0) (fun k hk => by rw [if_neg (by omega)]), sm_zero]
      simp
    · rw [ih (by omega), if_neg (by omega)]
      omega
theorem paN_grid (L : List Int) (m t j : Nat) (hj : j < m) : paN L m j (t * m) = sm (fun q => atL L (q * m + j)) t := by
  unfold paN
  rw [sm_grid]
  refine sm_congr fun q _ => ?_
  rw [← sm_pick (fun i => atL L (q * m + i)) m j hj]
  refine sm_congr fun i hi => ?_
  rw [Nat.mul_comm q m, Nat.mul_add_mod, Nat.mod_eq_of_lt hi]

section
variable {L : List Int} {m t : Nat} (hm : 0 < m)
include hm
omit hm in
/-- The residuals of the points that are alike are together 0. -/
theorem re_zero (j : Nat) (hj : j < m) : sm (fun q => atL L (q * m + j) * t - paN L m j (t * m)) t = 0 := by
  rw [sm_sub, sm_const, paN_grid L m t j hj, sm_congr (g := fun q => (t : Int) * atL L (q * m + j)) (fun k _ => by grind), sm_mul]
  omega
omit hm in
/-- The squares. -/
theorem re_squares : sm (fun k => atL L k * t * (atL L k * t)) (t * m) = sm (fun k => (atL L k * t - paN L m (k % m) (t * m)) * (atL L k * t - paN L m (k % m) (t * m))) (t * m) + sm (fun k => paN L m (k % m) (t * m) * paN L m (k % m) (t * m)) (t * m) := by
  have h0 : sm (fun k => paN L m (k % m) (t * m) * (atL L k * t - paN L m (k % m) (t * m))) (t * m) = 0 := by
    rw [sm_grid, sm_swap]
    rw [sm_congr (g := fun _ => 0) (fun j hj => ?_), sm_zero]
    have e : ∀ q, (q * m + j) % m = j := fun q => by rw [Nat.mul_comm q m, Nat.mul_add_mod, Nat.mod_eq_of_lt hj]
    rw [sm_congr (g := fun q => paN L m j (t * m) * (atL L (q * m + j) * t - paN L m j (t * m))) (fun q _ => by rw [e]), sm_mul, re_zero j hj]
    simp
  have h1 := sm_add (fun k => (atL L k * t - paN L m (k % m) (t * m)) * (atL L k * t - paN L m (k % m) (t * m))) (fun k => paN L m (k % m) (t * m) * paN L m (k % m) (t * m)) (t * m)
  rw [← h1]
  have h2 : sm (fun k => atL L k * t * (atL L k * t)) (t * m) = sm (fun k => ((atL L k * t - paN L m (k % m) (t * m)) * (atL L k * t - paN L m (k % m) (t * m)) + paN L m (k % m) (t * m) * paN L m (k % m) (t * m)) + (2 * (paN L m (k % m) (t * m) * (atL L k * t - paN L m (k % m) (t * m))))) (t * m) := sm_congr fun k _ => by grind
  rw [h2, sm_add, sm_mul, h0]
  omega
/-- Nothing is left exactly if the points that are alike have equal sums. -/
theorem re_alike (ht : 0 < t) : (∀ k, k < t * m → atL L k * t - paN L m (k % m) (t * m) = 0) ↔ ∀ k, k < t * m → atL L k = atL L (k % m) := by
  constructor
  · intro h k hk
    have a := h k hk
    have hkm : k % m < t * m := by
      have := Nat.mod_lt k hm
      have : 1 * m ≤ t * m := Nat.mul_le_mul_right m ht
      omega
    have b := h (k % m) hkm
    rw [Nat.mod_mod] at b
    have e : atL L k * t = atL L (k % m) * t := by omega
    exact Int.eq_of_mul_eq_mul_right (by omega) e
  · intro h k hk
    have hj := Nat.mod_lt k hm
    rw [paN_grid L m t (k % m) hj, h k hk, sm_congr (g := fun _ => atL L (k % m)) (fun q hq => ?_), sm_const, Int.mul_comm]
    · omega
    · have hlt : q * m + k % m < t * m := by
        have : (q + 1) * m ≤ t * m := Nat.mul_le_mul_right m hq
        rw [Nat.succ_mul] at this
        omega
      rw [h _ hlt, Nat.mul_comm q m, Nat.mul_add_mod, Nat.mod_mod]
end
end Go.Proofs.Ytliocbjmledfbaa

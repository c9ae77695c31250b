/- Plain mathematics of layer 8: no program. -/
import Derived.Test.YtliocbjmledfbaaPure
namespace Go.Proofs.Ytliocbjmledfbaa

/-! ### Lowest terms -/
def gcI (a b : Int) : Int := (Int.gcd a b : Int)
theorem gcI_step (x y : Int) : gcI y (x % y) = gcI x y := by
  unfold gcI
  congr 1
  have e : x % y = x + (-(x / y)) * y := by have := Int.mul_ediv_add_emod x y; grind
  rw [e, Int.gcd_add_mul_right_right, Int.gcd_comm]
theorem gcI_zero {x : Int} (hx : 0 ≤ x) : gcI x 0 = x := by
  unfold gcI
  simp
  omega
theorem gcI_abs (a b : Int) : gcI (max a (-a)) b = gcI a b := by
  unfold gcI
  congr 1
  rcases Int.le_total 0 a with h | h
  · rw [show max a (-a) = a by omega]
  · rw [show max a (-a) = -a by omega, Int.neg_gcd]
theorem gcI_pos {a b : Int} (hb : 1 ≤ b) : 1 ≤ gcI a b := by
  unfold gcI
  have : 0 < Int.gcd a b := Int.gcd_pos_of_ne_zero_right a (by omega)
  omega
def lowN (a b : Int) : Int × Int := (a.tdiv (gcI a b), b / gcI a b)

/-! ### Ascending -/
def ascN (X : List Int) (n : Nat) : Bool := (List.range n).all fun j => decide (X[j]?.getD 0 < X[j + 1]?.getD 0)
theorem ascN_step (X : List Int) (n : Nat) : ascN X (n + 1) = (ascN X n && decide (X[n]?.getD 0 < X[n + 1]?.getD 0)) := by
  unfold ascN
  rw [List.range_succ, List.all_append]
  simp
theorem ascN_bad {X : List Int} {n m : Nat} (h : m < n) (hm : X[m + 1]?.getD 0 ≤ X[m]?.getD 0) : ascN X n = false := by
  unfold ascN
  rw [List.all_eq_false]
  exact ⟨m, List.mem_range.2 h, by simp; omega⟩
theorem ascN_get {X : List Int} {n m : Nat} (h : ascN X n = true) (hm : m < n) : X[m]?.getD 0 < X[m + 1]?.getD 0 := by
  unfold ascN at h
  rw [List.all_eq_true] at h
  have := h m (List.mem_range.2 hm)
  simpa using this

/-! ### A vibration -/
def vibB (S M : List Int) : Bool := decide (S.length ≤ 400) && wB (-100) 100 S && (decide (2 ≤ M.length) && decide (M.length ≤ 9)) && wB 0 ((S.length : Int) - 1) M && ascN M (M.length - 1)
def vibE (S M : List Int) : Int := if vibB S M then 0 else 80
/-- The value of the point k of n in a turn of T samples, times n. -/
def ptN (X : Nat → Int) (T k n : Int) : Int :=
  if k * T % n = 0 then n * X (k * T / n).toNat else (n - k * T % n) * X (k * T / n).toNat + k * T % n * X ((k * T / n).toNat + 1)
def valN (S : List Int) (a b k n : Int) : Int := ptN (fun j => S[a.toNat + j]?.getD 0) (b - a) k n
/-- .. together over the first m turns. -/
def sumN (S M : List Int) (k n : Int) : Nat → Int
  | 0 => 0
  | m + 1 => sumN S M k n m + valN S (M[m]?.getD 0) (M[m + 1]?.getD 0) k n
def avL (S M : List Int) (n : Nat) : List Int := (List.range n).map fun k : Nat => sumN S M (k : Int) n (M.length - 1)

/-! ### An average without its teeth -/
def wthB (n teeth : Int) (L : List Int) : Bool := decide (1 ≤ n) && decide (n ≤ 24) && wB (-1000000) 1000000 L && (decide (1 ≤ teeth) && decide (teeth ≤ n)) && decide (n.tmod teeth = 0)
def avgB (L : List Int) (teeth : Int) : Bool := wthB L.length teeth L

/-! ### Crest -/
def crB (peak sum n : Int) : Bool := decide (1 ≤ n ∧ n ≤ 24) && decide (0 ≤ peak ∧ peak ≤ 48000000) && decide (peak ≤ sum ∧ sum ≤ n * peak)
def crN (peak sum n : Int) : Int × Int × Int :=
  if crB peak sum n then (if sum = 0 then (0, 1, 0) else ((lowN (n * peak) sum).1, (lowN (n * peak) sum).2, 0)) else (0, 0, 1)

end Go.Proofs.Ytliocbjmledfbaa

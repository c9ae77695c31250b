/- Plain mathematics of Alarm; compare of fractions. -/
import Derived.Test.YtliocbjmledfbaaHTrendRow
namespace Go.Proofs.Ytliocbjmledfbaa
open Go.RowKit

/-- The last values up to one, at most eight. -/
def prt (V : List Int) (i : Nat) : List Int := (V.drop (i + 1 - 8)).take (i + 1 - (i + 1 - 8))
def hitB (V : List Int) (num den : Int) (i : Nat) : Bool := decide ((lst (prt V i)).1 * den ≤ num * (lst (prt V i)).2)
/-- The first of f values from k on that is an alarm. -/
def alS (V : List Int) (lim num den : Int) : Nat → Nat → Int
  | _, 0 => -1
  | k, f + 1 => if lim ≤ atL V k ∧ hitB V num den k = true then k else alS V lim num den (k + 1) f
def alB (V : List Int) (lim num den : Int) : Bool := (wB (-1000000) 1000000 V && decide (-1000000 ≤ lim ∧ lim ≤ 1000000)) && (decide (0 ≤ num ∧ num ≤ 1000000) && decide (1 ≤ den ∧ den ≤ 1000000))
def amN (V : List Int) (lim num den : Int) : Int × Int :=
  if 64 < V.length then (0, 2) else if alB V lim num den then (alS V lim num den 0 V.length, 0) else (0, 1)
theorem prt_len {V : List Int} {i : Nat} (h : i < V.length) : (prt V i).length = i + 1 - (i + 1 - 8) := by
  unfold prt
  rw [List.length_take, List.length_drop]
  omega
theorem prt_val {V : List Int} {i : Nat} (h : i < V.length) (hw : wB (-1000000) 1000000 V = true) : valB (prt V i) = true := by
  have hl := prt_len h
  unfold valB
  have h1 : 1 ≤ (prt V i).length ∧ (prt V i).length ≤ 8 := by omega
  have h2 : wB (-1000000) 1000000 (prt V i) = true := by
    unfold wB at hw ⊢
    rw [List.all_eq_true] at hw ⊢
    intro x hx
    exact hw x (List.mem_of_mem_drop (List.mem_of_mem_take hx))
  rw [h2]
  simp [h1]
theorem low_le {n d num den : Int} (hd : 1 ≤ d) : (lowN n d).1 * den ≤ num * (lowN n d).2 ↔ n * den ≤ num * d := by
  have hg := gcI_pos (a := n) hd
  obtain ⟨x, hx⟩ : gcI n d ∣ n := Int.gcd_dvd_left n d
  obtain ⟨y, hy⟩ : gcI n d ∣ d := Int.gcd_dvd_right n d
  have e1 : (lowN n d).1 = x := by
    show n.tdiv (gcI n d) = x
    generalize gcI n d = g at *
    rw [hx]
    exact Int.mul_tdiv_cancel_left _ (by omega)
  have e2 : (lowN n d).2 = y := by
    show d / gcI n d = y
    generalize gcI n d = g at *
    rw [hy]
    exact Int.mul_ediv_cancel_left _ (by omega)
  rw [e1, e2]
  generalize gcI n d = g at *
  rw [hx, hy, show g * x * den = g * (x * den) by grind, show num * (g * y) = g * (num * y) by grind]
  exact (Int.mul_le_mul_left (by omega)).symm
theorem cmp_le {a b : Int} : cmpI a b ≤ 0 ↔ a ≤ b := by
  unfold cmpI
  split
  · constructor <;> intro <;> omega
  · split
    · constructor <;> intro <;> omega
    · constructor <;> intro <;> omega

set_option maxRecDepth 100000 in
theorem fcompare_any (a b c d : Int) (w : World) (h1 : 0 ≤ a ∧ a ≤ 16777216) (h2 : 0 ≤ b ∧ b ≤ 16777216) (h3 : 0 ≤ c ∧ c ≤ 1000000) (h4 : 1 ≤ d ∧ d ≤ 1000000) :
    Calls Try.prog 72 #[.agg #[.int .i64 a, .int .i64 b], .agg #[.int .i64 c, .int .i64 d]] w fun e w' => e = .returned (.int .i64 (cmpI (a * d) (c * b))) ∧ Below w.heap.size w w' := by
  have m1 : 0 ≤ a * d ∧ a * d ≤ 16777216 * 1000000 := mul_bd h1.1 h1.2 (by omega) h4.2
  have m2 : 0 ≤ c * b ∧ c * b ≤ 1000000 * 16777216 := mul_bd h3.1 h3.2 h2.1 h2.2
  have HC := Lib.hid (fun W => compare_any (a * d) (c * b) W)
  generalize hx : a * d = x at *
  generalize hy : c * b = y at *
  have j1 : IntKind.i64.wrap x = x := IntWalk.i64_in _ (by omega)
  have j2 : IntKind.i64.wrap y = y := IntWalk.i64_in _ (by omega)
  generalize cmpI x y = z at *
  go_enter Try.func72, Try.ntmps72
  go_wp2_with (go_at_call 90; refine Calls.mono (HC.out _) ?_; rintro e w' ⟨rfl, rfl⟩)
  go_ret
  exact ⟨rfl, by go_grown⟩
end Go.Proofs.Ytliocbjmledfbaa

/- SpansEach: the plain facts, within and product. -/
import Derived.Test.YtjdahphnmeaolaaPart
import Derived.Test.YtjdahphnmeaolaaWorks
namespace Go.Proofs.Ytjdahphnmeaolaa
open Go.RowKit

theorem mul_between {x y lo hi : Int} (h1 : lo ≤ x) (h2 : x ≤ hi) : min (lo * y) (hi * y) ≤ x * y ∧ x * y ≤ max (lo * y) (hi * y) := by
  by_cases h : 0 ≤ y
  · have a1 := Int.mul_le_mul_of_nonneg_right h1 h
    have a2 := Int.mul_le_mul_of_nonneg_right h2 h
    omega
  · have a1 := Int.mul_le_mul_of_nonpos_right h1 (c := y) (by omega)
    have a2 := Int.mul_le_mul_of_nonpos_right h2 (c := y) (by omega)
    omega
theorem mul_in {x y a b c d : Int} (h1 : a ≤ x) (h2 : x ≤ b) (h3 : c ≤ y) (h4 : y ≤ d) :
    min (a * c) (min (a * d) (min (b * c) (b * d))) ≤ x * y ∧ x * y ≤ max (a * c) (max (a * d) (max (b * c) (b * d))) := by
  have e := mul_between (y := y) h1 h2
  have f := mul_between (y := a) h3 h4
  have g := mul_between (y := b) h3 h4
  rw [Int.mul_comm c a, Int.mul_comm d a, Int.mul_comm y a] at f
  rw [Int.mul_comm c b, Int.mul_comm d b, Int.mul_comm y b] at g
  omega

/-- within: a number of the span. -/
def wS (v lo hi : Int) : Int := lo + v.tmod (hi - lo + 1) % (hi - lo + 1)
theorem tmod_lt {v s : Int} (h : 1 ≤ s) : -s < v.tmod s ∧ v.tmod s < s := by
  have h1 := Int.tmod_lt_of_pos v (b := s) (by omega)
  have h2 := Int.tmod_lt_of_pos (-v) (b := s) (by omega)
  rw [Int.neg_tmod] at h2
  omega
theorem wS_in {v lo hi : Int} (h : lo ≤ hi) : lo ≤ wS v lo hi ∧ wS v lo hi ≤ hi := by
  have h2 := Int.emod_nonneg (v.tmod (hi - lo + 1)) (b := hi - lo + 1) (by omega)
  have h3 := Int.emod_lt_of_pos (v.tmod (hi - lo + 1)) (b := hi - lo + 1) (by omega)
  unfold wS
  omega

theorem wthn_any (v lo hi : Int) (w : World) (h0 : -1000000 ≤ lo) (h1 : hi ≤ 1000000) (h2 : lo ≤ hi) :
    Calls Try.prog 58 #[.int .i64 v, .agg #[.int .i64 lo, .int .i64 hi]] w fun e w' => e = .returned (.int .i64 (wS v lo hi)) ∧ Below w.heap.size w w' := by
  have b1 := tmod_lt (v := v) (s := hi - lo + 1) (by omega)
  have b2 := wS_in (v := v) h2
  unfold wS at b2 ⊢
  obtain ⟨b11, b12⟩ := b1
  obtain ⟨b21, b22⟩ := b2
  have j1 : IntKind.i64.wrap (hi - lo) = hi - lo := IntWalk.i64_in _ (by omega)
  have j2 : IntKind.i64.wrap (hi - lo + 1) = hi - lo + 1 := IntWalk.i64_in _ (by omega)
  have j3 : IntKind.i64.wrap (v.tmod (hi - lo + 1) + (hi - lo + 1)) = v.tmod (hi - lo + 1) + (hi - lo + 1) := IntWalk.i64_in _ (by omega)
  have j4 : IntKind.i64.wrap (lo + v.tmod (hi - lo + 1) % (hi - lo + 1)) = lo + v.tmod (hi - lo + 1) % (hi - lo + 1) := IntWalk.i64_in _ (by omega)
  have j5 : hi - lo + 1 ≠ 0 := by omega
  have j6 : IntKind.i64.wrap (v.tmod (hi - lo + 1)) = v.tmod (hi - lo + 1) := IntWalk.i64_in _ (by omega)

  go_enter Try.func58, Try.ntmps58
  go_wp2_with fail
  go_quiet (fail)
  go_wp2
  go_ret
  exact ⟨rfl, below_drewN (by go_grown) _⟩

def prodS (v a b c d : Int) : Bool := decide (v = a * c) || (decide (v = a * d) || (decide (v = b * c) || decide (v = b * d)))
theorem prod_any (v a b c d : Int) (w : World) (i1 : -1000000 ≤ a ∧ a ≤ 1000000) (i2 : -1000000 ≤ b ∧ b ≤ 1000000) (i3 : -1000000 ≤ c ∧ c ≤ 1000000) (i4 : -1000000 ≤ d ∧ d ≤ 1000000) :
    Calls Try.prog 59 #[.int .i64 v, .agg #[.int .i64 a, .int .i64 b], .agg #[.int .i64 c, .int .i64 d]] w fun e w' => e = .returned (.bool (prodS v a b c d)) ∧ Below w.heap.size w w' := by
  have j0 : IntKind.i64.wrap (a * c) = a * c := by
    have := mul_bd3 i1.1 i1.2 i3.1 i3.2 (by omega)
    exact IntWalk.i64_in _ (by omega)
  have j1 : IntKind.i64.wrap (a * d) = a * d := by
    have := mul_bd3 i1.1 i1.2 i4.1 i4.2 (by omega)
    exact IntWalk.i64_in _ (by omega)
  have j2 : IntKind.i64.wrap (b * c) = b * c := by
    have := mul_bd3 i2.1 i2.2 i3.1 i3.2 (by omega)
    exact IntWalk.i64_in _ (by omega)
  have j3 : IntKind.i64.wrap (b * d) = b * d := by
    have := mul_bd3 i2.1 i2.2 i4.1 i4.2 (by omega)
    exact IntWalk.i64_in _ (by omega)
  clear i1 i2 i3 i4
  by_cases e0 : v = a * c
  · have e : prodS v a b c d = true := by simp [prodS, e0]
    rw [e]
    clear e
    go_enter Try.func59, Try.ntmps59
    go_wp2
    go_ret
    exact ⟨rfl, by go_grown⟩
  by_cases e1 : v = a * d
  · have e : prodS v a b c d = true := by simp [prodS, e1]
    rw [e]
    clear e
    go_enter Try.func59, Try.ntmps59
    go_wp2
    go_ret
    exact ⟨rfl, by go_grown⟩
  by_cases e2 : v = b * c
  · have e : prodS v a b c d = true := by simp [prodS, e2]
    rw [e]
    clear e
    go_enter Try.func59, Try.ntmps59
    go_wp2
    go_ret
    exact ⟨rfl, by go_grown⟩
  · have e : prodS v a b c d = decide (v = b * d) := by simp [prodS, e0, e1, e2]
    rw [e]
    clear e
    by_cases e3 : v = b * d
    all_goals
      go_enter Try.func59, Try.ntmps59
      go_wp2
      go_ret
      exact ⟨ret_bool (by simp [e0, e1, e2, e3]), by go_grown⟩

end Go.Proofs.Ytjdahphnmeaolaa

/- region_inv at an operation that is guarded. -/
import Derived.Test.YtliocbjmledfbaaInv
import Derived.Test.YtliocbjmledfbaaBase
namespace Go.Proofs.Ytliocbjmledfbaa
open Go.RowKit

theorem step_guard {ops : Array Oper} {T : Array Value} {val : Nat → Value} {L : Array Bool} {a : Act} {o : Oper} {j s : Nat} {b : Bool} {A B : Prop} (hF : Fr ops T val L a) (hg : o.guard = some (j, b)) (hj : dstOf ops j = some s) (hs : decide (s < T.size) = true)
    (hl : L.getD j false = true) (hv : val j = .bool b) (h : A) : if Region.wanted o (yielded ops a.tmps) then A else B := by
  have hs2 : s < a.tmps.size := by rw [hF.size]; exact of_decide_eq_true hs
  have hd := hF.done j s hj hl
  have hy : yielded ops a.tmps j = some b := by
    unfold yielded
    have hj' : (ops[j]?).bind (·.dst) = some s := hj
    rw [hj']
    rw [hv] at hd
    simp [Array.getD, hs2] at hd
    simp [hs2, hd]
  have hw : Region.wanted o (yielded ops a.tmps) = true := by unfold Region.wanted; rw [hg]; simp [hy]
  rw [if_pos hw]
  exact h

theorem undef_ne (b : Bool) : undef ≠ Value.bool b := by
  intro h
  unfold undef at h
  cases h
theorem step_skip {ops : Array Oper} {T : Array Value} {val : Nat → Value} {L : Array Bool} {a : Act} {o : Oper} {j s : Nat} {b : Bool} {v : Value} {A B : Prop} (hF : Fr ops T val L a) (hg : o.guard = some (j, b)) (hj : dstOf ops j = some s) (hs : decide (s < T.size) = true)
    (hl : L.getD j false = true) (hv : val j = v) (hne : v ≠ .bool b) (h : B) : if Region.wanted o (yielded ops a.tmps) then A else B := by
  have hs2 : s < a.tmps.size := by rw [hF.size]; exact of_decide_eq_true hs
  have hd := hF.done j s hj hl
  rw [hv] at hd
  simp [Array.getD, hs2] at hd
  have hy : yielded ops a.tmps j ≠ some b := by
    unfold yielded
    have hj' : (ops[j]?).bind (·.dst) = some s := hj
    rw [hj']
    simp only [Option.bind_some, hs2, Array.getElem?_eq_getElem, hd]
    split
    · rename_i e
      intro h
      simp at e h
      subst h
      exact hne e
    · simp
  have hw : Region.wanted o (yielded ops a.tmps) = false := by
    unfold Region.wanted
    rw [hg]
    simpa using hy
  rw [if_neg (by rw [hw]; simp)]
  exact h

/-! A region whose operations leave what was there as it was: each value has its own property, which stays. -/
def Stays (Q : Nat → Value → World → Prop) : Prop := ∀ j v W W', Q j v W → Below W.heap.size W W' → Q j v W'
def RQ (Q : Nat → Value → World → Prop) (W0 : World) (val : Nat → Value) (L : Array Bool) (W : World) : Prop :=
  Below W0.heap.size W0 W ∧ ∀ j, L.getD j false = true → Q j (val j) W
theorem RQ.start (Q : Nat → Value → World → Prop) (W0 : World) (n : Nat) : RQ Q W0 (fun _ => undef) (Array.replicate n false) W0.drew :=
  ⟨(Below.refl _ _).drew, fun j h => by rw [getD_replicate_no] at h; cases h⟩
theorem RQ.step {Q : Nat → Value → World → Prop} {W0 W W' : World} {val : Nat → Value} {L : Array Bool} {i : Nat} {v : Value} (h : RQ Q W0 val L W) (hQ : Stays Q) (hb : Below W.heap.size W W') (hq : Q i v W') :
    RQ Q W0 (upd val i v) (L.setIfInBounds i true) W' :=
  ⟨h.1.trans (hb.mono h.1.size), fun j hj => by
    by_cases e : j = i
    · subst e
      rw [upd_same]
      exact hq
    · rw [upd_other e]
      rw [getD_set_other (fun h => e h.symm)] at hj
      exact hQ j _ W W' (h.2 j hj) hb⟩

end Go.Proofs.Ytliocbjmledfbaa

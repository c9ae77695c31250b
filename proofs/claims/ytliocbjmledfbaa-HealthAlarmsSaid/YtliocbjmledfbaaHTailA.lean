/- A drawn region that ends with an append to a list of the call's own and its assignment. -/
import Derived.Test.YtliocbjmledfbaaHStore
import Derived.Test.YtliocbjmledfbaaHOwn2
import Derived.OwnWalkIn
namespace Go.Proofs.Ytliocbjmledfbaa
open Go.RowKit

def RQA (Q : Nat → Value → World → Prop) (W0 : World) (s : Nat) (P : Value → World → Prop) (val : Nat → Value) (L : Array Bool) (W : World) : Prop :=
  (L.getD s false = false → RQ Q W0 val L W) ∧ (L.getD s false = true → P (val s) W ∧ (L.getD (s + 1) false = true → val (s + 1) = val s))
section
variable {Q : Nat → Value → World → Prop} {W0 W W' : World} {s i : Nat} {P : Value → World → Prop} {v : Value} {val : Nat → Value} {L : Array Bool}
theorem RQA.start (Q : Nat → Value → World → Prop) (W0 : World) (s : Nat) (P : Value → World → Prop) (n : Nat) : RQA Q W0 s P (fun _ => undef) (Array.replicate n false) W0.drew :=
  ⟨fun _ => RQ.start Q W0 n, fun h => by rw [getD_replicate_no] at h; cases h⟩
theorem RQA.step (h : RQ Q W0 val L W) (hQ : Stays Q) (hb : Below W.heap.size W W') (hq : Q i v W') (hs : i ≠ s) (hN : L.getD s false = false) : RQA Q W0 s P (upd val i v) (L.setIfInBounds i true) W' :=
  ⟨fun _ => h.step hQ hb hq, fun h2 => (by rw [getD_set_other hs, hN] at h2; cases h2)⟩
theorem RQA.push (hs : s < L.size) (hN : L.getD (s + 1) false = false) (hp : P v W) : RQA Q W0 s P (upd val s v) (L.setIfInBounds s true) W :=
  ⟨fun h2 => (by rw [getD_set_eq hs] at h2; cases h2), fun _ => ⟨by rw [upd_same]; exact hp, fun h2 => (by rw [getD_set_other (by omega), hN] at h2; cases h2)⟩⟩
theorem RQA.assign (h : RQA Q W0 s P val L W) (hs : L.getD s false = true) : RQA Q W0 s P (upd val (s + 1) (val s)) (L.setIfInBounds (s + 1) true) W := by
  have e1 : upd val (s + 1) (val s) s = val s := upd_other (by omega)
  have e2 : upd val (s + 1) (val s) (s + 1) = val s := upd_same _ _ _
  refine ⟨fun h2 => ?_, fun _ => ?_⟩
  · rw [getD_set_other (by omega), hs] at h2; cases h2
  · rw [e1, e2]
    exact ⟨(h.2 hs).1, fun _ => rfl⟩
end
theorem Fr.back {ops : Array Oper} {T : Array Value} {val : Nat → Value} {L : Array Bool} {a : Act} (h : Fr ops T val L a) {i : Nat} (hl : L.getD i false = false) (j : Nat) {o : Oper} (ho : ops[j]? = some o) (hi : i < ops.size) {e : Edge} (he : e ∈ o.after) (hb : Region.binds .any e = true) (hon : e.on = i) : L.getD j false = false :=
  h.later (by rw [getD_same (by rw [h.lsize]; exact hi)]; exact hl) j ho he hb hon
def oneDst (ops : Array Oper) (s : Tmp) (j : Nat) : Bool := (List.range ops.size).all fun i => dstOf ops i != some s || i == j
theorem Fr.wasOf {ops : Array Oper} {T : Array Value} {val : Nat → Value} {L : Array Bool} {a : Act} (h : Fr ops T val L a) (s : Tmp) (j : Nat) {v : Value} (hs : oneDst ops s j = true) (hl : L.getD j false = false) (hv : T.getD s undef = v) : a.tmps[s]?.getD undef = v := by
  rw [← Array.getD_eq_getD_getElem?]
  refine (h.base s fun i hi => ?_).trans hv
  have hil : i < ops.size := by
    unfold dstOf at hi
    cases hoj : ops[i]? with
    | none => rw [hoj] at hi; cases hi
    | some oj => exact (Array.getElem?_eq_some_iff.1 hoj).1
  have := List.all_eq_true.1 hs i (List.mem_range.2 hil)
  simp only [hi, bne_self_eq_false, Bool.false_or, beq_iff_eq] at this
  rw [this]
  exact hl
theorem step_push {F : Fence} {n : Nat} {w : World} {o : Oper} {a : Act} {K : Act → World → Prop} {Q : Exit → Act → World → Prop} (s x : Operand)
    (hop : o.op = .call { callee := .builtin .append, args := #[s, x], argTypes := #[22, 22] }) (base : Nat) (v : Value) (xs : List Int) (hs : a.eval s = v) (hown : OI base v xs w)
    (g : Nat) (y : Int) (hx : a.eval x = .slice (some ⟨g, 0, none⟩) 1 1) (hy : w.cell? ⟨g, 0, none⟩ = some (.int .i64 y)) (hlen : xs.length ≤ 1000000) (hbase : base ≤ w.heap.size)
    (h : ∀ v' w', OI base v' (xs ++ [y]) w' → w.grownBy w' v.ownBlock → K (a.put o.dst v') w') : o.wpIn F n Try.prog a w K Q := by
  obtain ⟨i0, hi0, hz0, hz1, hz2⟩ := info_parts info_int
  obtain ⟨v', w', hrun, r1, r2, _⟩ := run_append_own (P := Try.prog) w base 22 o.type 3 i0 (.int .i64 0) 1 8 Try.underlying22 hi0 hz0 hz1 hz2 rfl (by decide) v xs.length _ hown ⟨g, 0, none⟩ 1 1 [.int .i64 y] rfl (fun j u hu => (by
    match j, hu with
    | 0, hu => simp at hu; subst hu; exact hy
    | j + 1, hu => simp at hu)) (fun u hu => (by simp at hu; subst hu; rfl)) (by unfold maxLen; omega) (by omega) hbase
  have r1' : OI base v' (xs ++ [y]) w' := by simpa [OI] using r1
  unfold Oper.wpIn
  refine ⟨?_, ?_⟩
  · simp [Oper.about, hop, resolve, Target.leads, Sem.run_pure]
  · rw [Oper.semAt_plain F _ _ (by rw [hop]; intro c hc'; cases hc')]
    simp [execOp, hop, resolve, invoke, builtin, hs, hx, hrun, Result.andThen]
    exact h _ _ r1' r2
end Go.Proofs.Ytliocbjmledfbaa

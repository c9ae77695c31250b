/- Lists of integers that the call owns. -/
import Derived.Test.YtliocbjmledfbaaHExt
import Derived.Deep.Upon
import Derived.CallsIn
namespace Go.Proofs.Ytliocbjmledfbaa
open Go.RowKit

def GivesInts (w : World) (l : List Int) (e : Ending) (w' : World) : Prop :=
  ∃ A c, e = .returned (.slice A l.length c) ∧ l.length ≤ c ∧ RI w' w'.heap.size A l ∧ Below w.heap.size w w'
abbrev OI (base : Nat) (v : Value) (l : List Int) (w : World) : Prop := w.ownsRow base 3 1 v l.length (l.map (Value.int .i64))
section
variable {w w' : World} {base : Nat} {v : Value} {l : List Int}
theorem OI.nil : OI base (.slice none 0 0) [] w := ⟨by simp, .inl ⟨rfl, rfl⟩⟩
theorem OI.ri (h : OI base v l w) : ∃ A c, v = .slice A l.length c ∧ l.length ≤ c ∧ RI w w.heap.size A l := by
  rcases h.2 with ⟨rfl, e⟩ | ⟨g, cap, cur, rfl, _, _, hc, _⟩
  · have : l = [] := by simpa using e
    subst this
    exact ⟨none, 0, rfl, Nat.le_refl _, RV.nil⟩
  · refine ⟨_, cap, rfl, hc, fun _ => ⟨g, 0, rfl, (h.lt g rfl).2, fun j u hu => ?_⟩⟩
    have hj : j < l.length * 1 := by
      have h2 := (List.getElem?_eq_some_iff.1 hu).1
      simpa using h2
    rw [Nat.zero_add, h.cellAt j hj]
    exact hu
theorem OI.below {B : Nat} {w0 : World} (h : OI base v l w) (hg : w.grownBy w' v.ownBlock) (hb : Below B w0 w) (hB : B ≤ w.heap.size) (hbase : B ≤ base) : Below B w0 w' :=
  hb.trans ((Below.refl _ _).grown hg hB (fun q hq => by have := (h.lt _ hq).1; omega))
theorem OI.grownOther {v2 : Value} {l2 : List Int} (h : OI base v l w) (hg : w.grownBy w' v2.ownBlock) (hne : v.ownBlock = none ∨ v.ownBlock ≠ v2.ownBlock) : OI base v l w' := World.ownsRow.kept h hg hne
end

/-- append(s, y), s the call's own. -/
theorem wpList_push {w : World} {ops : Array Oper} {rest : List Oper} {o : Oper} {a : Act} {Q : Exit → Act → World → Prop} (hgd : o.guard = none) (s x : Operand)
    (ho : o.op = .call { callee := .builtin .append, args := #[s, x], argTypes := #[22, 22] }) (base : Nat) (v : Value) (xs : List Int) (hs : a.eval s = v) (hown : OI base v xs w)
    (g : Nat) (y : Int) (hx : a.eval x = .slice (some ⟨g, 0, none⟩) 1 1) (hy : w.cell? ⟨g, 0, none⟩ = some (.int .i64 y)) (hlen : xs.length ≤ 1000000) (hbase : base ≤ w.heap.size)
    (h : ∀ v' w', OI base v' (xs ++ [y]) w' → w.grownBy w' v.ownBlock → wpList Try.prog ops Q rest (a.put o.dst v') w') : wpList Try.prog ops Q (o :: rest) a w := by
  obtain ⟨i0, hi0, hz0, hz1, hz2⟩ := info_parts info_int
  refine wpList_append_own w hgd s x 22 ho base 3 i0 (.int .i64 0) 1 8 Try.underlying22 hi0 hz0 hz1 hz2 rfl (by decide) v xs.length _ hs hown ⟨g, 0, none⟩ 1 1 [.int .i64 y] hx rfl (fun j u hu => ?_) (fun u hu => ?_) (by unfold maxLen; omega) (by omega) hbase (fun v' w' h1 h2 _ => h v' w' (by simpa [OI] using h1) h2)
  · match j, hu with
    | 0, hu => simp at hu; subst hu; exact hy
    | j + 1, hu => simp at hu
  · simp at hu; subst hu; rfl


/-- A value that reads as a list of integers. -/
def QI (l : List Int) (v : Value) (W : World) : Prop := ∃ A c, v = .slice A l.length c ∧ l.length ≤ c ∧ RI W W.heap.size A l
theorem QI.stay {l : List Int} {v : Value} {W W' : World} (h : QI l v W) (hb : Below W.heap.size W W') : QI l v W' := by
  obtain ⟨A, c, e, hc, h⟩ := h
  exact ⟨A, c, e, hc, (h.below hb).more hb.size⟩
theorem QI.nil {W : World} : QI [] (.slice none 0 0) W := ⟨none, 0, rfl, Nat.le_refl _, RV.nil⟩
end Go.Proofs.Ytliocbjmledfbaa

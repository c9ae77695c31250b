/- A drawn region whose last operation is a store: its others leave what was there as it was. -/
import Derived.Test.YtliocbjmledfbaaGuard
import Derived.Test.YtliocbjmledfbaaHExt
import Derived.Laws.MakeOwn
namespace Go.Proofs.Ytliocbjmledfbaa
open Go.RowKit

def RQS (Q : Nat → Value → World → Prop) (W0 : World) (s : Nat) (a : Addr) (u : Value) (val : Nat → Value) (L : Array Bool) (W : World) : Prop :=
  (L.getD s false = false → RQ Q W0 val L W) ∧ (L.getD s false = true → ∃ y, Below W0.heap.size W0 y ∧ W = y.setCell a u)
section
variable {Q : Nat → Value → World → Prop} {W0 W W' : World} {s i : Nat} {a : Addr} {u v : Value} {val : Nat → Value} {L : Array Bool}
theorem RQS.start (Q : Nat → Value → World → Prop) (W0 : World) (s : Nat) (a : Addr) (u : Value) (n : Nat) : RQS Q W0 s a u (fun _ => undef) (Array.replicate n false) W0.drew :=
  ⟨fun _ => RQ.start Q W0 n, fun h => by rw [getD_replicate_no] at h; cases h⟩
theorem RQS.step (h : RQ Q W0 val L W) (hQ : Stays Q) (hb : Below W.heap.size W W') (hq : Q i v W') (hs : i ≠ s) (hN : L.getD s false = false) : RQS Q W0 s a u (upd val i v) (L.setIfInBounds i true) W' :=
  ⟨fun _ => h.step hQ hb hq, fun h2 => (by rw [getD_set_other hs, hN] at h2; cases h2)⟩
theorem RQS.store (h : RQ Q W0 val L W) (hs : s < L.size) : RQS Q W0 s a u (upd val s v) (L.setIfInBounds s true) (W.setCell a u) :=
  ⟨fun h2 => (by rw [getD_set_eq hs] at h2; cases h2), fun _ => ⟨W, h.1, rfl⟩⟩
end
theorem Fr.none2 {ops : Array Oper} {T : Array Value} {val : Nat → Value} {L : Array Bool} {a : Act} (h : Fr ops T val L a) {i : Nat} (hl : L.getD i true = false) (hi : i < ops.size) : L.getD i false = false := by
  rw [← getD_same (by rw [h.lsize]; exact hi)]
  exact hl

/-- A row of the call's own, known whole. -/
def RW (W : World) (g : Nat) (l : List Int) : Prop := W.heap[g]? = some (.cells (l.map (Value.int .i64)).toArray 3 (0, 0))
section
variable {W W' : World} {g : Nat} {l : List Int}
theorem RW.lt (h : RW W g l) : g < W.heap.size := lt_of_block h
theorem RW.stay (h : RW W g l) (hb : Below W.heap.size W W') : RW W' g l := (hb.block g h.lt).trans h
theorem RW.get {k : Nat} {x : Int} (h : RW W g l) (hk : l[k]? = some x) : W.cell? ⟨g, k, none⟩ = some (.int .i64 x) := cellOf h (by simp [hk])
theorem RW.free (h : RW W g l) (k : Nat) : W.frozen? ⟨g, k, none⟩ = false := freeOf h
theorem RW.set (h : RW W g l) (k : Nat) (x : Int) : RW (W.setCell ⟨g, k, none⟩ (.int .i64 x)) g (l.set k x) := by
  unfold RW
  rw [block_setCell _ h]
  simp
theorem RW.ri (h : RW W g l) : RI W W.heap.size (some ⟨g, 0, none⟩) l := fun _ => ⟨g, 0, rfl, h.lt, fun j u hu => by
  simp only [List.getElem?_map, Option.map_eq_some_iff] at hu
  obtain ⟨x, hx, rfl⟩ := hu
  rw [Nat.zero_add]
  exact h.get hx⟩
theorem made_ints (n : Nat) : madeCells #[Value.int .i64 0] n = ((List.replicate n (0 : Int)).map (Value.int .i64)).toArray := by
  apply Array.ext'
  simp only [madeCells, Array.toList_map, Array.toList_range]
  apply List.ext_getElem (by simp)
  intro k h1 h2
  simp [Nat.mod_one]
theorem RW.made (W : World) (n : Nat) : RW (W.alloc (.cells (madeCells #[Value.int .i64 0] n) 3)) W.heap.size (List.replicate n 0) := by
  unfold RW
  rw [made_ints]
  show (W.heap.push _)[W.heap.size]? = _
  rw [Array.getElem?_push, if_pos rfl]
end
/-- make([]int, n). -/
theorem wpList_makeI {w : World} {ops : Array Oper} {rest : List Oper} {o : Oper} {a : Act} {Q : Exit → Act → World → Prop} (hg : o.guard = none) (l c : Operand) (hop : o.op = Op.makeSlice 22 l c)
    (n : Nat) (hl : a.eval l = .int .i64 (n : Int)) (hc : a.eval c = .int .i64 (n : Int)) (hn : n ≤ 1000000)
    (hK : wpList Try.prog ops Q rest (a.put o.dst (.slice (some ⟨w.heap.size, 0, none⟩) n n)) (w.alloc (.cells (madeCells #[Value.int .i64 0] n) 3))) : wpList Try.prog ops Q (o :: rest) a w := by
  obtain ⟨i0, hi0, hz0, hz1, hz2⟩ := info_parts info_int
  refine wpList_plain hg fun K hK' => ?_
  have hrun := run_make (P := Try.prog) w 22 3 i0 (.int .i64 0) Try.underlying22 hi0 hz0 .i64 .i64 n n (by omega) (by omega) (by rw [hz2]; omega) (by omega)
  rw [hz1] at hrun
  simp only [Int.toNat_natCast, Nat.mul_one] at hrun
  unfold Oper.wp
  simp only [execOp, hop, hl, hc, hrun, Result.andThen, Sem.run_bind, Sem.run_pure]
  exact hK' _ _ hK
end Go.Proofs.Ytliocbjmledfbaa

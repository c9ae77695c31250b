/- append of one integer to a list of the call's own, behind whatever draws. -/
import Derived.Test.YtliocbjmledfbaaHOwn
namespace Go.Proofs.Ytliocbjmledfbaa
open Go.RowKit

theorem wpList_pushJ {w W0 w0 : World} {ops : Array Oper} {rest : List Oper} {o : Oper} {a : Act} {Q : Exit → Act → World → Prop} (hgd : o.guard = none) (s x : Operand)
    (ho : o.op = .call { callee := .builtin .append, args := #[s, x], argTypes := #[22, 22] }) (v : Value) (l : List Int) (hs : a.eval s = v) (hown : OI w0.heap.size v l W0) (hbw : Below w0.heap.size w0 W0) (y : Int)
    (hw : w.heap = W0.heap.push (.cells #[.int .i64 y] 3 (0, 0))) (hos : w.os = W0.os) (htp : w.tape = W0.tape) (hout : w.output = W0.output) (hx : a.eval x = .slice (some ⟨W0.heap.size, 0, none⟩) 1 1) (hlen : l.length ≤ 1000000)
    (h : ∀ v' w', OI w0.heap.size v' (l ++ [y]) w' → Below w0.heap.size w0 w' → wpList Try.prog ops Q rest (a.put o.dst v') w') : wpList Try.prog ops Q (o :: rest) a w := by
  have hz := hbw.size
  have hsz : w.heap.size = W0.heap.size + 1 := by rw [hw]; simp
  have hb2 : Below w0.heap.size w0 w := ⟨hos.trans hbw.os, htp.trans hbw.tape, hout.trans hbw.output, by omega, fun k hk => by rw [hw, Array.getElem?_push, if_neg (by omega)]; exact hbw.block k hk⟩
  have hown' : OI w0.heap.size v l w := by
    refine ⟨hown.1, hown.2.imp id fun ⟨g, cap, cur, e, hg, hc, h3⟩ => ⟨g, cap, cur, e, hg, ?_, h3⟩⟩
    have := lt_of_block hc
    rw [hw, Array.getElem?_push, if_neg (by omega)]
    exact hc
  have hblk : w.heap[W0.heap.size]? = some (.cells #[.int .i64 y] 3 (0, 0)) := by rw [hw, Array.getElem?_push, if_pos rfl]
  refine wpList_push hgd s x ho w0.heap.size v l hs hown' W0.heap.size y hx (cellOf hblk rfl) hlen (by omega) fun v' w' h1 h2 => h v' w' h1 (hb2.grown h2 (by omega) fun q hq => (hown.lt _ hq).1)
theorem OI.stay {base : Nat} {v : Value} {l : List Int} {w w' : World} (h : OI base v l w) (hb : Below w.heap.size w w') : OI base v l w' :=
  ⟨h.1, h.2.imp id fun ⟨g, cap, cur, e, hg, hc, h3⟩ => ⟨g, cap, cur, e, hg, (hb.block g (lt_of_block hc)).trans hc, h3⟩⟩
theorem OI.qi {base : Nat} {v : Value} {l : List Int} {w : World} (h : OI base v l w) : QI l v w := h.ri
end Go.Proofs.Ytliocbjmledfbaa

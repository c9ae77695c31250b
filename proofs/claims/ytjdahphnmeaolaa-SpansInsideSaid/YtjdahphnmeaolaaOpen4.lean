/- Arguments that are picks (an area and six numbers): opened. -/
import Derived.Test.YtjdahphnmeaolaaOpen3
import Derived.Laws.IdiomArrays
namespace Go.Proofs.Ytjdahphnmeaolaa
open Go.RowKit Go.WideShapes Go.ChangeShapes Go.ChangeAt Go.Joins Go.Deep

section
variable {H : Type} {enc : TypeId × Value → H}
set_option maxRecDepth 100000
theorem cells_pick : Try.prog.cellsOf 84 = 10 := by kernel_rfl
theorem cells_area4 : Try.prog.cellsOf 63 = 4 := by kernel_rfl
theorem cells_six : Try.prog.cellsOf 82 = 6 := by kernel_rfl
theorem list6 {α : Type} {l : List α} (h : l.length = 6) : ∃ a b c d e f, l = [a, b, c, d, e, f] := by
  match l, h with
  | [a, b, c, d, e, f], _ => exact ⟨a, b, c, d, e, f, rfl⟩
theorem list10 {α : Type} {l : List α} (h : l.length = 10) : ∃ a b c d e f g i j k, l = [a, b, c, d, e, f, g, i, j, k] := by
  match l, h with
  | [a, b, c, d, e, f, g, i, j, k], _ => exact ⟨a, b, c, d, e, f, g, i, j, k, rfl⟩

theorem area_cells {w : World} {base : Nat} {spare : Nat → Bool} {held : Bool} {fuel : Nat} {c0 c1 c2 c3 : Value} {x : DataW H × List MemPlace} (h : DataW.trod enc Try.prog w base spare held fuel 63 [c0, c1, c2, c3] = some x) : ∃ a b c e : Int, c0 = .int .i64 a ∧ c1 = .int .i64 b ∧ c2 = .int .i64 c ∧ c3 = .int .i64 e := by
  obtain ⟨y0, y1, n, _, _, h0, h1⟩ := trod_struct2 Try.underlying63 h
  simp only [cells_span3] at h0 h1
  obtain ⟨a, b, rfl, rfl⟩ := span_cells (by simpa [Value.cells] using h0)
  obtain ⟨c, e, rfl, rfl⟩ := span_cells (by simpa [Value.cells] using h1)
  exact ⟨a, b, c, e, rfl, rfl, rfl, rfl⟩
theorem six_cells {w : World} {base : Nat} {spare : Nat → Bool} {held : Bool} {fuel : Nat} {c0 c1 c2 c3 c4 c5 : Value} {x : DataW H × List MemPlace} (h : DataW.trod enc Try.prog w base spare held fuel 82 [c0, c1, c2, c3, c4, c5] = some x) :
    ∃ a b c d e f : Int, c0 = .int .i64 a ∧ c1 = .int .i64 b ∧ c2 = .int .i64 c ∧ c3 = .int .i64 d ∧ c4 = .int .i64 e ∧ c5 = .int .i64 f := by
  obtain ⟨xs, m, _, hx, _, hlen, hg⟩ := DataW.trod_array Try.underlying82 h
  obtain ⟨y0, y1, y2, y3, y4, y5, rfl⟩ := list6 hlen
  have h0 := hg 0 (by omega)
  have h1 := hg 1 (by omega)
  have h2 := hg 2 (by omega)
  have h3 := hg 3 (by omega)
  have h4 := hg 4 (by omega)
  have h5 := hg 5 (by omega)
  simp only [cells_int3] at h0 h1 h2 h3 h4 h5
  simp at h0 h1 h2 h3 h4 h5
  obtain ⟨a, e0, _, _⟩ := DataW.trod_int Try.underlying3 h0
  obtain ⟨b, e1, _, _⟩ := DataW.trod_int Try.underlying3 h1
  obtain ⟨c, e2, _, _⟩ := DataW.trod_int Try.underlying3 h2
  obtain ⟨d, e3, _, _⟩ := DataW.trod_int Try.underlying3 h3
  obtain ⟨e, e4, _, _⟩ := DataW.trod_int Try.underlying3 h4
  obtain ⟨f, e5, _, _⟩ := DataW.trod_int Try.underlying3 h5
  simp at e0 e1 e2 e3 e4 e5
  exact ⟨a, b, c, d, e, f, e0, e1, e2, e3, e4, e5⟩

theorem pick_open {w : World} {base : Nat} {spare : Nat → Bool} {held : Bool} {r : Reach} {b0 : Nat} {v : Value} {d : DataW H} {p : List MemPlace}
    (hv : Value.okWide Try.prog w r b0 84 v) (h : DataW.Trod enc Try.prog w base spare held 84 v d p) :
    ∃ a b c e n0 n1 n2 n3 n4 n5 : Int, v = .agg #[.int .i64 a, .int .i64 b, .int .i64 c, .int .i64 e, .int .i64 n0, .int .i64 n1, .int .i64 n2, .int .i64 n3, .int .i64 n4, .int .i64 n5] := by
  obtain ⟨cs, rfl, hsz⟩ := okWide_struct Try.underlying84 hv
  obtain ⟨c0, c1, c2, c3, c4, c5, c6, c7, c8, c9, eL⟩ := list10 (l := cs.toList) (by rw [Array.length_toList]; exact hsz.trans cells_pick)
  obtain rfl : cs = #[c0, c1, c2, c3, c4, c5, c6, c7, c8, c9] := Array.toList_inj.1 eL
  clear eL
  obtain ⟨fuel, hf⟩ := h
  obtain ⟨y0, y1, n, _, _, h0, h1⟩ := trod_struct2 Try.underlying84 hf
  simp only [cells_area4, cells_six] at h0 h1
  obtain ⟨a, b, c, e, rfl, rfl, rfl, rfl⟩ := area_cells (by simpa [Value.cells] using h0)
  obtain ⟨n0, n1, n2, n3, n4, n5, rfl, rfl, rfl, rfl, rfl, rfl⟩ := six_cells (by simpa [Value.cells] using h1)
  exact ⟨a, b, c, e, n0, n1, n2, n3, n4, n5, rfl⟩
end

end Go.Proofs.Ytjdahphnmeaolaa

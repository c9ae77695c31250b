/- Arguments that are areas: opened. -/
import Derived.Test.YtjdahphnmeaolaaOpen
namespace Go.Proofs.Ytjdahphnmeaolaa
open Go.RowKit Go.WideShapes Go.ChangeShapes Go.ChangeAt Go.Joins Go.Deep

section
variable {H : Type} {enc : TypeId × Value → H}
set_option maxRecDepth 100000
theorem cells_area : Try.prog.cellsOf 63 = 4 := by kernel_rfl
theorem cells_span3 : Try.prog.cellsOf 37 = 2 := by kernel_rfl
theorem cells_int3 : Try.prog.cellsOf 3 = 1 := by kernel_rfl

theorem span_cells {w : World} {base : Nat} {spare : Nat → Bool} {held : Bool} {fuel : Nat} {c0 c1 : Value} {x : DataW H × List MemPlace} (h : DataW.trod enc Try.prog w base spare held fuel 37 [c0, c1] = some x) : ∃ a b : Int, c0 = .int .i64 a ∧ c1 = .int .i64 b := by
  obtain ⟨y0, y1, n, _, _, h0, h1⟩ := trod_struct2 Try.underlying37 h
  simp only [cells_int3] at h0 h1
  obtain ⟨a, e0, _, _⟩ := DataW.trod_int Try.underlying3 (by simpa using h0)
  obtain ⟨b, e1, _, _⟩ := DataW.trod_int Try.underlying3 (by simpa using h1)
  simp at e0 e1
  exact ⟨a, b, e0, e1⟩

theorem area_open {w : World} {base : Nat} {spare : Nat → Bool} {held : Bool} {r : Reach} {b0 : Nat} {v : Value} {d : DataW H} {p : List MemPlace}
    (hv : Value.okWide Try.prog w r b0 63 v) (h : DataW.Trod enc Try.prog w base spare held 63 v d p) :
    ∃ a b c e : Int, v = .agg #[.int .i64 a, .int .i64 b, .int .i64 c, .int .i64 e] := by
  obtain ⟨cs, rfl, hsz⟩ := okWide_struct Try.underlying63 hv
  obtain ⟨c0, c1, c2, c3, rfl⟩ := array4 (hsz.trans cells_area)
  obtain ⟨fuel, hf⟩ := h
  obtain ⟨y0, y1, n, _, _, h0, h1⟩ := trod_struct2 Try.underlying63 hf
  simp only [cells_span3] at h0 h1
  obtain ⟨a, b, rfl, rfl⟩ := span_cells (by simpa [Value.cells] using h0)
  obtain ⟨c, e, rfl, rfl⟩ := span_cells (by simpa [Value.cells] using h1)
  exact ⟨a, b, c, e, rfl⟩
end

end Go.Proofs.Ytjdahphnmeaolaa

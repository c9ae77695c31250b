/- Contracts of the functions that the statement reaches: JKit. -/
import Derived.Test.YtnnmmojlgikdgaaM6
import Derived.Deep.Strs

/- Arguments of layer 7's laws: opened; in their boxes. -/
namespace Go.Proofs.Ytnnmmojlgikdgaa
open Go.RowKit Go.WideShapes Go.ChangeShapes Go.ChangeAt Go.Joins Go.Deep

theorem arr5 {cs : Array Value} (h : cs.size = 5) : ∃ a b c d e, cs = #[a, b, c, d, e] :=
  ⟨cs[0], cs[1], cs[2], cs[3], cs[4], by
    apply Array.ext (by simp [h])
    intro i h1 h2
    simp at h2
    match i, h2 with
    | 0, _ => rfl
    | 1, _ => rfl
    | 2, _ => rfl
    | 3, _ => rfl
    | 4, _ => rfl⟩

section
variable {H : Type} {enc : TypeId × Value → H}
set_option maxRecDepth 100000
theorem cells_hoist : Try.prog.cellsOf 57 = 5 := by kernel_rfl
theorem cells_wgt : Try.prog.cellsOf 66 = 2 := by kernel_rfl
theorem cells_int7 : Try.prog.cellsOf 3 = 1 := by kernel_rfl
theorem cells_tab7 : Try.prog.cellsOf 55 = 3 := by kernel_rfl
theorem cells_ints7 : Try.prog.cellsOf 25 = 1 := by kernel_rfl
theorem cells_rows7 : Try.prog.cellsOf 53 = 1 := by kernel_rfl

/-- A hoist by value, opened. -/
theorem hoist_open {w : World} {base : Nat} {r : Reach} {b0 : Nat} {v : Value} {d : DataW H} {p : List MemPlace}
    (hv : Value.okWide Try.prog w r b0 57 v) (h : DataW.Trod enc Try.prog w base (fun _ => true) true 57 v d p) :
    ∃ cable AX nx cx AY ny cy AV nv cv charge X Y V, v = .agg #[.int .i64 cable, .slice AX nx cx, .slice AY ny cy, .slice AV nv cv, .int .i64 charge] ∧ HT w w.heap.size AX AY AV nx ny nv X Y V := by
  obtain ⟨cs, rfl, hsz⟩ := okWide_struct Try.underlying57 hv
  obtain ⟨c0, c1, c2, c3, c4, rfl⟩ := arr5 (hsz.trans cells_hoist)
  obtain ⟨fuel, hf⟩ := h
  obtain ⟨y0, y1, y2, n, _, _, h0, h1, h2⟩ := trod_struct3 Try.underlying57 hf
  simp only [cells_int7, cells_tab7] at h0 h1 h2
  obtain ⟨cable, e0, _, _⟩ := DataW.trod_int Try.underlying3 (by simpa [Value.cells] using h0)
  obtain ⟨charge, e4, _, _⟩ := DataW.trod_int Try.underlying3 (by simpa [Value.cells] using h2)
  obtain ⟨z0, z1, z2, n', _, _, k0, k1, k2⟩ := trod_struct3 Try.underlying55 (by simpa [Value.cells] using h1)
  simp only [cells_ints7, cells_rows7] at k0 k1 k2
  obtain ⟨AX, nx, cx, X, e1, hx, hnx, rx⟩ := ints_of (by simpa using k0)
  obtain ⟨AY, ny, cy, Y, e2, hy, hny, ry⟩ := ints_of (by simpa using k1)
  obtain ⟨AV, nv, cv, V, e3, hv', hnv, hnr, rv⟩ := rows_of (by simpa using k2)
  simp at e0 e1 e2 e3 e4
  subst e0 e1 e2 e3 e4
  exact ⟨cable, AX, nx, cx, AY, ny, cy, AV, nv, cv, charge, X, Y, V, rfl, ⟨hx, hy, hv', hnx, hny, hnv, hnr, ⟨rx, ry, rv⟩, Nat.le_refl _⟩⟩
theorem span7_open {w : World} {base : Nat} {spare : Nat → Bool} {held : Bool} {r : Reach} {b0 : Nat} {v : Value} {d : DataW H} {p : List MemPlace}
    (hv : Value.okWide Try.prog w r b0 27 v) (h : DataW.Trod enc Try.prog w base spare held 27 v d p) : ∃ a b : Int, v = .agg #[.int .i64 a, .int .i64 b] := by
  obtain ⟨a, b, e, _⟩ := span_open hv h
  exact ⟨a, b, e⟩
/-- A weight by value, opened. -/
theorem weight_open {w : World} {base : Nat} {spare : Nat → Bool} {held : Bool} {r : Reach} {b0 : Nat} {v : Value} {d : DataW H} {p : List MemPlace}
    (hv : Value.okWide Try.prog w r b0 66 v) (h : DataW.Trod enc Try.prog w base spare held 66 v d p) :
    ∃ a b : Int, v = .agg #[.int .i64 a, .int .i64 b] := by
  obtain ⟨c0, c1, y0, y1, m, rfl, _, _, hy0, hy1⟩ := open_agg2 Try.underlying66 (by kernel_rfl) cells_wgt hv h
  obtain ⟨a, e0, _, _⟩ := DataW.trod_int Try.underlying3 hy0
  obtain ⟨b, e1, _, _⟩ := DataW.trod_int Try.underlying3 hy1
  simp at e0 e1
  subst e0 e1
  exact ⟨a, b, rfl⟩
end

/-- A hoist and winds in their boxes. -/
structure AH (w W : World) (cable : Int) (AX : Option Addr) (nx cx : Nat) (AY : Option Addr) (ny cy : Nat) (AV : Option Addr) (nv cv : Nat) (charge y1 y2 : Int) : Prop where
  hb : HB W w.heap.size cable AX nx cx AY ny cy AV nv cv charge
  s0 : W.cell? ⟨w.heap.size + 1, 0, none⟩ = some (.int .i64 y1)
  s1 : W.cell? ⟨w.heap.size + 1, 1, none⟩ = some (.int .i64 y2)
  b : Below w.heap.size w W
section
variable {w W W' : World} {cable charge y1 y2 : Int} {AX AY AV : Option Addr} {nx cx ny cy nv cv : Nat}
theorem AH.next (h : AH w W cable AX nx cx AY ny cy AV nv cv charge y1 y2) (hb : Below W.heap.size W W') : AH w W' cable AX nx cx AY ny cy AV nv cv charge y1 y2 :=
  ⟨h.hb.keep hb, cell_keep hb h.s0, cell_keep hb h.s1, h.b.trans (hb.mono h.b.size)⟩
theorem AH.start (w : World) : AH w ((w.alloc (.cells #[.int .i64 cable, .slice AX nx cx, .slice AY ny cy, .slice AV nv cv, .int .i64 charge] 57)).alloc (.cells #[.int .i64 y1, .int .i64 y2] 27)) cable AX nx cx AY ny cy AV nv cv charge y1 y2 :=
  ⟨(HB.new w _).keep ((Below.refl _ _).alloc (Nat.le_refl _) _), hoist_cell w cable charge y1 y2 AX AY AV nx cx ny cy nv cv 0 _ _ rfl, hoist_cell w cable charge y1 y2 AX AY AV nx cx ny cy nv cv 1 _ _ rfl, by go_grown⟩
theorem AH.l1 (h : AH w W cable AX nx cx AY ny cy AV nv cv charge y1 y2) : w.heap.size + 1 < W.heap.size := World.block_lt_of_cell? _ _ h.s0
theorem AH.alloc (h : AH w W cable AX nx cx AY ny cy AV nv cv charge y1 y2) (x : Obj) : AH w (W.alloc x) cable AX nx cx AY ny cy AV nv cv charge y1 y2 := h.next ((Below.refl _ _).alloc (Nat.le_refl _) _)
end
/-- Two integers in a box. -/
structure I2 (W : World) (g : Nat) (p q : Int) : Prop where
  c0 : W.cell? ⟨g, 0, none⟩ = some (.int .i64 p)
  c1 : W.cell? ⟨g, 1, none⟩ = some (.int .i64 q)
theorem I2.next {W W' : World} {g : Nat} {p q : Int} (h : I2 W g p q) (hb : Below W.heap.size W W') : I2 W' g p q := ⟨cell_keep hb h.c0, cell_keep hb h.c1⟩
theorem I2.new {W : World} {p q : Int} {T : TypeId} {g : Nat} (hg : W.heap.size = g) : I2 (W.alloc (.cells #[.int .i64 p, .int .i64 q] T)) g p q := by
  subst hg
  exact ⟨by rw [cell_newest]; rfl, by rw [cell_newest]; rfl⟩
theorem I2.lt {W : World} {g : Nat} {p q : Int} (h : I2 W g p q) : g < W.heap.size := World.block_lt_of_cell? _ _ h.c0
end Go.Proofs.Ytnnmmojlgikdgaa

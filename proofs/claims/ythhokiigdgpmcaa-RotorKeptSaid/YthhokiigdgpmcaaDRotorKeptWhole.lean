/- swashplatelaw02.RotorKept returns true at every input, and the input reads as it did: no condition. -/
import Derived.Test.YthhokiigdgpmcaaM12
import Derived.Test.YthhokiigdgpmcaaM9
import Derived.Test.YthhokiigdgpmcaaM4
import Derived.Test.YthhokiigdgpmcaaM7
import Derived.Test.YthhokiigdgpmcaaM3

/- Numbers by which a smaller air is picked, opened; pick. -/
namespace Go.Proofs.Ythhokiigdgpmcaa
open Go.RowKit Go.WideShapes Go.ChangeShapes Go.ChangeAt Go.Joins Go.Deep

set_option maxRecDepth 100000
theorem arrD16 {cs : Array Value} (h : cs.size = 16) : ∃ c0 c1 c2 c3 c4 c5 c6 c7 c8 c9 c10 c11 c12 c13 c14 c15, cs = #[c0, c1, c2, c3, c4, c5, c6, c7, c8, c9, c10, c11, c12, c13, c14, c15] :=
  ⟨cs[0], cs[1], cs[2], cs[3], cs[4], cs[5], cs[6], cs[7], cs[8], cs[9], cs[10], cs[11], cs[12], cs[13], cs[14], cs[15], by
    apply Array.ext (by simp [h])
    intro i h1 h2
    simp at h2
    match i, h2 with
    | 0, _ => rfl
    | 1, _ => rfl
    | 2, _ => rfl
    | 3, _ => rfl
    | 4, _ => rfl
    | 5, _ => rfl
    | 6, _ => rfl
    | 7, _ => rfl
    | 8, _ => rfl
    | 9, _ => rfl
    | 10, _ => rfl
    | 11, _ => rfl
    | 12, _ => rfl
    | 13, _ => rfl
    | 14, _ => rfl
    | 15, _ => rfl
    | i + 16, h9 => exact absurd h9 (by omega)⟩
section
variable {H : Type} {enc : TypeId × Value → H}
theorem cells_less : Try.prog.cellsOf 67 = 16 := by kernel_rfl
theorem cells_a12 : Try.prog.cellsOf 65 = 12 := by kernel_rfl
theorem twelve_cells {w : World} {base : Nat} {spare : Nat → Bool} {held : Bool} {fuel : Nat} {c0 c1 c2 c3 c4 c5 c6 c7 c8 c9 c10 c11 : Value} {x : DataW H × List MemPlace} (h : DataW.trod enc Try.prog w base spare held fuel 65 [c0, c1, c2, c3, c4, c5, c6, c7, c8, c9, c10, c11] = some x) : ∃ n0 n1 n2 n3 n4 n5 n6 n7 n8 n9 n10 n11 : Int, c0 = .int .i64 n0 ∧ c1 = .int .i64 n1 ∧ c2 = .int .i64 n2 ∧ c3 = .int .i64 n3 ∧ c4 = .int .i64 n4 ∧ c5 = .int .i64 n5 ∧ c6 = .int .i64 n6 ∧ c7 = .int .i64 n7 ∧ c8 = .int .i64 n8 ∧ c9 = .int .i64 n9 ∧ c10 = .int .i64 n10 ∧ c11 = .int .i64 n11 := by
  obtain ⟨xs, m, _, hx, _, hlen, hg⟩ := DataW.trod_array Try.underlying65 h
  match xs, hlen with
  | [y0, y1, y2, y3, y4, y5, y6, y7, y8, y9, y10, y11], _ =>
    have h0 := hg 0 (by omega)
    simp only [cells_intD] at h0
    simp at h0
    obtain ⟨n0, e0, _, _⟩ := DataW.trod_int Try.underlying3 h0
    simp at e0
    have h1 := hg 1 (by omega)
    simp only [cells_intD] at h1
    simp at h1
    obtain ⟨n1, e1, _, _⟩ := DataW.trod_int Try.underlying3 h1
    simp at e1
    have h2 := hg 2 (by omega)
    simp only [cells_intD] at h2
    simp at h2
    obtain ⟨n2, e2, _, _⟩ := DataW.trod_int Try.underlying3 h2
    simp at e2
    have h3 := hg 3 (by omega)
    simp only [cells_intD] at h3
    simp at h3
    obtain ⟨n3, e3, _, _⟩ := DataW.trod_int Try.underlying3 h3
    simp at e3
    have h4 := hg 4 (by omega)
    simp only [cells_intD] at h4
    simp at h4
    obtain ⟨n4, e4, _, _⟩ := DataW.trod_int Try.underlying3 h4
    simp at e4
    have h5 := hg 5 (by omega)
    simp only [cells_intD] at h5
    simp at h5
    obtain ⟨n5, e5, _, _⟩ := DataW.trod_int Try.underlying3 h5
    simp at e5
    have h6 := hg 6 (by omega)
    simp only [cells_intD] at h6
    simp at h6
    obtain ⟨n6, e6, _, _⟩ := DataW.trod_int Try.underlying3 h6
    simp at e6
    have h7 := hg 7 (by omega)
    simp only [cells_intD] at h7
    simp at h7
    obtain ⟨n7, e7, _, _⟩ := DataW.trod_int Try.underlying3 h7
    simp at e7
    have h8 := hg 8 (by omega)
    simp only [cells_intD] at h8
    simp at h8
    obtain ⟨n8, e8, _, _⟩ := DataW.trod_int Try.underlying3 h8
    simp at e8
    have h9 := hg 9 (by omega)
    simp only [cells_intD] at h9
    simp at h9
    obtain ⟨n9, e9, _, _⟩ := DataW.trod_int Try.underlying3 h9
    simp at e9
    have h10 := hg 10 (by omega)
    simp only [cells_intD] at h10
    simp at h10
    obtain ⟨n10, e10, _, _⟩ := DataW.trod_int Try.underlying3 h10
    simp at e10
    have h11 := hg 11 (by omega)
    simp only [cells_intD] at h11
    simp at h11
    obtain ⟨n11, e11, _, _⟩ := DataW.trod_int Try.underlying3 h11
    simp at e11
    exact ⟨n0, n1, n2, n3, n4, n5, n6, n7, n8, n9, n10, n11, e0, e1, e2, e3, e4, e5, e6, e7, e8, e9, e10, e11⟩
theorem less_open {w : World} {base : Nat} {spare : Nat → Bool} {held : Bool} {r : Reach} {b0 : Nat} {v : Value} {d : DataW H} {p : List MemPlace}
    (hv : Value.okWide Try.prog w r b0 67 v) (h : DataW.Trod enc Try.prog w base spare held 67 v d p) : ∃ (n0 n1 n2 n3 n4 n5 n6 n7 n8 n9 n10 n11 : Int) (sp ab : Int × Int), v = .agg #[.int .i64 n0, .int .i64 n1, .int .i64 n2, .int .i64 n3, .int .i64 n4, .int .i64 n5, .int .i64 n6, .int .i64 n7, .int .i64 n8, .int .i64 n9, .int .i64 n10, .int .i64 n11, .int .i64 sp.1, .int .i64 sp.2, .int .i64 ab.1, .int .i64 ab.2] := by
  obtain ⟨cs, rfl, hsz⟩ := okWide_struct Try.underlying67 hv
  obtain ⟨c0, c1, c2, c3, c4, c5, c6, c7, c8, c9, c10, c11, c12, c13, c14, c15, rfl⟩ := arrD16 (hsz.trans cells_less)
  obtain ⟨fuel, hf⟩ := h
  obtain ⟨y0, y1, y2, n, _, _, h0, h1, h2⟩ := trod_struct3 Try.underlying67 hf
  simp only [cells_a12, cells_spD] at h0 h1 h2
  obtain ⟨n0, n1, n2, n3, n4, n5, n6, n7, n8, n9, n10, n11, e0, e1, e2, e3, e4, e5, e6, e7, e8, e9, e10, e11⟩ := twelve_cells (c0 := c0) (c1 := c1) (c2 := c2) (c3 := c3) (c4 := c4) (c5 := c5) (c6 := c6) (c7 := c7) (c8 := c8) (c9 := c9) (c10 := c10) (c11 := c11) (by simpa [Value.cells] using h0)
  obtain ⟨sp, f0, f1⟩ := span_cellsD (c0 := c12) (c1 := c13) (by simpa [Value.cells] using h1)
  obtain ⟨ab, g0, g1⟩ := span_cellsD (c0 := c14) (c1 := c15) (by simpa [Value.cells] using h2)
  subst e0 e1 e2 e3 e4 e5 e6 e7 e8 e9 e10 e11 f0 f1 g0 g1
  exact ⟨n0, n1, n2, n3, n4, n5, n6, n7, n8, n9, n10, n11, sp, ab, rfl⟩
end
theorem mod_in {m W : Int} (hW : 1 ≤ W) : (0 ≤ (m.tmod W + W).tmod W ∧ (m.tmod W + W).tmod W < W) ∧ -W < m.tmod W ∧ m.tmod W < W := by
  have h1 := Int.tmod_lt_of_pos m (show 0 < W by omega)
  have h2 := Int.lt_tmod_of_pos m (show 0 < W by omega)
  refine ⟨⟨Int.tmod_nonneg _ (by omega), Int.tmod_lt_of_pos _ (by omega)⟩, h2, h1⟩
set_option maxHeartbeats 1000000 in
theorem pick_fix (p : Int × Int) (m n : Int) (hp : vS p = true) : ∃ x y : Int, inS (x, y) p ∧ ∀ w : World, Calls Try.prog 45 #[.agg #[.int .i64 p.1, .int .i64 p.2], .int .i64 m, .int .i64 n] w fun e w' => e = .returned (.agg #[.int .i64 x, .int .i64 y]) ∧ Below w.heap.size w w' := by
  have hs := vS_get (a := p.1) (b := p.2) hp
  obtain ⟨W, hW⟩ : ∃ W, p.2 - p.1 + 1 = W := ⟨_, rfl⟩
  have w1 : 1 ≤ W := by omega
  have w2 : W ≤ 2000001 := by omega
  obtain ⟨⟨i1, i2⟩, i3, i4⟩ := mod_in (m := m) w1
  obtain ⟨⟨k1, k2⟩, k3, k4⟩ := mod_in (m := n) w1
  obtain ⟨t1, ht1⟩ : ∃ t, m.tmod W = t := ⟨_, rfl⟩
  obtain ⟨t2, ht2⟩ : ∃ t, n.tmod W = t := ⟨_, rfl⟩
  rw [ht1] at i1 i2 i3 i4
  rw [ht2] at k1 k2 k3 k4
  obtain ⟨u1, hu1⟩ : ∃ t, (t1 + W).tmod W = t := ⟨_, rfl⟩
  obtain ⟨u2, hu2⟩ : ∃ t, (t2 + W).tmod W = t := ⟨_, rfl⟩
  rw [hu1] at i1 i2
  rw [hu2] at k1 k2
  refine ⟨p.1 + min u1 u2, p.1 + max u1 u2, ⟨by simp only; omega, by simp only; omega, by simp only; omega⟩, fun w => ?_⟩
  have hz : ¬ W = 0 := by omega
  have hz' : ((W : Int) == 0) = false := by simpa using hz
  obtain ⟨p1, p2⟩ := p
  dsimp only at *
  clear hp
  have X2 := Lib.hid (BK.newg (w := w.alloc (.cells #[.int .i64 p1, .int .i64 p2] 34)) (g := w.heap.size + 1) (cs := #[.int .i64 0, .int .i64 0]) (T := 34) (by simp))
  have X3 := Lib.hid (show Below w.heap.size w ((w.alloc (.cells #[.int .i64 p1, .int .i64 p2] 34)).alloc (.cells #[.int .i64 0, .int .i64 0] 34)) by go_grown)
  go_enter Try.func45, Try.ntmps45
  go_wp2
  go_quiet (fail)
  go_wp2
  refine bodyPost_ret (v := .agg #[.int .i64 (p1 + min u1 u2), .int .i64 (p1 + max u1 u2)]) ?_ rfl ?_
  · exact resS Try.results45 (by rfl) (BK.set2 (k := 0) (show BK (World.drewN _ nq) (w.heap.size + 1) #[.int .i64 0, .int .i64 0] 34 from X2.out) rfl) (by rfl)
  · exact ⟨rfl, ((below_drewN (show Below w.heap.size w _ from X3.out) nq).setCell (p := ⟨w.heap.size + 1, 0, none⟩) (by simp) _).setCell (p := ⟨w.heap.size + 1, 1, none⟩) (by simp) _⟩
end Go.Proofs.Ythhokiigdgpmcaa

/- At of a table that reads as a look's does, at a point of the look. -/
namespace Go.Proofs.Ythhokiigdgpmcaa
open Go.RowKit

theorem at_look {lo hi : Int} {l : LO} {u : TV} {x y : Int} (h : LOk lo hi l) (hs : l.t.same u) (hx1 : l.x.1 ≤ x) (hx2 : x ≤ l.x.2) (hy1 : l.y.1 ≤ y) (hy2 : y ≤ l.y.2) :
    ∃ L H : Int, l.bn.1 ≤ L ∧ L ≤ H ∧ H ≤ l.bn.2 ∧ ∀ W : World, TG W u → Calls Try.prog 47 #[.agg #[.slice u.ax u.X.length u.cx, .slice u.ay u.Y.length u.cy, .slice u.av u.V.length u.cv], .int .i64 x, .int .i64 y] W fun e w' => e = .returned (.tuple #[.agg #[.int .i64 L, .int .i64 H], .int .i64 0]) ∧ Below W.heap.size W w' := by
  have hin := inside h.ct h.ox.1 h.ox.2 h.oy.1 h.oy.2 hx1 hx2 hy1 hy2
  have ox : On l.t.X x := ⟨by have := h.ox.1.1; omega, by have := h.ox.2.2; omega⟩
  have oy : On l.t.Y y := ⟨by have := h.oy.1.1; omega, by have := h.oy.2.2; omega⟩
  obtain ⟨a, b, _, _⟩ := ctB_get h.ct
  have hd := (atD_bd a b ox oy).1
  have hE : atS u.X u.Y u.V x y = ((fl (atN l.t.X l.t.Y l.t.V x y) (atD l.t.X l.t.Y x y), cl (atN l.t.X l.t.Y l.t.V x y) (atD l.t.X l.t.Y x y)), 0) := by
    obtain ⟨s1, s2, s3⟩ := hs
    unfold atS
    rw [s1, s2, s3, h.ct, onB_on.2 ox, onB_on.2 oy]
    rfl
  refine ⟨fl (atN l.t.X l.t.Y l.t.V x y) (atD l.t.X l.t.Y x y), cl (atN l.t.X l.t.Y l.t.V x y) (atD l.t.X l.t.Y x y), hin.1, ?_, hin.2, fun W ht => ?_⟩
  · have e1 := (fl_ge hd).1 (Int.le_refl (fl (atN l.t.X l.t.Y l.t.V x y) (atD l.t.X l.t.Y x y)))
    have e2 := (cl_le' hd).1 (Int.le_refl (cl (atN l.t.X l.t.Y l.t.V x y) (atD l.t.X l.t.Y x y)))
    generalize fl (atN l.t.X l.t.Y l.t.V x y) (atD l.t.X l.t.Y x y) = p at *
    generalize cl (atN l.t.X l.t.Y l.t.V x y) (atD l.t.X l.t.Y x y) = q at *
    exact Int.le_of_mul_le_mul_right (Int.le_trans e1 e2) (by omega)
  · have := at_s u.ax u.ay u.av u.X.length u.cx u.Y.length u.cy u.V.length u.cv W.heap.size u.X u.Y u.V x y W rfl rfl rfl ht.hx ht.hy ht.hv ht.hr (Nat.le_refl _) ht.tb
    rw [hE] at this
    exact this
/-- The margin's law at a point: P and Q are the greatest of both tables that are multiplied, L the least power. -/
theorem kept_num {L P Q p q l m : Int} (hm : m = L - cl (P * Q) 100) (hL : L ≤ l) (hp : p ≤ P) (hq : q ≤ Q) (hp0 : 0 ≤ p) (hq0 : 0 ≤ q) : p * q + m * 100 ≤ l * 100 := by
  have h1 := mul_mono hp0 hq0 hp hq
  generalize P * Q = R at *
  generalize p * q = s at *
  unfold cl at hm
  omega
end Go.Proofs.Ythhokiigdgpmcaa

/- CheckAir, lies, bound, up of layer 2's reference. -/
namespace Go.Proofs.Ythhokiigdgpmcaa
open Go.RowKit

set_option maxRecDepth 100000
theorem rvalS_any (s : Int × Int) (w : World) : Calls Try.prog 43 #[.agg #[.int .i64 s.1, .int .i64 s.2]] w fun e w' => e = .returned (.bool (vS s)) ∧ Below w.heap.size w w' := by
  rw [vS_vI' s]
  exact rvalid_any s.1 s.2 w

theorem cair_f0 (r : RO) (a : AI) (CS : Array Value) (w : World) (rg : RG w r) (hc : CS = #[.slice r.h.ax r.h.X.length r.h.cx, .slice r.h.ay r.h.Y.length r.h.cy, .slice r.h.av r.h.V.length r.h.cv, .slice r.g.ax r.g.X.length r.g.cx, .slice r.g.ay r.g.Y.length r.g.cy, .slice r.g.av r.g.V.length r.g.cv, .slice r.l.ax r.l.X.length r.l.cx, .slice r.l.ay r.l.Y.length r.l.cy, .slice r.l.av r.l.V.length r.l.cv, .slice r.p.ax r.p.X.length r.p.cx, .slice r.p.ay r.p.Y.length r.p.cy, .slice r.p.av r.p.V.length r.p.cv, .slice r.n.ax r.n.X.length r.n.cx, .slice r.n.ay r.n.Y.length r.n.cy, .slice r.n.av r.n.V.length r.n.cv, .slice r.a.ax r.a.X.length r.a.cx, .slice r.a.ay r.a.Y.length r.a.cy, .slice r.a.av r.a.V.length r.a.cv, .slice r.b.ax r.b.X.length r.b.cx, .slice r.b.ay r.b.Y.length r.b.cy, .slice r.b.av r.b.V.length r.b.cv, .slice r.d.ax r.d.X.length r.d.cx, .slice r.d.ay r.d.Y.length r.d.cy, .slice r.d.av r.d.V.length r.d.cv, .int .i64 r.cl, .int .i64 r.bu]) (h : r.ok = false) : Calls Try.prog 42 #[.agg CS, .agg #[.int .i64 a.w.1, .int .i64 a.w.2, .int .i64 a.t.1, .int .i64 a.t.2, .int .i64 a.h.1, .int .i64 a.h.2, .int .i64 a.v.1, .int .i64 a.v.2]] w fun e w' => e = .returned (.int .i64 20) ∧ Below w.heap.size w w' := by
  have HCK := Lib.hid (fun (W : World) (hW : Below w.heap.size w W) => show Calls Try.prog 18 #[.agg CS] W fun e w' => e = .returned (.int .i64 20) ∧ Below W.heap.size W w' by
    have := rrotcheck_any r W (rg.below hW)
    rw [show r.err = 20 by unfold RO.err; rw [h]; rfl, ← hc] at this
    exact this)
  have HSZ := Lib.hid (show CS.size = 26 by rw [hc]; rfl)
  have X1 := Lib.hid ((BK.new (w := w) (cs := CS) (T := 27)).old (x := .cells #[.int .i64 a.w.1, .int .i64 a.w.2, .int .i64 a.t.1, .int .i64 a.t.2, .int .i64 a.h.1, .int .i64 a.h.2, .int .i64 a.v.1, .int .i64 a.v.2] 36))
  have X2 := Lib.hid (BK.newg (w := w.alloc (.cells CS 27)) (g := w.heap.size + 1) (cs := #[.int .i64 a.w.1, .int .i64 a.w.2, .int .i64 a.t.1, .int .i64 a.t.2, .int .i64 a.h.1, .int .i64 a.h.2, .int .i64 a.v.1, .int .i64 a.v.2]) (T := 36) (by simp))
  have HB := Lib.hid (show Below w.heap.size w ((w.alloc (.cells CS 27)).alloc (.cells #[.int .i64 a.w.1, .int .i64 a.w.2, .int .i64 a.t.1, .int .i64 a.t.2, .int .i64 a.h.1, .int .i64 a.h.2, .int .i64 a.v.1, .int .i64 a.v.2] 36)) by go_grown)
  clear rg hc h
  go_enter Try.func42, Try.ntmps42
  go_wp2_with (first
    | ((with_reducible refine ldR X1.out HSZ.out ?_ ?_); rfl)
    | (go_at_call 18; refine Calls.mono (HCK.out _ HB.out) ?_; rintro e w1 ⟨rfl, hb1⟩; have HB1 := Lib.hid (HB.out.trans (hb1.mono HB.out.size)); clear hb1))
  go_ret
  exact ⟨rfl, HB1.out⟩
theorem cair_f1 (r : RO) (a : AI) (CS : Array Value) (w : World) (rg : RG w r) (hc : CS = #[.slice r.h.ax r.h.X.length r.h.cx, .slice r.h.ay r.h.Y.length r.h.cy, .slice r.h.av r.h.V.length r.h.cv, .slice r.g.ax r.g.X.length r.g.cx, .slice r.g.ay r.g.Y.length r.g.cy, .slice r.g.av r.g.V.length r.g.cv, .slice r.l.ax r.l.X.length r.l.cx, .slice r.l.ay r.l.Y.length r.l.cy, .slice r.l.av r.l.V.length r.l.cv, .slice r.p.ax r.p.X.length r.p.cx, .slice r.p.ay r.p.Y.length r.p.cy, .slice r.p.av r.p.V.length r.p.cv, .slice r.n.ax r.n.X.length r.n.cx, .slice r.n.ay r.n.Y.length r.n.cy, .slice r.n.av r.n.V.length r.n.cv, .slice r.a.ax r.a.X.length r.a.cx, .slice r.a.ay r.a.Y.length r.a.cy, .slice r.a.av r.a.V.length r.a.cv, .slice r.b.ax r.b.X.length r.b.cx, .slice r.b.ay r.b.Y.length r.b.cy, .slice r.b.av r.b.V.length r.b.cv, .slice r.d.ax r.d.X.length r.d.cx, .slice r.d.ay r.d.Y.length r.d.cy, .slice r.d.av r.d.V.length r.d.cv, .int .i64 r.cl, .int .i64 r.bu]) (h : r.ok = true) (e1 : vS a.w = false) : Calls Try.prog 42 #[.agg CS, .agg #[.int .i64 a.w.1, .int .i64 a.w.2, .int .i64 a.t.1, .int .i64 a.t.2, .int .i64 a.h.1, .int .i64 a.h.2, .int .i64 a.v.1, .int .i64 a.v.2]] w fun e w' => e = .returned (.int .i64 21) ∧ Below w.heap.size w w' := by
  have HCK := Lib.hid (fun (W : World) (hW : Below w.heap.size w W) => show Calls Try.prog 18 #[.agg CS] W fun e w' => e = .returned (.int .i64 0) ∧ Below W.heap.size W w' by
    have := rrotcheck_any r W (rg.below hW)
    rw [show r.err = 0 by unfold RO.err; rw [h]; rfl, ← hc] at this
    exact this)
  have H1 := Lib.hid (fun (W : World) => rvalS_any a.w W)
  rw [e1] at H1
  have HSZ := Lib.hid (show CS.size = 26 by rw [hc]; rfl)
  have X1 := Lib.hid ((BK.new (w := w) (cs := CS) (T := 27)).old (x := .cells #[.int .i64 a.w.1, .int .i64 a.w.2, .int .i64 a.t.1, .int .i64 a.t.2, .int .i64 a.h.1, .int .i64 a.h.2, .int .i64 a.v.1, .int .i64 a.v.2] 36))
  have X2 := Lib.hid (BK.newg (w := w.alloc (.cells CS 27)) (g := w.heap.size + 1) (cs := #[.int .i64 a.w.1, .int .i64 a.w.2, .int .i64 a.t.1, .int .i64 a.t.2, .int .i64 a.h.1, .int .i64 a.h.2, .int .i64 a.v.1, .int .i64 a.v.2]) (T := 36) (by simp))
  have HB := Lib.hid (show Below w.heap.size w ((w.alloc (.cells CS 27)).alloc (.cells #[.int .i64 a.w.1, .int .i64 a.w.2, .int .i64 a.t.1, .int .i64 a.t.2, .int .i64 a.h.1, .int .i64 a.h.2, .int .i64 a.v.1, .int .i64 a.v.2] 36)) by go_grown)
  clear rg hc h e1
  go_enter Try.func42, Try.ntmps42
  go_wp2_with (first
    | ((with_reducible refine ldR X1.out HSZ.out ?_ ?_); rfl)
    | (go_at_call 18; refine Calls.mono (HCK.out _ HB.out) ?_; rintro e w0 ⟨rfl, hb0⟩; have HB0 := Lib.hid (HB.out.trans (hb0.mono HB.out.size)); have K0 := X2.out.keep hb0; have c0 := K0.cell; have l0 := K0.lt; clear hb0)
    | (go_at_call_of 43 (Value.agg #[.int .i64 a.w.1, .int .i64 a.w.2]); refine Calls.mono (H1.out _) ?_; rintro e w1 ⟨rfl, hb1⟩; have HB1 := Lib.hid (HB0.out.trans (hb1.mono HB0.out.size)); have K1 := K0.keep hb1; have c1 := K1.cell; have l1 := K1.lt; clear hb1 c0 l0))
  go_ret
  exact ⟨rfl, HB1.out⟩
theorem cair_f2 (r : RO) (a : AI) (CS : Array Value) (w : World) (rg : RG w r) (hc : CS = #[.slice r.h.ax r.h.X.length r.h.cx, .slice r.h.ay r.h.Y.length r.h.cy, .slice r.h.av r.h.V.length r.h.cv, .slice r.g.ax r.g.X.length r.g.cx, .slice r.g.ay r.g.Y.length r.g.cy, .slice r.g.av r.g.V.length r.g.cv, .slice r.l.ax r.l.X.length r.l.cx, .slice r.l.ay r.l.Y.length r.l.cy, .slice r.l.av r.l.V.length r.l.cv, .slice r.p.ax r.p.X.length r.p.cx, .slice r.p.ay r.p.Y.length r.p.cy, .slice r.p.av r.p.V.length r.p.cv, .slice r.n.ax r.n.X.length r.n.cx, .slice r.n.ay r.n.Y.length r.n.cy, .slice r.n.av r.n.V.length r.n.cv, .slice r.a.ax r.a.X.length r.a.cx, .slice r.a.ay r.a.Y.length r.a.cy, .slice r.a.av r.a.V.length r.a.cv, .slice r.b.ax r.b.X.length r.b.cx, .slice r.b.ay r.b.Y.length r.b.cy, .slice r.b.av r.b.V.length r.b.cv, .slice r.d.ax r.d.X.length r.d.cx, .slice r.d.ay r.d.Y.length r.d.cy, .slice r.d.av r.d.V.length r.d.cv, .int .i64 r.cl, .int .i64 r.bu]) (h : r.ok = true) (e1 : vS a.w = true) (e2 : vS a.t = false) : Calls Try.prog 42 #[.agg CS, .agg #[.int .i64 a.w.1, .int .i64 a.w.2, .int .i64 a.t.1, .int .i64 a.t.2, .int .i64 a.h.1, .int .i64 a.h.2, .int .i64 a.v.1, .int .i64 a.v.2]] w fun e w' => e = .returned (.int .i64 21) ∧ Below w.heap.size w w' := by
  have HCK := Lib.hid (fun (W : World) (hW : Below w.heap.size w W) => show Calls Try.prog 18 #[.agg CS] W fun e w' => e = .returned (.int .i64 0) ∧ Below W.heap.size W w' by
    have := rrotcheck_any r W (rg.below hW)
    rw [show r.err = 0 by unfold RO.err; rw [h]; rfl, ← hc] at this
    exact this)
  have H1 := Lib.hid (fun (W : World) => rvalS_any a.w W)
  rw [e1] at H1
  have H2 := Lib.hid (fun (W : World) => rvalS_any a.t W)
  rw [e2] at H2
  have HSZ := Lib.hid (show CS.size = 26 by rw [hc]; rfl)
  have X1 := Lib.hid ((BK.new (w := w) (cs := CS) (T := 27)).old (x := .cells #[.int .i64 a.w.1, .int .i64 a.w.2, .int .i64 a.t.1, .int .i64 a.t.2, .int .i64 a.h.1, .int .i64 a.h.2, .int .i64 a.v.1, .int .i64 a.v.2] 36))
  have X2 := Lib.hid (BK.newg (w := w.alloc (.cells CS 27)) (g := w.heap.size + 1) (cs := #[.int .i64 a.w.1, .int .i64 a.w.2, .int .i64 a.t.1, .int .i64 a.t.2, .int .i64 a.h.1, .int .i64 a.h.2, .int .i64 a.v.1, .int .i64 a.v.2]) (T := 36) (by simp))
  have HB := Lib.hid (show Below w.heap.size w ((w.alloc (.cells CS 27)).alloc (.cells #[.int .i64 a.w.1, .int .i64 a.w.2, .int .i64 a.t.1, .int .i64 a.t.2, .int .i64 a.h.1, .int .i64 a.h.2, .int .i64 a.v.1, .int .i64 a.v.2] 36)) by go_grown)
  clear rg hc h e1 e2
  go_enter Try.func42, Try.ntmps42
  go_wp2_with (first
    | ((with_reducible refine ldR X1.out HSZ.out ?_ ?_); rfl)
    | (go_at_call 18; refine Calls.mono (HCK.out _ HB.out) ?_; rintro e w0 ⟨rfl, hb0⟩; have HB0 := Lib.hid (HB.out.trans (hb0.mono HB.out.size)); have K0 := X2.out.keep hb0; have c0 := K0.cell; have l0 := K0.lt; clear hb0)
    | (go_at_call_of 43 (Value.agg #[.int .i64 a.w.1, .int .i64 a.w.2]); refine Calls.mono (H1.out _) ?_; rintro e w1 ⟨rfl, hb1⟩; have HB1 := Lib.hid (HB0.out.trans (hb1.mono HB0.out.size)); have K1 := K0.keep hb1; have c1 := K1.cell; have l1 := K1.lt; clear hb1 c0 l0)
    | (go_at_call_of 43 (Value.agg #[.int .i64 a.t.1, .int .i64 a.t.2]); refine Calls.mono (H2.out _) ?_; rintro e w2 ⟨rfl, hb2⟩; have HB2 := Lib.hid (HB1.out.trans (hb2.mono HB1.out.size)); have K2 := K1.keep hb2; have c2 := K2.cell; have l2 := K2.lt; clear hb2 c1 l1))
  go_ret
  exact ⟨rfl, HB2.out⟩
theorem cair_f3 (r : RO) (a : AI) (CS : Array Value) (w : World) (rg : RG w r) (hc : CS = #[.slice r.h.ax r.h.X.length r.h.cx, .slice r.h.ay r.h.Y.length r.h.cy, .slice r.h.av r.h.V.length r.h.cv, .slice r.g.ax r.g.X.length r.g.cx, .slice r.g.ay r.g.Y.length r.g.cy, .slice r.g.av r.g.V.length r.g.cv, .slice r.l.ax r.l.X.length r.l.cx, .slice r.l.ay r.l.Y.length r.l.cy, .slice r.l.av r.l.V.length r.l.cv, .slice r.p.ax r.p.X.length r.p.cx, .slice r.p.ay r.p.Y.length r.p.cy, .slice r.p.av r.p.V.length r.p.cv, .slice r.n.ax r.n.X.length r.n.cx, .slice r.n.ay r.n.Y.length r.n.cy, .slice r.n.av r.n.V.length r.n.cv, .slice r.a.ax r.a.X.length r.a.cx, .slice r.a.ay r.a.Y.length r.a.cy, .slice r.a.av r.a.V.length r.a.cv, .slice r.b.ax r.b.X.length r.b.cx, .slice r.b.ay r.b.Y.length r.b.cy, .slice r.b.av r.b.V.length r.b.cv, .slice r.d.ax r.d.X.length r.d.cx, .slice r.d.ay r.d.Y.length r.d.cy, .slice r.d.av r.d.V.length r.d.cv, .int .i64 r.cl, .int .i64 r.bu]) (h : r.ok = true) (e1 : vS a.w = true) (e2 : vS a.t = true) (e3 : vS a.h = false) : Calls Try.prog 42 #[.agg CS, .agg #[.int .i64 a.w.1, .int .i64 a.w.2, .int .i64 a.t.1, .int .i64 a.t.2, .int .i64 a.h.1, .int .i64 a.h.2, .int .i64 a.v.1, .int .i64 a.v.2]] w fun e w' => e = .returned (.int .i64 21) ∧ Below w.heap.size w w' := by
  have HCK := Lib.hid (fun (W : World) (hW : Below w.heap.size w W) => show Calls Try.prog 18 #[.agg CS] W fun e w' => e = .returned (.int .i64 0) ∧ Below W.heap.size W w' by
    have := rrotcheck_any r W (rg.below hW)
    rw [show r.err = 0 by unfold RO.err; rw [h]; rfl, ← hc] at this
    exact this)
  have H1 := Lib.hid (fun (W : World) => rvalS_any a.w W)
  rw [e1] at H1
  have H2 := Lib.hid (fun (W : World) => rvalS_any a.t W)
  rw [e2] at H2
  have H3 := Lib.hid (fun (W : World) => rvalS_any a.h W)
  rw [e3] at H3
  have HSZ := Lib.hid (show CS.size = 26 by rw [hc]; rfl)
  have X1 := Lib.hid ((BK.new (w := w) (cs := CS) (T := 27)).old (x := .cells #[.int .i64 a.w.1, .int .i64 a.w.2, .int .i64 a.t.1, .int .i64 a.t.2, .int .i64 a.h.1, .int .i64 a.h.2, .int .i64 a.v.1, .int .i64 a.v.2] 36))
  have X2 := Lib.hid (BK.newg (w := w.alloc (.cells CS 27)) (g := w.heap.size + 1) (cs := #[.int .i64 a.w.1, .int .i64 a.w.2, .int .i64 a.t.1, .int .i64 a.t.2, .int .i64 a.h.1, .int .i64 a.h.2, .int .i64 a.v.1, .int .i64 a.v.2]) (T := 36) (by simp))
  have HB := Lib.hid (show Below w.heap.size w ((w.alloc (.cells CS 27)).alloc (.cells #[.int .i64 a.w.1, .int .i64 a.w.2, .int .i64 a.t.1, .int .i64 a.t.2, .int .i64 a.h.1, .int .i64 a.h.2, .int .i64 a.v.1, .int .i64 a.v.2] 36)) by go_grown)
  clear rg hc h e1 e2 e3
  go_enter Try.func42, Try.ntmps42
  go_wp2_with (first
    | ((with_reducible refine ldR X1.out HSZ.out ?_ ?_); rfl)
    | (go_at_call 18; refine Calls.mono (HCK.out _ HB.out) ?_; rintro e w0 ⟨rfl, hb0⟩; have HB0 := Lib.hid (HB.out.trans (hb0.mono HB.out.size)); have K0 := X2.out.keep hb0; have c0 := K0.cell; have l0 := K0.lt; clear hb0)
    | (go_at_call_of 43 (Value.agg #[.int .i64 a.w.1, .int .i64 a.w.2]); refine Calls.mono (H1.out _) ?_; rintro e w1 ⟨rfl, hb1⟩; have HB1 := Lib.hid (HB0.out.trans (hb1.mono HB0.out.size)); have K1 := K0.keep hb1; have c1 := K1.cell; have l1 := K1.lt; clear hb1 c0 l0)
    | (go_at_call_of 43 (Value.agg #[.int .i64 a.t.1, .int .i64 a.t.2]); refine Calls.mono (H2.out _) ?_; rintro e w2 ⟨rfl, hb2⟩; have HB2 := Lib.hid (HB1.out.trans (hb2.mono HB1.out.size)); have K2 := K1.keep hb2; have c2 := K2.cell; have l2 := K2.lt; clear hb2 c1 l1)
    | (go_at_call_of 43 (Value.agg #[.int .i64 a.h.1, .int .i64 a.h.2]); refine Calls.mono (H3.out _) ?_; rintro e w3 ⟨rfl, hb3⟩; have HB3 := Lib.hid (HB2.out.trans (hb3.mono HB2.out.size)); have K3 := K2.keep hb3; have c3 := K3.cell; have l3 := K3.lt; clear hb3 c2 l2))
  go_ret
  exact ⟨rfl, HB3.out⟩
theorem cair_f4 (r : RO) (a : AI) (CS : Array Value) (w : World) (rg : RG w r) (hc : CS = #[.slice r.h.ax r.h.X.length r.h.cx, .slice r.h.ay r.h.Y.length r.h.cy, .slice r.h.av r.h.V.length r.h.cv, .slice r.g.ax r.g.X.length r.g.cx, .slice r.g.ay r.g.Y.length r.g.cy, .slice r.g.av r.g.V.length r.g.cv, .slice r.l.ax r.l.X.length r.l.cx, .slice r.l.ay r.l.Y.length r.l.cy, .slice r.l.av r.l.V.length r.l.cv, .slice r.p.ax r.p.X.length r.p.cx, .slice r.p.ay r.p.Y.length r.p.cy, .slice r.p.av r.p.V.length r.p.cv, .slice r.n.ax r.n.X.length r.n.cx, .slice r.n.ay r.n.Y.length r.n.cy, .slice r.n.av r.n.V.length r.n.cv, .slice r.a.ax r.a.X.length r.a.cx, .slice r.a.ay r.a.Y.length r.a.cy, .slice r.a.av r.a.V.length r.a.cv, .slice r.b.ax r.b.X.length r.b.cx, .slice r.b.ay r.b.Y.length r.b.cy, .slice r.b.av r.b.V.length r.b.cv, .slice r.d.ax r.d.X.length r.d.cx, .slice r.d.ay r.d.Y.length r.d.cy, .slice r.d.av r.d.V.length r.d.cv, .int .i64 r.cl, .int .i64 r.bu]) (h : r.ok = true) (e1 : vS a.w = true) (e2 : vS a.t = true) (e3 : vS a.h = true) (e4 : vS a.v = false) : Calls Try.prog 42 #[.agg CS, .agg #[.int .i64 a.w.1, .int .i64 a.w.2, .int .i64 a.t.1, .int .i64 a.t.2, .int .i64 a.h.1, .int .i64 a.h.2, .int .i64 a.v.1, .int .i64 a.v.2]] w fun e w' => e = .returned (.int .i64 21) ∧ Below w.heap.size w w' := by
  have HCK := Lib.hid (fun (W : World) (hW : Below w.heap.size w W) => show Calls Try.prog 18 #[.agg CS] W fun e w' => e = .returned (.int .i64 0) ∧ Below W.heap.size W w' by
    have := rrotcheck_any r W (rg.below hW)
    rw [show r.err = 0 by unfold RO.err; rw [h]; rfl, ← hc] at this
    exact this)
  have H1 := Lib.hid (fun (W : World) => rvalS_any a.w W)
  rw [e1] at H1
  have H2 := Lib.hid (fun (W : World) => rvalS_any a.t W)
  rw [e2] at H2
  have H3 := Lib.hid (fun (W : World) => rvalS_any a.h W)
  rw [e3] at H3
  have H4 := Lib.hid (fun (W : World) => rvalS_any a.v W)
  rw [e4] at H4
  have HSZ := Lib.hid (show CS.size = 26 by rw [hc]; rfl)
  have X1 := Lib.hid ((BK.new (w := w) (cs := CS) (T := 27)).old (x := .cells #[.int .i64 a.w.1, .int .i64 a.w.2, .int .i64 a.t.1, .int .i64 a.t.2, .int .i64 a.h.1, .int .i64 a.h.2, .int .i64 a.v.1, .int .i64 a.v.2] 36))
  have X2 := Lib.hid (BK.newg (w := w.alloc (.cells CS 27)) (g := w.heap.size + 1) (cs := #[.int .i64 a.w.1, .int .i64 a.w.2, .int .i64 a.t.1, .int .i64 a.t.2, .int .i64 a.h.1, .int .i64 a.h.2, .int .i64 a.v.1, .int .i64 a.v.2]) (T := 36) (by simp))
  have HB := Lib.hid (show Below w.heap.size w ((w.alloc (.cells CS 27)).alloc (.cells #[.int .i64 a.w.1, .int .i64 a.w.2, .int .i64 a.t.1, .int .i64 a.t.2, .int .i64 a.h.1, .int .i64 a.h.2, .int .i64 a.v.1, .int .i64 a.v.2] 36)) by go_grown)
  clear rg hc h e1 e2 e3 e4
  go_enter Try.func42, Try.ntmps42
  go_wp2_with (first
    | ((with_reducible refine ldR X1.out HSZ.out ?_ ?_); rfl)
    | (go_at_call 18; refine Calls.mono (HCK.out _ HB.out) ?_; rintro e w0 ⟨rfl, hb0⟩; have HB0 := Lib.hid (HB.out.trans (hb0.mono HB.out.size)); have K0 := X2.out.keep hb0; have c0 := K0.cell; have l0 := K0.lt; clear hb0)
    | (go_at_call_of 43 (Value.agg #[.int .i64 a.w.1, .int .i64 a.w.2]); refine Calls.mono (H1.out _) ?_; rintro e w1 ⟨rfl, hb1⟩; have HB1 := Lib.hid (HB0.out.trans (hb1.mono HB0.out.size)); have K1 := K0.keep hb1; have c1 := K1.cell; have l1 := K1.lt; clear hb1 c0 l0)
    | (go_at_call_of 43 (Value.agg #[.int .i64 a.t.1, .int .i64 a.t.2]); refine Calls.mono (H2.out _) ?_; rintro e w2 ⟨rfl, hb2⟩; have HB2 := Lib.hid (HB1.out.trans (hb2.mono HB1.out.size)); have K2 := K1.keep hb2; have c2 := K2.cell; have l2 := K2.lt; clear hb2 c1 l1)
    | (go_at_call_of 43 (Value.agg #[.int .i64 a.h.1, .int .i64 a.h.2]); refine Calls.mono (H3.out _) ?_; rintro e w3 ⟨rfl, hb3⟩; have HB3 := Lib.hid (HB2.out.trans (hb3.mono HB2.out.size)); have K3 := K2.keep hb3; have c3 := K3.cell; have l3 := K3.lt; clear hb3 c2 l2)
    | (go_at_call_of 43 (Value.agg #[.int .i64 a.v.1, .int .i64 a.v.2]); refine Calls.mono (H4.out _) ?_; rintro e w4 ⟨rfl, hb4⟩; have HB4 := Lib.hid (HB3.out.trans (hb4.mono HB3.out.size)); have K4 := K3.keep hb4; have c4 := K4.cell; have l4 := K4.lt; clear hb4 c3 l3))
  go_ret
  exact ⟨rfl, HB4.out⟩
theorem cair_ok (r : RO) (a : AI) (CS : Array Value) (w : World) (rg : RG w r) (hc : CS = #[.slice r.h.ax r.h.X.length r.h.cx, .slice r.h.ay r.h.Y.length r.h.cy, .slice r.h.av r.h.V.length r.h.cv, .slice r.g.ax r.g.X.length r.g.cx, .slice r.g.ay r.g.Y.length r.g.cy, .slice r.g.av r.g.V.length r.g.cv, .slice r.l.ax r.l.X.length r.l.cx, .slice r.l.ay r.l.Y.length r.l.cy, .slice r.l.av r.l.V.length r.l.cv, .slice r.p.ax r.p.X.length r.p.cx, .slice r.p.ay r.p.Y.length r.p.cy, .slice r.p.av r.p.V.length r.p.cv, .slice r.n.ax r.n.X.length r.n.cx, .slice r.n.ay r.n.Y.length r.n.cy, .slice r.n.av r.n.V.length r.n.cv, .slice r.a.ax r.a.X.length r.a.cx, .slice r.a.ay r.a.Y.length r.a.cy, .slice r.a.av r.a.V.length r.a.cv, .slice r.b.ax r.b.X.length r.b.cx, .slice r.b.ay r.b.Y.length r.b.cy, .slice r.b.av r.b.V.length r.b.cv, .slice r.d.ax r.d.X.length r.d.cx, .slice r.d.ay r.d.Y.length r.d.cy, .slice r.d.av r.d.V.length r.d.cv, .int .i64 r.cl, .int .i64 r.bu]) (h : r.ok = true) (e1 : vS a.w = true) (e2 : vS a.t = true) (e3 : vS a.h = true) (e4 : vS a.v = true) : Calls Try.prog 42 #[.agg CS, .agg #[.int .i64 a.w.1, .int .i64 a.w.2, .int .i64 a.t.1, .int .i64 a.t.2, .int .i64 a.h.1, .int .i64 a.h.2, .int .i64 a.v.1, .int .i64 a.v.2]] w fun e w' => e = .returned (.int .i64 0) ∧ Below w.heap.size w w' := by
  have HCK := Lib.hid (fun (W : World) (hW : Below w.heap.size w W) => show Calls Try.prog 18 #[.agg CS] W fun e w' => e = .returned (.int .i64 0) ∧ Below W.heap.size W w' by
    have := rrotcheck_any r W (rg.below hW)
    rw [show r.err = 0 by unfold RO.err; rw [h]; rfl, ← hc] at this
    exact this)
  have H1 := Lib.hid (fun (W : World) => rvalS_any a.w W)
  rw [e1] at H1
  have H2 := Lib.hid (fun (W : World) => rvalS_any a.t W)
  rw [e2] at H2
  have H3 := Lib.hid (fun (W : World) => rvalS_any a.h W)
  rw [e3] at H3
  have H4 := Lib.hid (fun (W : World) => rvalS_any a.v W)
  rw [e4] at H4
  have HSZ := Lib.hid (show CS.size = 26 by rw [hc]; rfl)
  have X1 := Lib.hid ((BK.new (w := w) (cs := CS) (T := 27)).old (x := .cells #[.int .i64 a.w.1, .int .i64 a.w.2, .int .i64 a.t.1, .int .i64 a.t.2, .int .i64 a.h.1, .int .i64 a.h.2, .int .i64 a.v.1, .int .i64 a.v.2] 36))
  have X2 := Lib.hid (BK.newg (w := w.alloc (.cells CS 27)) (g := w.heap.size + 1) (cs := #[.int .i64 a.w.1, .int .i64 a.w.2, .int .i64 a.t.1, .int .i64 a.t.2, .int .i64 a.h.1, .int .i64 a.h.2, .int .i64 a.v.1, .int .i64 a.v.2]) (T := 36) (by simp))
  have HB := Lib.hid (show Below w.heap.size w ((w.alloc (.cells CS 27)).alloc (.cells #[.int .i64 a.w.1, .int .i64 a.w.2, .int .i64 a.t.1, .int .i64 a.t.2, .int .i64 a.h.1, .int .i64 a.h.2, .int .i64 a.v.1, .int .i64 a.v.2] 36)) by go_grown)
  clear rg hc h e1 e2 e3 e4
  go_enter Try.func42, Try.ntmps42
  go_wp2_with (first
    | ((with_reducible refine ldR X1.out HSZ.out ?_ ?_); rfl)
    | (go_at_call 18; refine Calls.mono (HCK.out _ HB.out) ?_; rintro e w0 ⟨rfl, hb0⟩; have HB0 := Lib.hid (HB.out.trans (hb0.mono HB.out.size)); have K0 := X2.out.keep hb0; have c0 := K0.cell; have l0 := K0.lt; clear hb0)
    | (go_at_call_of 43 (Value.agg #[.int .i64 a.w.1, .int .i64 a.w.2]); refine Calls.mono (H1.out _) ?_; rintro e w1 ⟨rfl, hb1⟩; have HB1 := Lib.hid (HB0.out.trans (hb1.mono HB0.out.size)); have K1 := K0.keep hb1; have c1 := K1.cell; have l1 := K1.lt; clear hb1 c0 l0)
    | (go_at_call_of 43 (Value.agg #[.int .i64 a.t.1, .int .i64 a.t.2]); refine Calls.mono (H2.out _) ?_; rintro e w2 ⟨rfl, hb2⟩; have HB2 := Lib.hid (HB1.out.trans (hb2.mono HB1.out.size)); have K2 := K1.keep hb2; have c2 := K2.cell; have l2 := K2.lt; clear hb2 c1 l1)
    | (go_at_call_of 43 (Value.agg #[.int .i64 a.h.1, .int .i64 a.h.2]); refine Calls.mono (H3.out _) ?_; rintro e w3 ⟨rfl, hb3⟩; have HB3 := Lib.hid (HB2.out.trans (hb3.mono HB2.out.size)); have K3 := K2.keep hb3; have c3 := K3.cell; have l3 := K3.lt; clear hb3 c2 l2)
    | (go_at_call_of 43 (Value.agg #[.int .i64 a.v.1, .int .i64 a.v.2]); refine Calls.mono (H4.out _) ?_; rintro e w4 ⟨rfl, hb4⟩; have HB4 := Lib.hid (HB3.out.trans (hb4.mono HB3.out.size)); have K4 := K3.keep hb4; have c4 := K4.cell; have l4 := K4.lt; clear hb4 c3 l3))
  go_ret
  exact ⟨rfl, HB4.out⟩
theorem checkAir_any (r : RO) (a : AI) (CS : Array Value) (w : World) (rg : RG w r) (hc : CS = #[.slice r.h.ax r.h.X.length r.h.cx, .slice r.h.ay r.h.Y.length r.h.cy, .slice r.h.av r.h.V.length r.h.cv, .slice r.g.ax r.g.X.length r.g.cx, .slice r.g.ay r.g.Y.length r.g.cy, .slice r.g.av r.g.V.length r.g.cv, .slice r.l.ax r.l.X.length r.l.cx, .slice r.l.ay r.l.Y.length r.l.cy, .slice r.l.av r.l.V.length r.l.cv, .slice r.p.ax r.p.X.length r.p.cx, .slice r.p.ay r.p.Y.length r.p.cy, .slice r.p.av r.p.V.length r.p.cv, .slice r.n.ax r.n.X.length r.n.cx, .slice r.n.ay r.n.Y.length r.n.cy, .slice r.n.av r.n.V.length r.n.cv, .slice r.a.ax r.a.X.length r.a.cx, .slice r.a.ay r.a.Y.length r.a.cy, .slice r.a.av r.a.V.length r.a.cv, .slice r.b.ax r.b.X.length r.b.cx, .slice r.b.ay r.b.Y.length r.b.cy, .slice r.b.av r.b.V.length r.b.cv, .slice r.d.ax r.d.X.length r.d.cx, .slice r.d.ay r.d.Y.length r.d.cy, .slice r.d.av r.d.V.length r.d.cv, .int .i64 r.cl, .int .i64 r.bu]) : Calls Try.prog 42 #[.agg CS, .agg #[.int .i64 a.w.1, .int .i64 a.w.2, .int .i64 a.t.1, .int .i64 a.t.2, .int .i64 a.h.1, .int .i64 a.h.2, .int .i64 a.v.1, .int .i64 a.v.2]] w fun e w' => e = .returned (.int .i64 (airE r a)) ∧ Below w.heap.size w w' := by
  unfold airE AI.ok
  simp only [List.all_cons, List.all_nil, Bool.and_true]
  cases h : r.ok with
  | false => simpa using cair_f0 r a CS w rg hc h
  | true =>
  cases e1 : vS a.w with
  | false => simpa using cair_f1 r a CS w rg hc h e1
  | true =>
  cases e2 : vS a.t with
  | false => simpa using cair_f2 r a CS w rg hc h e1 e2
  | true =>
  cases e3 : vS a.h with
  | false => simpa using cair_f3 r a CS w rg hc h e1 e2 e3
  | true =>
  cases e4 : vS a.v with
  | false => simpa using cair_f4 r a CS w rg hc h e1 e2 e3 e4
  | true =>
  simpa using cair_ok r a CS w rg hc h e1 e2 e3 e4

/-- lies. -/
def lsB (t : TV) (x y : Int × Int) : Bool := vS x && (vS y && (osB t.X x && osB t.Y y))
theorem rlies_f1 (t : TV) (x y : Int × Int) (w : World) (_ht : TG w t) (_hx : 1 ≤ t.X.length ∧ t.X.length ≤ 1000000) (_hy : 1 ≤ t.Y.length ∧ t.Y.length ≤ 1000000) (e1 : vS x = false) : Calls Try.prog 63 #[.agg #[.slice t.ax t.X.length t.cx, .slice t.ay t.Y.length t.cy, .slice t.av t.V.length t.cv], .agg #[.int .i64 x.1, .int .i64 x.2], .agg #[.int .i64 y.1, .int .i64 y.2]] w fun e w' => e = .returned (.bool false) ∧ Below w.heap.size w w' := by
  have H1 := Lib.hid (fun (W : World) => rvalS_any x W)
  rw [e1] at H1
  have X1 := Lib.hid (((BK.new (w := w) (cs := #[.slice t.ax t.X.length t.cx, .slice t.ay t.Y.length t.cy, .slice t.av t.V.length t.cv]) (T := 25)).old (x := .cells #[.int .i64 x.1, .int .i64 x.2] 34)).old (x := .cells #[.int .i64 y.1, .int .i64 y.2] 34))
  have X2 := Lib.hid ((BK.newg (w := w.alloc (.cells #[.slice t.ax t.X.length t.cx, .slice t.ay t.Y.length t.cy, .slice t.av t.V.length t.cv] 25)) (g := w.heap.size + 1) (cs := #[.int .i64 x.1, .int .i64 x.2]) (T := 34) (by simp)).old (x := .cells #[.int .i64 y.1, .int .i64 y.2] 34))
  have X3 := Lib.hid (BK.newg (w := (w.alloc (.cells #[.slice t.ax t.X.length t.cx, .slice t.ay t.Y.length t.cy, .slice t.av t.V.length t.cv] 25)).alloc (.cells #[.int .i64 x.1, .int .i64 x.2] 34)) (g := w.heap.size + 1 + 1) (cs := #[.int .i64 y.1, .int .i64 y.2]) (T := 34) (by simp))
  have HB := Lib.hid (show Below w.heap.size w (((w.alloc (.cells #[.slice t.ax t.X.length t.cx, .slice t.ay t.Y.length t.cy, .slice t.av t.V.length t.cv] 25)).alloc (.cells #[.int .i64 x.1, .int .i64 x.2] 34)).alloc (.cells #[.int .i64 y.1, .int .i64 y.2] 34)) by go_grown)
  clear _ht _hx _hy e1
  go_enter Try.func63, Try.ntmps63
  go_wp2_with (first
    | (go_at_call_of 43 (Value.agg #[.int .i64 x.1, .int .i64 x.2]); refine Calls.mono (H1.out _) ?_; rintro e w1 ⟨rfl, hb1⟩; have HB1 := Lib.hid (HB.out.trans (hb1.mono HB.out.size)); have K1 := X1.out.keep hb1; have K2 := X2.out.keep hb1; have K3 := X3.out.keep hb1; have c1 := K1.cell; have c2 := K2.cell; have c3 := K3.cell; have l3 := K3.lt; clear hb1))
  go_ret
  exact ⟨rfl, HB1.out⟩
theorem rlies_f2 (t : TV) (x y : Int × Int) (w : World) (_ht : TG w t) (_hx : 1 ≤ t.X.length ∧ t.X.length ≤ 1000000) (_hy : 1 ≤ t.Y.length ∧ t.Y.length ≤ 1000000) (e1 : vS x = true) (e2 : vS y = false) : Calls Try.prog 63 #[.agg #[.slice t.ax t.X.length t.cx, .slice t.ay t.Y.length t.cy, .slice t.av t.V.length t.cv], .agg #[.int .i64 x.1, .int .i64 x.2], .agg #[.int .i64 y.1, .int .i64 y.2]] w fun e w' => e = .returned (.bool false) ∧ Below w.heap.size w w' := by
  have H1 := Lib.hid (fun (W : World) => rvalS_any x W)
  rw [e1] at H1
  have H2 := Lib.hid (fun (W : World) => rvalS_any y W)
  rw [e2] at H2
  have X1 := Lib.hid (((BK.new (w := w) (cs := #[.slice t.ax t.X.length t.cx, .slice t.ay t.Y.length t.cy, .slice t.av t.V.length t.cv]) (T := 25)).old (x := .cells #[.int .i64 x.1, .int .i64 x.2] 34)).old (x := .cells #[.int .i64 y.1, .int .i64 y.2] 34))
  have X2 := Lib.hid ((BK.newg (w := w.alloc (.cells #[.slice t.ax t.X.length t.cx, .slice t.ay t.Y.length t.cy, .slice t.av t.V.length t.cv] 25)) (g := w.heap.size + 1) (cs := #[.int .i64 x.1, .int .i64 x.2]) (T := 34) (by simp)).old (x := .cells #[.int .i64 y.1, .int .i64 y.2] 34))
  have X3 := Lib.hid (BK.newg (w := (w.alloc (.cells #[.slice t.ax t.X.length t.cx, .slice t.ay t.Y.length t.cy, .slice t.av t.V.length t.cv] 25)).alloc (.cells #[.int .i64 x.1, .int .i64 x.2] 34)) (g := w.heap.size + 1 + 1) (cs := #[.int .i64 y.1, .int .i64 y.2]) (T := 34) (by simp))
  have HB := Lib.hid (show Below w.heap.size w (((w.alloc (.cells #[.slice t.ax t.X.length t.cx, .slice t.ay t.Y.length t.cy, .slice t.av t.V.length t.cv] 25)).alloc (.cells #[.int .i64 x.1, .int .i64 x.2] 34)).alloc (.cells #[.int .i64 y.1, .int .i64 y.2] 34)) by go_grown)
  clear _ht _hx _hy e1 e2
  go_enter Try.func63, Try.ntmps63
  go_wp2_with (first
    | (go_at_call_of 43 (Value.agg #[.int .i64 x.1, .int .i64 x.2]); refine Calls.mono (H1.out _) ?_; rintro e w1 ⟨rfl, hb1⟩; have HB1 := Lib.hid (HB.out.trans (hb1.mono HB.out.size)); have K1 := X1.out.keep hb1; have K2 := X2.out.keep hb1; have K3 := X3.out.keep hb1; have c1 := K1.cell; have c2 := K2.cell; have c3 := K3.cell; have l3 := K3.lt; clear hb1)
    | (go_at_call_of 43 (Value.agg #[.int .i64 y.1, .int .i64 y.2]); refine Calls.mono (H2.out _) ?_; rintro e w2 ⟨rfl, hb2⟩; have HB2 := Lib.hid (HB1.out.trans (hb2.mono HB1.out.size)); have K1 := K1.keep hb2; have K2 := K2.keep hb2; have K3 := K3.keep hb2; clear c1 c2 c3 l3; have c1 := K1.cell; have c2 := K2.cell; have c3 := K3.cell; have l3 := K3.lt; clear hb2))
  go_ret
  exact ⟨rfl, HB2.out⟩
theorem rlies_f3 (t : TV) (x y : Int × Int) (w : World) (ht : TG w t) (hx : 1 ≤ t.X.length ∧ t.X.length ≤ 1000000) (_hy : 1 ≤ t.Y.length ∧ t.Y.length ≤ 1000000) (e1 : vS x = true) (e2 : vS y = true) (e3 : osB t.X x = false) : Calls Try.prog 63 #[.agg #[.slice t.ax t.X.length t.cx, .slice t.ay t.Y.length t.cy, .slice t.av t.V.length t.cv], .agg #[.int .i64 x.1, .int .i64 x.2], .agg #[.int .i64 y.1, .int .i64 y.2]] w fun e w' => e = .returned (.bool false) ∧ Below w.heap.size w w' := by
  have H1 := Lib.hid (fun (W : World) => rvalS_any x W)
  rw [e1] at H1
  have H2 := Lib.hid (fun (W : World) => rvalS_any y W)
  rw [e2] at H2
  have H3 := Lib.hid (fun (W : World) (hW : Below w.heap.size w W) => between_any t.ax _ t.cx W.heap.size t.X x.1 x.2 W rfl hx.2 hx.1 (Nat.le_refl _) (ht.below hW).tb.x)
  rw [btB_osB e1, e3] at H3
  have X1 := Lib.hid (((BK.new (w := w) (cs := #[.slice t.ax t.X.length t.cx, .slice t.ay t.Y.length t.cy, .slice t.av t.V.length t.cv]) (T := 25)).old (x := .cells #[.int .i64 x.1, .int .i64 x.2] 34)).old (x := .cells #[.int .i64 y.1, .int .i64 y.2] 34))
  have X2 := Lib.hid ((BK.newg (w := w.alloc (.cells #[.slice t.ax t.X.length t.cx, .slice t.ay t.Y.length t.cy, .slice t.av t.V.length t.cv] 25)) (g := w.heap.size + 1) (cs := #[.int .i64 x.1, .int .i64 x.2]) (T := 34) (by simp)).old (x := .cells #[.int .i64 y.1, .int .i64 y.2] 34))
  have X3 := Lib.hid (BK.newg (w := (w.alloc (.cells #[.slice t.ax t.X.length t.cx, .slice t.ay t.Y.length t.cy, .slice t.av t.V.length t.cv] 25)).alloc (.cells #[.int .i64 x.1, .int .i64 x.2] 34)) (g := w.heap.size + 1 + 1) (cs := #[.int .i64 y.1, .int .i64 y.2]) (T := 34) (by simp))
  have HB := Lib.hid (show Below w.heap.size w (((w.alloc (.cells #[.slice t.ax t.X.length t.cx, .slice t.ay t.Y.length t.cy, .slice t.av t.V.length t.cv] 25)).alloc (.cells #[.int .i64 x.1, .int .i64 x.2] 34)).alloc (.cells #[.int .i64 y.1, .int .i64 y.2] 34)) by go_grown)
  clear ht hx _hy e1 e2 e3
  go_enter Try.func63, Try.ntmps63
  go_wp2_with (first
    | (go_at_call_of 43 (Value.agg #[.int .i64 x.1, .int .i64 x.2]); refine Calls.mono (H1.out _) ?_; rintro e w1 ⟨rfl, hb1⟩; have HB1 := Lib.hid (HB.out.trans (hb1.mono HB.out.size)); have K1 := X1.out.keep hb1; have K2 := X2.out.keep hb1; have K3 := X3.out.keep hb1; have c1 := K1.cell; have c2 := K2.cell; have c3 := K3.cell; have l3 := K3.lt; clear hb1)
    | (go_at_call_of 43 (Value.agg #[.int .i64 y.1, .int .i64 y.2]); refine Calls.mono (H2.out _) ?_; rintro e w2 ⟨rfl, hb2⟩; have HB2 := Lib.hid (HB1.out.trans (hb2.mono HB1.out.size)); have K1 := K1.keep hb2; have K2 := K2.keep hb2; have K3 := K3.keep hb2; clear c1 c2 c3 l3; have c1 := K1.cell; have c2 := K2.cell; have c3 := K3.cell; have l3 := K3.lt; clear hb2)
    | (go_at_call_of 99 (Value.slice t.ax t.X.length t.cx); refine Calls.mono (H3.out _ HB2.out) ?_; rintro e w3 ⟨rfl, hb3⟩; have HB3 := Lib.hid (HB2.out.trans (hb3.mono HB2.out.size)); have K1 := K1.keep hb3; have K2 := K2.keep hb3; have K3 := K3.keep hb3; clear c1 c2 c3 l3; have c1 := K1.cell; have c2 := K2.cell; have c3 := K3.cell; have l3 := K3.lt; clear hb3))
  go_ret
  exact ⟨rfl, HB3.out⟩
theorem rlies_ok (t : TV) (x y : Int × Int) (w : World) (ht : TG w t) (hx : 1 ≤ t.X.length ∧ t.X.length ≤ 1000000) (hy : 1 ≤ t.Y.length ∧ t.Y.length ≤ 1000000) (e1 : vS x = true) (e2 : vS y = true) (e3 : osB t.X x = true) : Calls Try.prog 63 #[.agg #[.slice t.ax t.X.length t.cx, .slice t.ay t.Y.length t.cy, .slice t.av t.V.length t.cv], .agg #[.int .i64 x.1, .int .i64 x.2], .agg #[.int .i64 y.1, .int .i64 y.2]] w fun e w' => e = .returned (.bool (osB t.Y y)) ∧ Below w.heap.size w w' := by
  have H1 := Lib.hid (fun (W : World) => rvalS_any x W)
  rw [e1] at H1
  have H2 := Lib.hid (fun (W : World) => rvalS_any y W)
  rw [e2] at H2
  have H3 := Lib.hid (fun (W : World) (hW : Below w.heap.size w W) => between_any t.ax _ t.cx W.heap.size t.X x.1 x.2 W rfl hx.2 hx.1 (Nat.le_refl _) (ht.below hW).tb.x)
  rw [btB_osB e1, e3] at H3
  have H4 := Lib.hid (fun (W : World) (hW : Below w.heap.size w W) => between_any t.ay _ t.cy W.heap.size t.Y y.1 y.2 W rfl hy.2 hy.1 (Nat.le_refl _) (ht.below hW).tb.y)
  rw [btB_osB e2] at H4
  generalize osB t.Y y = v at *
  have X1 := Lib.hid (((BK.new (w := w) (cs := #[.slice t.ax t.X.length t.cx, .slice t.ay t.Y.length t.cy, .slice t.av t.V.length t.cv]) (T := 25)).old (x := .cells #[.int .i64 x.1, .int .i64 x.2] 34)).old (x := .cells #[.int .i64 y.1, .int .i64 y.2] 34))
  have X2 := Lib.hid ((BK.newg (w := w.alloc (.cells #[.slice t.ax t.X.length t.cx, .slice t.ay t.Y.length t.cy, .slice t.av t.V.length t.cv] 25)) (g := w.heap.size + 1) (cs := #[.int .i64 x.1, .int .i64 x.2]) (T := 34) (by simp)).old (x := .cells #[.int .i64 y.1, .int .i64 y.2] 34))
  have X3 := Lib.hid (BK.newg (w := (w.alloc (.cells #[.slice t.ax t.X.length t.cx, .slice t.ay t.Y.length t.cy, .slice t.av t.V.length t.cv] 25)).alloc (.cells #[.int .i64 x.1, .int .i64 x.2] 34)) (g := w.heap.size + 1 + 1) (cs := #[.int .i64 y.1, .int .i64 y.2]) (T := 34) (by simp))
  have HB := Lib.hid (show Below w.heap.size w (((w.alloc (.cells #[.slice t.ax t.X.length t.cx, .slice t.ay t.Y.length t.cy, .slice t.av t.V.length t.cv] 25)).alloc (.cells #[.int .i64 x.1, .int .i64 x.2] 34)).alloc (.cells #[.int .i64 y.1, .int .i64 y.2] 34)) by go_grown)
  clear ht hx hy e1 e2 e3
  go_enter Try.func63, Try.ntmps63
  go_wp2_with (first
    | (go_at_call_of 43 (Value.agg #[.int .i64 x.1, .int .i64 x.2]); refine Calls.mono (H1.out _) ?_; rintro e w1 ⟨rfl, hb1⟩; have HB1 := Lib.hid (HB.out.trans (hb1.mono HB.out.size)); have K1 := X1.out.keep hb1; have K2 := X2.out.keep hb1; have K3 := X3.out.keep hb1; have c1 := K1.cell; have c2 := K2.cell; have c3 := K3.cell; have l3 := K3.lt; clear hb1)
    | (go_at_call_of 43 (Value.agg #[.int .i64 y.1, .int .i64 y.2]); refine Calls.mono (H2.out _) ?_; rintro e w2 ⟨rfl, hb2⟩; have HB2 := Lib.hid (HB1.out.trans (hb2.mono HB1.out.size)); have K1 := K1.keep hb2; have K2 := K2.keep hb2; have K3 := K3.keep hb2; clear c1 c2 c3 l3; have c1 := K1.cell; have c2 := K2.cell; have c3 := K3.cell; have l3 := K3.lt; clear hb2)
    | (go_at_call_of 99 (Value.slice t.ax t.X.length t.cx); refine Calls.mono (H3.out _ HB2.out) ?_; rintro e w3 ⟨rfl, hb3⟩; have HB3 := Lib.hid (HB2.out.trans (hb3.mono HB2.out.size)); have K1 := K1.keep hb3; have K2 := K2.keep hb3; have K3 := K3.keep hb3; clear c1 c2 c3 l3; have c1 := K1.cell; have c2 := K2.cell; have c3 := K3.cell; have l3 := K3.lt; clear hb3)
    | (go_at_call_of 99 (Value.slice t.ay t.Y.length t.cy); refine Calls.mono (H4.out _ HB3.out) ?_; rintro e w4 ⟨rfl, hb4⟩; have HB4 := Lib.hid (HB3.out.trans (hb4.mono HB3.out.size)); have K1 := K1.keep hb4; have K2 := K2.keep hb4; have K3 := K3.keep hb4; clear c1 c2 c3 l3; have c1 := K1.cell; have c2 := K2.cell; have c3 := K3.cell; have l3 := K3.lt; clear hb4))
  go_ret
  exact ⟨rfl, HB4.out⟩
theorem rlies_any (t : TV) (x y : Int × Int) (w : World) (ht : TG w t) (hct : ctB t.X t.Y t.V = true) : Calls Try.prog 63 #[.agg #[.slice t.ax t.X.length t.cx, .slice t.ay t.Y.length t.cy, .slice t.av t.V.length t.cv], .agg #[.int .i64 x.1, .int .i64 x.2], .agg #[.int .i64 y.1, .int .i64 y.2]] w fun e w' => e = .returned (.bool (lsB t x y)) ∧ Below w.heap.size w w' := by
  obtain ⟨q1, q2, q3, q4⟩ := ctB_len hct
  have hx : 1 ≤ t.X.length ∧ t.X.length ≤ 1000000 := ⟨by omega, by omega⟩
  have hy : 1 ≤ t.Y.length ∧ t.Y.length ≤ 1000000 := ⟨by omega, by omega⟩
  unfold lsB
  cases e1 : vS x with
  | false => simpa using rlies_f1 t x y w ht hx hy e1
  | true =>
  cases e2 : vS y with
  | false => simpa using rlies_f2 t x y w ht hx hy e1 e2
  | true =>
  cases e3 : osB t.X x with
  | false => simpa using rlies_f3 t x y w ht hx hy e1 e2 e3
  | true => simpa using rlies_ok t x y w ht hx hy e1 e2 e3
theorem rbnd_any (l : LO) (w : World) (ht : TG w l.t) (hc : cbE l.t.X l.t.Y l.t.V l.x.1 l.x.2 l.y.1 l.y.2 = 0) : Calls Try.prog 68 #[.agg #[.slice l.t.ax l.t.X.length l.t.cx, .slice l.t.ay l.t.Y.length l.t.cy, .slice l.t.av l.t.V.length l.t.cv], .agg #[.int .i64 l.x.1, .int .i64 l.x.2], .agg #[.int .i64 l.y.1, .int .i64 l.y.2]] w fun e w' => e = .returned (.agg #[.int .i64 l.bn.1, .int .i64 l.bn.2]) ∧ Below w.heap.size w w' := by
  have HC := Lib.hid (fun (W : World) (hW : Below w.heap.size w W) => show Calls Try.prog 111 #[.agg #[.slice l.t.ax l.t.X.length l.t.cx, .slice l.t.ay l.t.Y.length l.t.cy, .slice l.t.av l.t.V.length l.t.cv], .agg #[.int .i64 l.x.1, .int .i64 l.x.2], .agg #[.int .i64 l.y.1, .int .i64 l.y.2]] W fun e w' => e = .returned (.tuple #[.agg #[.int .i64 l.bn.1, .int .i64 l.bn.2], .int .i64 0]) ∧ Below W.heap.size W w' by
    have := rBound_any l.t.ax l.t.ay l.t.av l.t.X.length l.t.cx l.t.Y.length l.t.cy l.t.V.length l.t.cv W.heap.size l.t.X l.t.Y l.t.V l.x.1 l.x.2 l.y.1 l.y.2 W rfl rfl rfl ht.hx ht.hy ht.hv ht.hr (Nat.le_refl _) (ht.below hW).tb
    unfold bndS at this
    rw [if_pos hc] at this
    exact this)
  clear ht hc
  generalize l.bn = p at *
  have X4 := Lib.hid (BK.newg (w := ((w.alloc (.cells #[.slice l.t.ax l.t.X.length l.t.cx, .slice l.t.ay l.t.Y.length l.t.cy, .slice l.t.av l.t.V.length l.t.cv] 25)).alloc (.cells #[.int .i64 l.x.1, .int .i64 l.x.2] 34)).alloc (.cells #[.int .i64 l.y.1, .int .i64 l.y.2] 34)) (g := w.heap.size + 1 + 1 + 1) (cs := #[.int .i64 0, .int .i64 0]) (T := 34) (by simp))
  go_enter Try.func68, Try.ntmps68
  go_wp2_with (first
    | (go_at_call 111; refine Calls.mono (HC.out _ (by go_grown)) ?_; rintro e w1 ⟨rfl, hb1⟩; have K := Lib.hid (X4.out.keep hb1); have HB1 := Lib.hid (Below.trans (show Below w.heap.size w _ by go_grown) (hb1.mono (by simp <;> omega))); clear hb1)
    | ((with_reducible refine stS (CS := ?_) (K.out.old) ?_ ?_ ?_ ?_ ?_ ?_); rotate_left; rfl; rfl; rfl; rfl; simp [Value.oneCell']))
  go_simp
  refine bodyPost_ret (v := .agg #[.int .i64 p.1, .int .i64 p.2]) (resS Try.results68 (by rfl) (K.out.old).row (by rfl)) rfl ?_
  exact ⟨rfl, below_setRow (HB1.out.alloc HB1.out.size _) (by omega) _⟩
theorem rup_any (a b : Int) (w : World) (h1 : 1 ≤ b) (h2 : b ≤ 1000000) (h3 : 0 ≤ a) (h4 : a ≤ 1000000000000) : Calls Try.prog 102 #[.int .i64 a, .int .i64 b] w fun e w' => e = .returned (.int .i64 (cl a b)) ∧ w = w' := by
  have hd := tdiv_bd (a := a + b - 1) (b := b) (M := 2000000000000) (by omega) (by omega)
  have HE := Lib.hid (up_cl h3 h1)
  go_enter Try.func102, Try.ntmps102
  go_wp2
  go_ret
  exact ⟨ret_int HE.out, rfl⟩
end Go.Proofs.Ythhokiigdgpmcaa

/- law of RotorKept. -/
namespace Go.Proofs.Ythhokiigdgpmcaa
open Go.RowKit

set_option maxRecDepth 100000
section
variable {ops : Array Oper} {rest : List Oper} {a : Act} {w : World} {Q : Exit → Act → World → Prop} {g d s : Nat} {CS : Array Value} {T' : TypeId} {ty : TypeId} {pos : String} {after : Array Edge}
theorem ldRg {gj : Nat} {gb : Bool} (hw : yielded ops a.tmps gj = some gb) (K : BK w g CS T') (hs : CS.size = 26) (hx : a.eval (.tmp s) = .pointer (some ⟨g, 0, none⟩)) (h : wpList Try.prog ops Q rest (a.put (some d) (.agg CS)) w) :
    wpList Try.prog ops Q (⟨some d, .load 27 (.tmp s), ty, pos, after, some (gj, gb)⟩ :: rest) a w := by
  refine wpList_step fun K' hK => ?_
  rw [if_pos (by simp [Region.wanted, hw])]
  exact wp_load_row 27 (.tmp s) rfl g hx T' CS (0, 0) _ K Try.underlying27 rfl (by rw [hs]; exact szR) (hK _ _ h)
theorem ldAg {gj : Nat} {gb : Bool} (hw : yielded ops a.tmps gj = some gb) (K : BK w g CS T') (hs : CS.size = 8) (hx : a.eval (.tmp s) = .pointer (some ⟨g, 0, none⟩)) (h : wpList Try.prog ops Q rest (a.put (some d) (.agg CS)) w) :
    wpList Try.prog ops Q (⟨some d, .load 36 (.tmp s), ty, pos, after, some (gj, gb)⟩ :: rest) a w := by
  refine wpList_step fun K' hK => ?_
  rw [if_pos (by simp [Region.wanted, hw])]
  exact wp_load_row 36 (.tmp s) rfl g hx T' CS (0, 0) _ K Try.underlying36 rfl (by rw [hs]; exact szA) (hK _ _ h)
end
theorem redE_01 {r : RO} {a : AI} {L : List LO} {F : List (Int × Int)} (h : airE r a = 0) (hE : ¬ redE r a L F = 0) : redE r a L F = 1 := by
  unfold airE at h
  unfold redE at hE ⊢
  cases h1 : r.ok with
  | false => rw [h1] at h; simp at h
  | true =>
    cases h2 : a.ok with
    | false => rw [h1, h2] at h; simp at h
    | true =>
      rw [h1, h2] at hE
      cases h3 : F.all vS with
      | false => rfl
      | true =>
        rw [h3] at hE
        cases h4 : L.all LO.on with
        | false => rfl
        | true => rw [h4] at hE; exact absurd rfl hE
theorem vS_tt {s : Int × Int} (h : vS s = false) : (!vS s) = true := by rw [h]; rfl
set_option maxHeartbeats 16000000 in
theorem kept_good (wk : WK2) (w : World) (r : RO) (rg : RG w r) (a : AI) (n0 n1 n2 n3 n4 n5 n6 n7 n8 n9 n10 n11 : Int) (sp ab : Int × Int) (CS : Array Value) (hc : #[.slice r.h.ax r.h.X.length r.h.cx, .slice r.h.ay r.h.Y.length r.h.cy, .slice r.h.av r.h.V.length r.h.cv, .slice r.g.ax r.g.X.length r.g.cx, .slice r.g.ay r.g.Y.length r.g.cy, .slice r.g.av r.g.V.length r.g.cv, .slice r.l.ax r.l.X.length r.l.cx, .slice r.l.ay r.l.Y.length r.l.cy, .slice r.l.av r.l.V.length r.l.cv, .slice r.p.ax r.p.X.length r.p.cx, .slice r.p.ay r.p.Y.length r.p.cy, .slice r.p.av r.p.V.length r.p.cv, .slice r.n.ax r.n.X.length r.n.cx, .slice r.n.ay r.n.Y.length r.n.cy, .slice r.n.av r.n.V.length r.n.cv, .slice r.a.ax r.a.X.length r.a.cx, .slice r.a.ay r.a.Y.length r.a.cy, .slice r.a.av r.a.V.length r.a.cv, .slice r.b.ax r.b.X.length r.b.cx, .slice r.b.ay r.b.Y.length r.b.cy, .slice r.b.av r.b.V.length r.b.cv, .slice r.d.ax r.d.X.length r.d.cx, .slice r.d.ay r.d.Y.length r.d.cy, .slice r.d.av r.d.V.length r.d.cv, .int .i64 r.cl, .int .i64 r.bu] = CS) (hf : r.far = false) (hA : airE r a = 0) (hv : vS ab = true) (hE : redE r a [loH r a, loG r a ab, loP r a] [ab] = 0) : Calls Try.prog 12 #[.agg CS, .agg #[.int .i64 a.w.1, .int .i64 a.w.2, .int .i64 a.t.1, .int .i64 a.t.2, .int .i64 a.h.1, .int .i64 a.h.2, .int .i64 a.v.1, .int .i64 a.v.2], .agg #[.int .i64 n0, .int .i64 n1, .int .i64 n2, .int .i64 n3, .int .i64 n4, .int .i64 n5, .int .i64 n6, .int .i64 n7, .int .i64 n8, .int .i64 n9, .int .i64 n10, .int .i64 n11, .int .i64 sp.1, .int .i64 sp.2, .int .i64 ab.1, .int .i64 ab.2]] w fun e w' => e = .returned (.bool true) ∧ Below w.heap.size w w' := by
  have HFA := Lib.hid (fun (W : World) (hW : Below w.heap.size w W) => show Calls Try.prog 14 #[.agg CS] W fun e w' => e = .returned (.bool false) ∧ Below W.heap.size W w' by rw [← hf, ← hc]; exact rfar_any r W (rg.below hW))
  have HCA := Lib.hid (fun (W : World) (hW : Below w.heap.size w W) => show Calls Try.prog 42 #[.agg CS, .agg #[.int .i64 a.w.1, .int .i64 a.w.2, .int .i64 a.t.1, .int .i64 a.t.2, .int .i64 a.h.1, .int .i64 a.h.2, .int .i64 a.v.1, .int .i64 a.v.2]] W fun e w' => e = .returned (.int .i64 0) ∧ Below W.heap.size W w' by rw [← hA]; exact checkAir_any r a CS W (rg.below hW) hc.symm)
  have HVS := Lib.hid (fun (W : World) => show Calls Try.prog 43 #[.agg #[.int .i64 ab.1, .int .i64 ab.2]] W fun e w' => e = .returned (.bool true) ∧ Below W.heap.size W w' by rw [← hv]; exact rvalS_any ab W)
  have HSZ := Lib.hid (show CS.size = 26 by rw [← hc]; rfl)
  have HO := Lib.hid (fun (W : World) (hW : Below w.heap.size w W) => own_any r W (rg.below hW) (RO.small_of hf) CS hc.symm)
  have X1 := Lib.hid (((BK.newg (w := w) (g := w.heap.size) (cs := CS) (T := 27) rfl).old (x := .cells #[.int .i64 a.w.1, .int .i64 a.w.2, .int .i64 a.t.1, .int .i64 a.t.2, .int .i64 a.h.1, .int .i64 a.h.2, .int .i64 a.v.1, .int .i64 a.v.2] 36)).old (x := .cells #[.int .i64 n0, .int .i64 n1, .int .i64 n2, .int .i64 n3, .int .i64 n4, .int .i64 n5, .int .i64 n6, .int .i64 n7, .int .i64 n8, .int .i64 n9, .int .i64 n10, .int .i64 n11, .int .i64 sp.1, .int .i64 sp.2, .int .i64 ab.1, .int .i64 ab.2] 67))
  have X2 := Lib.hid ((BK.newg (w := (w.alloc (.cells CS 27))) (g := w.heap.size + 1) (cs := #[.int .i64 a.w.1, .int .i64 a.w.2, .int .i64 a.t.1, .int .i64 a.t.2, .int .i64 a.h.1, .int .i64 a.h.2, .int .i64 a.v.1, .int .i64 a.v.2]) (T := 36) (by simp)).old (x := .cells #[.int .i64 n0, .int .i64 n1, .int .i64 n2, .int .i64 n3, .int .i64 n4, .int .i64 n5, .int .i64 n6, .int .i64 n7, .int .i64 n8, .int .i64 n9, .int .i64 n10, .int .i64 n11, .int .i64 sp.1, .int .i64 sp.2, .int .i64 ab.1, .int .i64 ab.2] 67))
  have X3 := Lib.hid (BK.newg (w := ((w.alloc (.cells CS 27)).alloc (.cells #[.int .i64 a.w.1, .int .i64 a.w.2, .int .i64 a.t.1, .int .i64 a.t.2, .int .i64 a.h.1, .int .i64 a.h.2, .int .i64 a.v.1, .int .i64 a.v.2] 36))) (g := w.heap.size + 1 + 1) (cs := #[.int .i64 n0, .int .i64 n1, .int .i64 n2, .int .i64 n3, .int .i64 n4, .int .i64 n5, .int .i64 n6, .int .i64 n7, .int .i64 n8, .int .i64 n9, .int .i64 n10, .int .i64 n11, .int .i64 sp.1, .int .i64 sp.2, .int .i64 ab.1, .int .i64 ab.2]) (T := 67) (by simp))
  have HB := Lib.hid (show Below w.heap.size w (((w.alloc (.cells CS 27)).alloc (.cells #[.int .i64 a.w.1, .int .i64 a.w.2, .int .i64 a.t.1, .int .i64 a.t.2, .int .i64 a.h.1, .int .i64 a.h.2, .int .i64 a.v.1, .int .i64 a.v.2] 36)).alloc (.cells #[.int .i64 n0, .int .i64 n1, .int .i64 n2, .int .i64 n3, .int .i64 n4, .int .i64 n5, .int .i64 n6, .int .i64 n7, .int .i64 n8, .int .i64 n9, .int .i64 n10, .int .i64 n11, .int .i64 sp.1, .int .i64 sp.2, .int .i64 ab.1, .int .i64 ab.2] 67)) by go_grown)
  have HW := Lib.hid wk
  have hm := mrg_of hE
  have HMG := Lib.hid (show mgS r a ab = (mgN r a ab, 0) by unfold mgS; rw [if_pos hE])
  have HM0 := Lib.hid hm
  clear rg hc hf hA hE hm
  go_enter Try.func12, Try.ntmps12
  go_upto_region 1 with fail
  generalize (((w.alloc (.cells CS 27)).alloc (.cells #[.int .i64 a.w.1, .int .i64 a.w.2, .int .i64 a.t.1, .int .i64 a.t.2, .int .i64 a.h.1, .int .i64 a.h.2, .int .i64 a.v.1, .int .i64 a.v.2] 36)).alloc (.cells #[.int .i64 n0, .int .i64 n1, .int .i64 n2, .int .i64 n3, .int .i64 n4, .int .i64 n5, .int .i64 n6, .int .i64 n7, .int .i64 n8, .int .i64 n9, .int .i64 n10, .int .i64 n11, .int .i64 sp.1, .int .i64 sp.2, .int .i64 ab.1, .int .i64 ab.2] 67)) = V1 at *
  go_upto_region 4 with (first
    | ((with_reducible refine ldR X1.out HSZ.out ?_ ?_); rfl) | ((with_reducible refine ldRg ?_ X1.out HSZ.out ?_ ?_); rfl; rfl) | ((with_reducible refine ldAg ?_ X2.out ?_ ?_ ?_); rfl; rfl; rfl)
    | (go_at_call 14; refine Calls.mono (HFA.out _ HB.out) ?_; rintro e w1 ⟨rfl, hb1⟩; have HB1 := Lib.hid (HB.out.trans (hb1.mono HB.out.size)); have X1 := Lib.hid (X1.out.keep hb1); have X2 := Lib.hid (X2.out.keep hb1); have X3 := Lib.hid (X3.out.keep hb1); clear hb1 HB)
    | (go_at_call 42; refine Calls.mono (HCA.out _ HB1.out) ?_; rintro e w2 ⟨rfl, hb2⟩; have HB2 := Lib.hid (HB1.out.trans (hb2.mono HB1.out.size)); have X1 := Lib.hid (X1.out.keep hb2); have X2 := Lib.hid (X2.out.keep hb2); have X3 := Lib.hid (X3.out.keep hb2); have c3 := X3.out.cell; have l3 := X3.out.lt; clear hb2 HB1)
    | (go_at_call 43; refine Calls.mono (HVS.out _) ?_; rintro e w3 ⟨rfl, hb3⟩; have HB3 := Lib.hid (HB2.out.trans (hb3.mono HB2.out.size)); clear c3 l3; have X1 := Lib.hid (X1.out.keep hb3); have X2 := Lib.hid (X2.out.keep hb3); have X3 := Lib.hid (X3.out.keep hb3); clear hb3 HB2)
    | (go_at_call 17; refine Calls.mono (HO.out _ HB3.out) ?_; rintro e w4 ⟨q, rfl, hs, hg, hb4⟩; (obtain ⟨QS, hq⟩ : ∃ QS : Array Value, #[.slice q.h.ax q.h.X.length q.h.cx, .slice q.h.ay q.h.Y.length q.h.cy, .slice q.h.av q.h.V.length q.h.cv, .slice q.g.ax q.g.X.length q.g.cx, .slice q.g.ay q.g.Y.length q.g.cy, .slice q.g.av q.g.V.length q.g.cv, .slice q.l.ax q.l.X.length q.l.cx, .slice q.l.ay q.l.Y.length q.l.cy, .slice q.l.av q.l.V.length q.l.cv, .slice q.p.ax q.p.X.length q.p.cx, .slice q.p.ay q.p.Y.length q.p.cy, .slice q.p.av q.p.V.length q.p.cv, .slice q.n.ax q.n.X.length q.n.cx, .slice q.n.ay q.n.Y.length q.n.cy, .slice q.n.av q.n.V.length q.n.cv, .slice q.a.ax q.a.X.length q.a.cx, .slice q.a.ay q.a.Y.length q.a.cy, .slice q.a.av q.a.V.length q.a.cv, .slice q.b.ax q.b.X.length q.b.cx, .slice q.b.ay q.b.Y.length q.b.cy, .slice q.b.av q.b.V.length q.b.cv, .slice q.d.ax q.d.X.length q.d.cx, .slice q.d.ay q.d.Y.length q.d.cy, .slice q.d.av q.d.V.length q.d.cv, .int .i64 q.cl, .int .i64 q.bu] = QS := ⟨_, rfl⟩); rw [hq]; have HB4 := Lib.hid (HB3.out.trans (hb4.mono HB3.out.size)); have X1 := Lib.hid (X1.out.keep hb4); have X2 := Lib.hid (X2.out.keep hb4); have X3 := Lib.hid (X3.out.keep hb4); have HS := Lib.hid hs; have HG := Lib.hid hg.now; have HQ := Lib.hid hq.symm; have HQZ := Lib.hid (show QS.size = 26 by rw [← hq]; rfl); have HQO := Lib.hid (show QS.all (·.oneCell') = true by rw [← hq]; simp [Value.oneCell']); have XQ := Lib.hid (BK.newg (w := w4) (g := w4.heap.size) (cs := #[.slice none 0 0, .slice none 0 0, .slice none 0 0, .slice none 0 0, .slice none 0 0, .slice none 0 0, .slice none 0 0, .slice none 0 0, .slice none 0 0, .slice none 0 0, .slice none 0 0, .slice none 0 0, .slice none 0 0, .slice none 0 0, .slice none 0 0, .slice none 0 0, .slice none 0 0, .slice none 0 0, .slice none 0 0, .slice none 0 0, .slice none 0 0, .slice none 0 0, .slice none 0 0, .slice none 0 0, .int .i64 0, .int .i64 0]) (T := 27) rfl); clear hs hg hq hb4)
    | ((with_reducible refine stR XQ.out ?_ ?_ ?_ HQZ.out HQO.out ?_); rfl; rfl; rfl))
  obtain ⟨V3, hV3⟩ : ∃ W, (w4.alloc (.cells #[.slice none 0 0, .slice none 0 0, .slice none 0 0, .slice none 0 0, .slice none 0 0, .slice none 0 0, .slice none 0 0, .slice none 0 0, .slice none 0 0, .slice none 0 0, .slice none 0 0, .slice none 0 0, .slice none 0 0, .slice none 0 0, .slice none 0 0, .slice none 0 0, .slice none 0 0, .slice none 0 0, .slice none 0 0, .slice none 0 0, .slice none 0 0, .slice none 0 0, .slice none 0 0, .slice none 0 0, .int .i64 0, .int .i64 0] 27)).setRow w4.heap.size QS = W := ⟨_, rfl⟩
  rw [hV3]
  have hb3 : Below w4.heap.size w4 V3 := by rw [← hV3]; exact below_setRow ((Below.refl _ _).alloc (Nat.le_refl _) _) (Nat.le_refl _) _
  have XQ := Lib.hid (show BK V3 w4.heap.size QS 27 by rw [← hV3]; exact XQ.out.row)
  have X2 := Lib.hid (X2.out.keep hb3)
  have X3 := Lib.hid (X3.out.keep hb3)
  have HB5 := Lib.hid (HB4.out.trans (hb3.mono HB4.out.size))
  have HRQ := Lib.hid (HG.out.below hb3)
  clear hb3 hV3 HG HB3 HB4 HQO HO HFA HCA HVS X1
  generalize w4.heap.size = gq at *
  obtain ⟨m, hm⟩ : ∃ m, mgN r a ab = m := ⟨_, rfl⟩
  have HM := Lib.hid (fun (W : World) (hq : RG W q) => show Calls Try.prog 23 #[.agg QS, .agg #[.int .i64 a.w.1, .int .i64 a.w.2, .int .i64 a.t.1, .int .i64 a.t.2, .int .i64 a.h.1, .int .i64 a.h.2, .int .i64 a.v.1, .int .i64 a.v.2], .agg #[.int .i64 ab.1, .int .i64 ab.2]] W fun e w' => e = .returned (.tuple #[.int .i64 m, .int .i64 0]) ∧ Below W.heap.size W w' by
    have := margin_any q a QS ab W hq HQ.out
    rw [same_mgS HS.out, HMG.out, hm] at this
    exact this)
  obtain ⟨k1, k2, k3, k4⟩ := AI.ok_get HM0.out.ao
  obtain ⟨x0, y0, i0, hp0⟩ := pick_fix a.w n0 n0 k1
  have HP0 := Lib.hid hp0
  obtain ⟨x1, y1, i1, hp1⟩ := pick_fix a.t n1 n1 k2
  have HP1 := Lib.hid hp1
  obtain ⟨x2, y2, i2, hp2⟩ := pick_fix a.h n2 n2 k3
  have HP2 := Lib.hid hp2
  obtain ⟨x3, y3, i3, hp3⟩ := pick_fix a.v n3 n3 k4
  have HP3 := Lib.hid hp3
  obtain ⟨x4, y4, i4, hp4⟩ := pick_fix ab n4 n4 hv
  have HP4 := Lib.hid hp4
  obtain ⟨Lp, Hp, p1, p2, p3, hap⟩ := at_look (x := x1) (y := x2) HM0.out.p HS.out.p i1.1 (Int.le_trans i1.2.1 i1.2.2) i2.1 (Int.le_trans i2.2.1 i2.2.2)
  obtain ⟨Lh, Hh, h1, h2, h3, hah⟩ := at_look (x := x0) (y := x1) HM0.out.h HS.out.h i0.1 (Int.le_trans i0.2.1 i0.2.2) i1.1 (Int.le_trans i1.2.1 i1.2.2)
  obtain ⟨Lg, Hg, g1, g2, g3, hag⟩ := at_look (x := x4) (y := x3) HM0.out.g HS.out.g i4.1 (Int.le_trans i4.2.1 i4.2.2) i3.1 (Int.le_trans i3.2.1 i3.2.2)
  have HAP := Lib.hid hap
  have HAH := Lib.hid hah
  have HAG := Lib.hid hag
  have b1 := HM0.out.p.bd (by omega) (by omega)
  have b2 := HM0.out.h.bd (by omega) (by omega)
  have b3 := HM0.out.g.bd (by omega) (by omega)
  have hfin := kept_num (m := m) (p := Hh) (q := Hg) (l := Lp) hm.symm p1 h3 g3 (by omega) (by omega)
  have hpr := mul_mono (a := Hh) (b := Hg) (c := 100000) (d := 100) (by omega) (by omega) (by omega) (by omega)
  have hpr0 := mul_mono (a := 0) (b := 0) (c := Hh) (d := Hg) (by omega) (by omega) (by omega) (by omega)
  have hmb := nd_bd HM0.out.hov
  have hmb2 : m = (loP r a).bn.1 - (ndN r a ab).2 := hm.symm
  have e1 : IntKind.i64.wrap (Lp * 100) = Lp * 100 := IntWalk.i64_in _ (by omega)
  have e2 : IntKind.i64.wrap (Hh * Hg) = Hh * Hg := IntWalk.i64_in _ (by omega)
  have e3 : IntKind.i64.wrap (m * 100) = m * 100 := IntWalk.i64_in _ (by omega)
  have e4 : IntKind.i64.wrap (Hh * Hg + m * 100) = Hh * Hg + m * 100 := IntWalk.i64_in _ (by omega)
  have e5 : decide (Hh * Hg + m * 100 ≤ Lp * 100) = true := decide_eq_true hfin
  have HN := Lib.hid (And.intro e1 (And.intro e2 (And.intro e3 (And.intro e4 e5))))
  clear e1 e2 e3 e4 e5 hmb2 hmb hpr hpr0 hfin b1 b2 b3 p1 p2 p3 h1 h2 h3 g1 g2 g3 hap hah hag i0 i1 i2 i3 i4 hp0 hp1 hp2 hp3 hp4 k1 k2 k3 k4 hm hv HM0 HMG
  have c3 := X3.out.cell
  have l3 := X3.out.lt
  go_upto_region 7 with (first
    | ((with_reducible refine ldR XQ.out HQZ.out ?_ ?_); rfl)
    | ((with_reducible refine ldA X2.out ?_ ?_ ?_); rfl; rfl)
    | (go_at_call 23; refine Calls.mono (HM.out _ HRQ.out) ?_; rintro e w6 ⟨rfl, hb6⟩; have HB6 := Lib.hid (HB5.out.trans (hb6.mono HB5.out.size)); have X2 := Lib.hid (X2.out.keep hb6); have X3 := Lib.hid (X3.out.keep hb6); have XQ := Lib.hid (XQ.out.keep hb6); have HRQ := Lib.hid (HRQ.out.below hb6); clear hb6 c3 l3 HM HB5))
  have a0 : w6.cell? ⟨w.heap.size + 1, 0, none⟩ = some (.int .i64 a.w.1) := X2.out.cell 0
  have a1 : w6.cell? ⟨w.heap.size + 1, 1, none⟩ = some (.int .i64 a.w.2) := X2.out.cell 1
  have a2 : w6.cell? ⟨w.heap.size + 1, 2, none⟩ = some (.int .i64 a.t.1) := X2.out.cell 2
  have a3 : w6.cell? ⟨w.heap.size + 1, 3, none⟩ = some (.int .i64 a.t.2) := X2.out.cell 3
  have a4 : w6.cell? ⟨w.heap.size + 1, 4, none⟩ = some (.int .i64 a.h.1) := X2.out.cell 4
  have a5 : w6.cell? ⟨w.heap.size + 1, 5, none⟩ = some (.int .i64 a.h.2) := X2.out.cell 5
  have a6 : w6.cell? ⟨w.heap.size + 1, 6, none⟩ = some (.int .i64 a.v.1) := X2.out.cell 6
  have a7 : w6.cell? ⟨w.heap.size + 1, 7, none⟩ = some (.int .i64 a.v.2) := X2.out.cell 7
  have n0f : w6.cell? ⟨w.heap.size + 1 + 1, 0, none⟩ = some (.int .i64 n0) := X3.out.cell 0
  have n1f : w6.cell? ⟨w.heap.size + 1 + 1, 1, none⟩ = some (.int .i64 n1) := X3.out.cell 1
  have n2f : w6.cell? ⟨w.heap.size + 1 + 1, 2, none⟩ = some (.int .i64 n2) := X3.out.cell 2
  have n3f : w6.cell? ⟨w.heap.size + 1 + 1, 3, none⟩ = some (.int .i64 n3) := X3.out.cell 3
  have n4f : w6.cell? ⟨w.heap.size + 1 + 1, 4, none⟩ = some (.int .i64 n4) := X3.out.cell 4
  have n5f : w6.cell? ⟨w.heap.size + 1 + 1, 5, none⟩ = some (.int .i64 n5) := X3.out.cell 5
  have n6f : w6.cell? ⟨w.heap.size + 1 + 1, 6, none⟩ = some (.int .i64 n6) := X3.out.cell 6
  have n7f : w6.cell? ⟨w.heap.size + 1 + 1, 7, none⟩ = some (.int .i64 n7) := X3.out.cell 7
  have n8f : w6.cell? ⟨w.heap.size + 1 + 1, 8, none⟩ = some (.int .i64 n8) := X3.out.cell 8
  have n9f : w6.cell? ⟨w.heap.size + 1 + 1, 9, none⟩ = some (.int .i64 n9) := X3.out.cell 9
  have n10f : w6.cell? ⟨w.heap.size + 1 + 1, 10, none⟩ = some (.int .i64 n10) := X3.out.cell 10
  have n11f : w6.cell? ⟨w.heap.size + 1 + 1, 11, none⟩ = some (.int .i64 n11) := X3.out.cell 11
  have sp0 : w6.cell? ⟨w.heap.size + 1 + 1, 12, none⟩ = some (.int .i64 sp.1) := X3.out.cell 12
  have sp1 : w6.cell? ⟨w.heap.size + 1 + 1, 13, none⟩ = some (.int .i64 sp.2) := X3.out.cell 13
  have ab0 : w6.cell? ⟨w.heap.size + 1 + 1, 14, none⟩ = some (.int .i64 ab.1) := X3.out.cell 14
  have ab1 : w6.cell? ⟨w.heap.size + 1 + 1, 15, none⟩ = some (.int .i64 ab.2) := X3.out.cell 15
  obtain ⟨Qa, hQa⟩ : ∃ q9 : Nat → Value → World → Prop, q9 = QG [some (.pointer (some ⟨w.heap.size + 1, 0, none⟩)), some (.agg #[.int .i64 a.w.1, .int .i64 a.w.2]), some (.pointer (some ⟨w.heap.size + 1 + 1, 0, none⟩)), some (.pointer (some ⟨w.heap.size + 1 + 1, 0, none⟩)), some (.int .i64 n0), some (.pointer (some ⟨w.heap.size + 1 + 1, 0, none⟩)), some (.pointer (some ⟨w.heap.size + 1 + 1, 0, none⟩)), some (.int .i64 n0), some (.agg #[.int .i64 x0, .int .i64 y0]), some (.int .i64 x0), some (.pointer (some ⟨w.heap.size + 1, 2, none⟩)), some (.agg #[.int .i64 a.t.1, .int .i64 a.t.2]), some (.pointer (some ⟨w.heap.size + 1 + 1, 0, none⟩)), some (.pointer (some ⟨w.heap.size + 1 + 1, 1, none⟩)), some (.int .i64 n1), some (.pointer (some ⟨w.heap.size + 1 + 1, 0, none⟩)), some (.pointer (some ⟨w.heap.size + 1 + 1, 1, none⟩)), some (.int .i64 n1), some (.agg #[.int .i64 x1, .int .i64 y1]), some (.int .i64 x1), some (.pointer (some ⟨w.heap.size + 1, 4, none⟩)), some (.agg #[.int .i64 a.h.1, .int .i64 a.h.2]), some (.pointer (some ⟨w.heap.size + 1 + 1, 0, none⟩)), some (.pointer (some ⟨w.heap.size + 1 + 1, 2, none⟩)), some (.int .i64 n2), some (.pointer (some ⟨w.heap.size + 1 + 1, 0, none⟩)), some (.pointer (some ⟨w.heap.size + 1 + 1, 2, none⟩)), some (.int .i64 n2), some (.agg #[.int .i64 x2, .int .i64 y2]), some (.int .i64 x2), some (.int .i64 x0), some (.int .i64 x1), some (.int .i64 x2)] (fun _ _ _ => True) := ⟨_, rfl⟩
  have hst : Stays Qa := by rw [hQa]; exact QG.stays (fun _ _ _ _ _ _ => trivial)
  have HQa := Lib.hid hQa
  clear hQa
  refine wpIn_wide.1 (region_inv2 (n := 9) (by kernel_rfl) (RQ Qa w6) (by kernel_rfl) rfl (RQ.start _ _ _) ?hstepa ?henda)
  case hstepa =>
    intro i' o ho val L b' y7 hF hR hpre hl
    match i', ho with
    | 0, ho =>
      simp at ho; subst ho; refine step_plain rfl ?_; have e4 := hF.was 4 (by kernel_rfl) rfl; have hgoal := hR.go hst HQa 0 rfl; clear hF hpre hl hR; go_simp; exact ⟨_, rfl, hgoal _ _ (Below.refl _ _) rfl⟩
    | 1, ho =>
      simp at ho; subst ho; refine step_plain rfl ?_; have e53 := hF.gv hR.2 HQa 0 rfl (hpre ⟨0, .data⟩ (by simp) rfl) rfl; have hgoal := hR.go hst HQa 1 rfl; have q0 := cell_keep hR.1 a0; have q1 := cell_keep hR.1 a1; clear hF hpre hl hR; go_simp; exact ⟨_, rfl, hgoal _ _ (Below.refl _ _) rfl⟩
    | 2, ho =>
      simp at ho; subst ho; refine step_plain rfl ?_; have e5 := hF.was 5 (by kernel_rfl) rfl; have hgoal := hR.go hst HQa 2 rfl; clear hF hpre hl hR; go_simp; exact ⟨_, rfl, hgoal _ _ (Below.refl _ _) rfl⟩
    | 3, ho =>
      simp at ho; subst ho; refine step_plain rfl ?_; have e55 := hF.gv hR.2 HQa 2 rfl (hpre ⟨2, .data⟩ (by simp) rfl) rfl; have hgoal := hR.go hst HQa 3 rfl; clear hF hpre hl hR; go_simp; exact ⟨_, rfl, hgoal _ _ (Below.refl _ _) rfl⟩
    | 4, ho =>
      simp at ho; subst ho; refine step_plain rfl ?_; have e56 := hF.gv hR.2 HQa 3 rfl (hpre ⟨3, .data⟩ (by simp) rfl) rfl; have hgoal := hR.go hst HQa 4 rfl; have q0 := cell_keep hR.1 n0f; clear hF hpre hl hR; go_simp; exact ⟨_, rfl, hgoal _ _ (Below.refl _ _) rfl⟩
    | 5, ho =>
      simp at ho; subst ho; refine step_plain rfl ?_; have e5 := hF.was 5 (by kernel_rfl) rfl; have hgoal := hR.go hst HQa 5 rfl; clear hF hpre hl hR; go_simp; exact ⟨_, rfl, hgoal _ _ (Below.refl _ _) rfl⟩
    | 6, ho =>
      simp at ho; subst ho; refine step_plain rfl ?_; have e58 := hF.gv hR.2 HQa 5 rfl (hpre ⟨5, .data⟩ (by simp) rfl) rfl; have hgoal := hR.go hst HQa 6 rfl; clear hF hpre hl hR; go_simp; exact ⟨_, rfl, hgoal _ _ (Below.refl _ _) rfl⟩
    | 7, ho =>
      simp at ho; subst ho; refine step_plain rfl ?_; have e59 := hF.gv hR.2 HQa 6 rfl (hpre ⟨6, .data⟩ (by simp) rfl) rfl; have hgoal := hR.go hst HQa 7 rfl; have q0 := cell_keep hR.1 n0f; clear hF hpre hl hR; go_simp; exact ⟨_, rfl, hgoal _ _ (Below.refl _ _) rfl⟩
    | 8, ho =>
      simp at ho; subst ho; refine step_plain rfl ?_; have e54 := hF.gv hR.2 HQa 1 rfl (hpre ⟨1, .data⟩ (by simp) rfl) rfl; have e57 := hF.gv hR.2 HQa 4 rfl (hpre ⟨4, .data⟩ (by simp) rfl) rfl; have e60 := hF.gv hR.2 HQa 7 rfl (hpre ⟨7, .data⟩ (by simp) rfl) rfl; have hgoal := hR.go hst HQa 8 rfl
      have hM := Lib.hid hR.1
      clear hF hpre hl hR; go_simp
      refine ⟨trivial, ?_⟩
      refine CallsIn.mono (callsIn_wide.2 (HP0.out _)) ?_
      rintro e w9 ⟨rfl, hb9⟩
      exact ⟨_, rfl, hgoal _ _ hb9 rfl⟩
    | 9, ho =>
      simp at ho; subst ho; refine step_plain rfl ?_; have e61 := hF.gv hR.2 HQa 8 rfl (hpre ⟨8, .data⟩ (by simp) rfl) rfl; have hgoal := hR.go hst HQa 9 rfl; clear hF hpre hl hR; go_simp; exact ⟨_, rfl, hgoal _ _ (Below.refl _ _) rfl⟩
    | 10, ho =>
      simp at ho; subst ho; refine step_plain rfl ?_; have e4 := hF.was 4 (by kernel_rfl) rfl; have hgoal := hR.go hst HQa 10 rfl; clear hF hpre hl hR; go_simp; exact ⟨_, rfl, hgoal _ _ (Below.refl _ _) rfl⟩
    | 11, ho =>
      simp at ho; subst ho; refine step_plain rfl ?_; have e63 := hF.gv hR.2 HQa 10 rfl (hpre ⟨10, .data⟩ (by simp) rfl) rfl; have hgoal := hR.go hst HQa 11 rfl; have q0 := cell_keep hR.1 a2; have q1 := cell_keep hR.1 a3; clear hF hpre hl hR; go_simp; exact ⟨_, rfl, hgoal _ _ (Below.refl _ _) rfl⟩
    | 12, ho =>
      simp at ho; subst ho; refine step_plain rfl ?_; have e5 := hF.was 5 (by kernel_rfl) rfl; have hgoal := hR.go hst HQa 12 rfl; clear hF hpre hl hR; go_simp; exact ⟨_, rfl, hgoal _ _ (Below.refl _ _) rfl⟩
    | 13, ho =>
      simp at ho; subst ho; refine step_plain rfl ?_; have e65 := hF.gv hR.2 HQa 12 rfl (hpre ⟨12, .data⟩ (by simp) rfl) rfl; have hgoal := hR.go hst HQa 13 rfl; clear hF hpre hl hR; go_simp; exact ⟨_, rfl, hgoal _ _ (Below.refl _ _) rfl⟩
    | 14, ho =>
      simp at ho; subst ho; refine step_plain rfl ?_; have e66 := hF.gv hR.2 HQa 13 rfl (hpre ⟨13, .data⟩ (by simp) rfl) rfl; have hgoal := hR.go hst HQa 14 rfl; have q0 := cell_keep hR.1 n1f; clear hF hpre hl hR; go_simp; exact ⟨_, rfl, hgoal _ _ (Below.refl _ _) rfl⟩
    | 15, ho =>
      simp at ho; subst ho; refine step_plain rfl ?_; have e5 := hF.was 5 (by kernel_rfl) rfl; have hgoal := hR.go hst HQa 15 rfl; clear hF hpre hl hR; go_simp; exact ⟨_, rfl, hgoal _ _ (Below.refl _ _) rfl⟩
    | 16, ho =>
      simp at ho; subst ho; refine step_plain rfl ?_; have e68 := hF.gv hR.2 HQa 15 rfl (hpre ⟨15, .data⟩ (by simp) rfl) rfl; have hgoal := hR.go hst HQa 16 rfl; clear hF hpre hl hR; go_simp; exact ⟨_, rfl, hgoal _ _ (Below.refl _ _) rfl⟩
    | 17, ho =>
      simp at ho; subst ho; refine step_plain rfl ?_; have e69 := hF.gv hR.2 HQa 16 rfl (hpre ⟨16, .data⟩ (by simp) rfl) rfl; have hgoal := hR.go hst HQa 17 rfl; have q0 := cell_keep hR.1 n1f; clear hF hpre hl hR; go_simp; exact ⟨_, rfl, hgoal _ _ (Below.refl _ _) rfl⟩
    | 18, ho =>
      simp at ho; subst ho; refine step_plain rfl ?_; have e64 := hF.gv hR.2 HQa 11 rfl (hpre ⟨11, .data⟩ (by simp) rfl) rfl; have e67 := hF.gv hR.2 HQa 14 rfl (hpre ⟨14, .data⟩ (by simp) rfl) rfl; have e70 := hF.gv hR.2 HQa 17 rfl (hpre ⟨17, .data⟩ (by simp) rfl) rfl; have hgoal := hR.go hst HQa 18 rfl
      have hM := Lib.hid hR.1
      clear hF hpre hl hR; go_simp
      refine ⟨trivial, ?_⟩
      refine CallsIn.mono (callsIn_wide.2 (HP1.out _)) ?_
      rintro e w9 ⟨rfl, hb9⟩
      exact ⟨_, rfl, hgoal _ _ hb9 rfl⟩
    | 19, ho =>
      simp at ho; subst ho; refine step_plain rfl ?_; have e71 := hF.gv hR.2 HQa 18 rfl (hpre ⟨18, .data⟩ (by simp) rfl) rfl; have hgoal := hR.go hst HQa 19 rfl; clear hF hpre hl hR; go_simp; exact ⟨_, rfl, hgoal _ _ (Below.refl _ _) rfl⟩
    | 20, ho =>
      simp at ho; subst ho; refine step_plain rfl ?_; have e4 := hF.was 4 (by kernel_rfl) rfl; have hgoal := hR.go hst HQa 20 rfl; clear hF hpre hl hR; go_simp; exact ⟨_, rfl, hgoal _ _ (Below.refl _ _) rfl⟩
    | 21, ho =>
      simp at ho; subst ho; refine step_plain rfl ?_; have e73 := hF.gv hR.2 HQa 20 rfl (hpre ⟨20, .data⟩ (by simp) rfl) rfl; have hgoal := hR.go hst HQa 21 rfl; have q0 := cell_keep hR.1 a4; have q1 := cell_keep hR.1 a5; clear hF hpre hl hR; go_simp; exact ⟨_, rfl, hgoal _ _ (Below.refl _ _) rfl⟩
    | 22, ho =>
      simp at ho; subst ho; refine step_plain rfl ?_; have e5 := hF.was 5 (by kernel_rfl) rfl; have hgoal := hR.go hst HQa 22 rfl; clear hF hpre hl hR; go_simp; exact ⟨_, rfl, hgoal _ _ (Below.refl _ _) rfl⟩
    | 23, ho =>
      simp at ho; subst ho; refine step_plain rfl ?_; have e75 := hF.gv hR.2 HQa 22 rfl (hpre ⟨22, .data⟩ (by simp) rfl) rfl; have hgoal := hR.go hst HQa 23 rfl; clear hF hpre hl hR; go_simp; exact ⟨_, rfl, hgoal _ _ (Below.refl _ _) rfl⟩
    | 24, ho =>
      simp at ho; subst ho; refine step_plain rfl ?_; have e76 := hF.gv hR.2 HQa 23 rfl (hpre ⟨23, .data⟩ (by simp) rfl) rfl; have hgoal := hR.go hst HQa 24 rfl; have q0 := cell_keep hR.1 n2f; clear hF hpre hl hR; go_simp; exact ⟨_, rfl, hgoal _ _ (Below.refl _ _) rfl⟩
    | 25, ho =>
      simp at ho; subst ho; refine step_plain rfl ?_; have e5 := hF.was 5 (by kernel_rfl) rfl; have hgoal := hR.go hst HQa 25 rfl; clear hF hpre hl hR; go_simp; exact ⟨_, rfl, hgoal _ _ (Below.refl _ _) rfl⟩
    | 26, ho =>
      simp at ho; subst ho; refine step_plain rfl ?_; have e78 := hF.gv hR.2 HQa 25 rfl (hpre ⟨25, .data⟩ (by simp) rfl) rfl; have hgoal := hR.go hst HQa 26 rfl; clear hF hpre hl hR; go_simp; exact ⟨_, rfl, hgoal _ _ (Below.refl _ _) rfl⟩
    | 27, ho =>
      simp at ho; subst ho; refine step_plain rfl ?_; have e79 := hF.gv hR.2 HQa 26 rfl (hpre ⟨26, .data⟩ (by simp) rfl) rfl; have hgoal := hR.go hst HQa 27 rfl; have q0 := cell_keep hR.1 n2f; clear hF hpre hl hR; go_simp; exact ⟨_, rfl, hgoal _ _ (Below.refl _ _) rfl⟩
    | 28, ho =>
      simp at ho; subst ho; refine step_plain rfl ?_; have e74 := hF.gv hR.2 HQa 21 rfl (hpre ⟨21, .data⟩ (by simp) rfl) rfl; have e77 := hF.gv hR.2 HQa 24 rfl (hpre ⟨24, .data⟩ (by simp) rfl) rfl; have e80 := hF.gv hR.2 HQa 27 rfl (hpre ⟨27, .data⟩ (by simp) rfl) rfl; have hgoal := hR.go hst HQa 28 rfl
      have hM := Lib.hid hR.1
      clear hF hpre hl hR; go_simp
      refine ⟨trivial, ?_⟩
      refine CallsIn.mono (callsIn_wide.2 (HP2.out _)) ?_
      rintro e w9 ⟨rfl, hb9⟩
      exact ⟨_, rfl, hgoal _ _ hb9 rfl⟩
    | 29, ho =>
      simp at ho; subst ho; refine step_plain rfl ?_; have e81 := hF.gv hR.2 HQa 28 rfl (hpre ⟨28, .data⟩ (by simp) rfl) rfl; have hgoal := hR.go hst HQa 29 rfl; clear hF hpre hl hR; go_simp; exact ⟨_, rfl, hgoal _ _ (Below.refl _ _) rfl⟩
    | 30, ho =>
      simp at ho; subst ho; refine step_plain rfl ?_; have e62 := hF.gv hR.2 HQa 9 rfl (hpre ⟨9, .data⟩ (by simp) rfl) rfl; have hgoal := hR.go hst HQa 30 rfl; clear hF hpre hl hR; go_simp; exact ⟨_, rfl, hgoal _ _ (Below.refl _ _) rfl⟩
    | 31, ho =>
      simp at ho; subst ho; refine step_plain rfl ?_; have e72 := hF.gv hR.2 HQa 19 rfl (hpre ⟨19, .data⟩ (by simp) rfl) rfl; have hgoal := hR.go hst HQa 31 rfl; clear hF hpre hl hR; go_simp; exact ⟨_, rfl, hgoal _ _ (Below.refl _ _) rfl⟩
    | 32, ho =>
      simp at ho; subst ho; refine step_plain rfl ?_; have e82 := hF.gv hR.2 HQa 29 rfl (hpre ⟨29, .data⟩ (by simp) rfl) rfl; have hgoal := hR.go hst HQa 32 rfl; clear hF hpre hl hR; go_simp; exact ⟨_, rfl, hgoal _ _ (Below.refl _ _) rfl⟩
    | i + 33, ho => simp at ho
  case henda =>
    intro val L b' y7 hF hall hR
    have e := hF.all (by kernel_rfl) hall
    have ka30 := QG.val HQa rfl (hR.2 30 (hall 30 (by decide)))
    have ka31 := QG.val HQa rfl (hR.2 31 (hall 31 (by decide)))
    have ka32 := QG.val HQa rfl (hR.2 32 (hall 32 (by decide)))
    have hBa := Lib.hid hR.1
    clear hF hall hR hst HQa 
    subst e
    simp [final, dstOf, List.range, List.range.loop]
    rw [ka30]
    rw [ka31]
    rw [ka32]
    have HB7 := Lib.hid (HB6.out.trans (hBa.out.mono HB6.out.size))
    clear a0 a1 a2 a3 a4 a5 a6 a7 n0f n1f n2f n3f n4f n5f n6f n7f n8f n9f n10f n11f sp0 sp1 ab0 ab1
    have X2 := Lib.hid (X2.out.keep hBa.out)
    have X3 := Lib.hid (X3.out.keep hBa.out)
    have XQ := Lib.hid (XQ.out.keep hBa.out)
    have HRQ := Lib.hid (HRQ.out.below hBa.out)
    clear hBa HB6
    go_upto_region 8 with fail
    have a0 : y7.cell? ⟨w.heap.size + 1, 0, none⟩ = some (.int .i64 a.w.1) := X2.out.cell 0
    have a1 : y7.cell? ⟨w.heap.size + 1, 1, none⟩ = some (.int .i64 a.w.2) := X2.out.cell 1
    have a2 : y7.cell? ⟨w.heap.size + 1, 2, none⟩ = some (.int .i64 a.t.1) := X2.out.cell 2
    have a3 : y7.cell? ⟨w.heap.size + 1, 3, none⟩ = some (.int .i64 a.t.2) := X2.out.cell 3
    have a4 : y7.cell? ⟨w.heap.size + 1, 4, none⟩ = some (.int .i64 a.h.1) := X2.out.cell 4
    have a5 : y7.cell? ⟨w.heap.size + 1, 5, none⟩ = some (.int .i64 a.h.2) := X2.out.cell 5
    have a6 : y7.cell? ⟨w.heap.size + 1, 6, none⟩ = some (.int .i64 a.v.1) := X2.out.cell 6
    have a7 : y7.cell? ⟨w.heap.size + 1, 7, none⟩ = some (.int .i64 a.v.2) := X2.out.cell 7
    have n0f : y7.cell? ⟨w.heap.size + 1 + 1, 0, none⟩ = some (.int .i64 n0) := X3.out.cell 0
    have n1f : y7.cell? ⟨w.heap.size + 1 + 1, 1, none⟩ = some (.int .i64 n1) := X3.out.cell 1
    have n2f : y7.cell? ⟨w.heap.size + 1 + 1, 2, none⟩ = some (.int .i64 n2) := X3.out.cell 2
    have n3f : y7.cell? ⟨w.heap.size + 1 + 1, 3, none⟩ = some (.int .i64 n3) := X3.out.cell 3
    have n4f : y7.cell? ⟨w.heap.size + 1 + 1, 4, none⟩ = some (.int .i64 n4) := X3.out.cell 4
    have n5f : y7.cell? ⟨w.heap.size + 1 + 1, 5, none⟩ = some (.int .i64 n5) := X3.out.cell 5
    have n6f : y7.cell? ⟨w.heap.size + 1 + 1, 6, none⟩ = some (.int .i64 n6) := X3.out.cell 6
    have n7f : y7.cell? ⟨w.heap.size + 1 + 1, 7, none⟩ = some (.int .i64 n7) := X3.out.cell 7
    have n8f : y7.cell? ⟨w.heap.size + 1 + 1, 8, none⟩ = some (.int .i64 n8) := X3.out.cell 8
    have n9f : y7.cell? ⟨w.heap.size + 1 + 1, 9, none⟩ = some (.int .i64 n9) := X3.out.cell 9
    have n10f : y7.cell? ⟨w.heap.size + 1 + 1, 10, none⟩ = some (.int .i64 n10) := X3.out.cell 10
    have n11f : y7.cell? ⟨w.heap.size + 1 + 1, 11, none⟩ = some (.int .i64 n11) := X3.out.cell 11
    have sp0 : y7.cell? ⟨w.heap.size + 1 + 1, 12, none⟩ = some (.int .i64 sp.1) := X3.out.cell 12
    have sp1 : y7.cell? ⟨w.heap.size + 1 + 1, 13, none⟩ = some (.int .i64 sp.2) := X3.out.cell 13
    have ab0 : y7.cell? ⟨w.heap.size + 1 + 1, 14, none⟩ = some (.int .i64 ab.1) := X3.out.cell 14
    have ab1 : y7.cell? ⟨w.heap.size + 1 + 1, 15, none⟩ = some (.int .i64 ab.2) := X3.out.cell 15
    obtain ⟨Qb, hQb⟩ : ∃ q9 : Nat → Value → World → Prop, q9 = QG [some (.pointer (some ⟨w.heap.size + 1, 6, none⟩)), some (.agg #[.int .i64 a.v.1, .int .i64 a.v.2]), some (.pointer (some ⟨w.heap.size + 1 + 1, 0, none⟩)), some (.pointer (some ⟨w.heap.size + 1 + 1, 3, none⟩)), some (.int .i64 n3), some (.pointer (some ⟨w.heap.size + 1 + 1, 0, none⟩)), some (.pointer (some ⟨w.heap.size + 1 + 1, 3, none⟩)), some (.int .i64 n3), some (.agg #[.int .i64 x3, .int .i64 y3]), some (.int .i64 x3), some (.pointer (some ⟨w.heap.size + 1 + 1, 14, none⟩)), some (.agg #[.int .i64 ab.1, .int .i64 ab.2]), some (.pointer (some ⟨w.heap.size + 1 + 1, 0, none⟩)), some (.pointer (some ⟨w.heap.size + 1 + 1, 4, none⟩)), some (.int .i64 n4), some (.pointer (some ⟨w.heap.size + 1 + 1, 0, none⟩)), some (.pointer (some ⟨w.heap.size + 1 + 1, 4, none⟩)), some (.int .i64 n4), some (.agg #[.int .i64 x4, .int .i64 y4]), some (.int .i64 x4), some (.int .i64 x3), some (.int .i64 x4)] (fun _ _ _ => True) := ⟨_, rfl⟩
    have hst : Stays Qb := by rw [hQb]; exact QG.stays (fun _ _ _ _ _ _ => trivial)
    have HQb := Lib.hid hQb
    clear hQb
    refine wpIn_wide.1 (region_inv2 (n := 9) (by kernel_rfl) (RQ Qb y7) (by kernel_rfl) rfl (RQ.start _ _ _) ?hstepb ?hendb)
    case hstepb =>
      intro i' o ho val L b' y8 hF hR hpre hl
      match i', ho with
      | 0, ho =>
        simp at ho; subst ho; refine step_plain rfl ?_; have e4 := hF.was 4 (by kernel_rfl) rfl; have hgoal := hR.go hst HQb 0 rfl; clear hF hpre hl hR; go_simp; exact ⟨_, rfl, hgoal _ _ (Below.refl _ _) rfl⟩
      | 1, ho =>
        simp at ho; subst ho; refine step_plain rfl ?_; have e83 := hF.gv hR.2 HQb 0 rfl (hpre ⟨0, .data⟩ (by simp) rfl) rfl; have hgoal := hR.go hst HQb 1 rfl; have q0 := cell_keep hR.1 a6; have q1 := cell_keep hR.1 a7; clear hF hpre hl hR; go_simp; exact ⟨_, rfl, hgoal _ _ (Below.refl _ _) rfl⟩
      | 2, ho =>
        simp at ho; subst ho; refine step_plain rfl ?_; have e5 := hF.was 5 (by kernel_rfl) rfl; have hgoal := hR.go hst HQb 2 rfl; clear hF hpre hl hR; go_simp; exact ⟨_, rfl, hgoal _ _ (Below.refl _ _) rfl⟩
      | 3, ho =>
        simp at ho; subst ho; refine step_plain rfl ?_; have e85 := hF.gv hR.2 HQb 2 rfl (hpre ⟨2, .data⟩ (by simp) rfl) rfl; have hgoal := hR.go hst HQb 3 rfl; clear hF hpre hl hR; go_simp; exact ⟨_, rfl, hgoal _ _ (Below.refl _ _) rfl⟩
      | 4, ho =>
        simp at ho; subst ho; refine step_plain rfl ?_; have e86 := hF.gv hR.2 HQb 3 rfl (hpre ⟨3, .data⟩ (by simp) rfl) rfl; have hgoal := hR.go hst HQb 4 rfl; have q0 := cell_keep hR.1 n3f; clear hF hpre hl hR; go_simp; exact ⟨_, rfl, hgoal _ _ (Below.refl _ _) rfl⟩
      | 5, ho =>
        simp at ho; subst ho; refine step_plain rfl ?_; have e5 := hF.was 5 (by kernel_rfl) rfl; have hgoal := hR.go hst HQb 5 rfl; clear hF hpre hl hR; go_simp; exact ⟨_, rfl, hgoal _ _ (Below.refl _ _) rfl⟩
      | 6, ho =>
        simp at ho; subst ho; refine step_plain rfl ?_; have e88 := hF.gv hR.2 HQb 5 rfl (hpre ⟨5, .data⟩ (by simp) rfl) rfl; have hgoal := hR.go hst HQb 6 rfl; clear hF hpre hl hR; go_simp; exact ⟨_, rfl, hgoal _ _ (Below.refl _ _) rfl⟩
      | 7, ho =>
        simp at ho; subst ho; refine step_plain rfl ?_; have e89 := hF.gv hR.2 HQb 6 rfl (hpre ⟨6, .data⟩ (by simp) rfl) rfl; have hgoal := hR.go hst HQb 7 rfl; have q0 := cell_keep hR.1 n3f; clear hF hpre hl hR; go_simp; exact ⟨_, rfl, hgoal _ _ (Below.refl _ _) rfl⟩
      | 8, ho =>
        simp at ho; subst ho; refine step_plain rfl ?_; have e84 := hF.gv hR.2 HQb 1 rfl (hpre ⟨1, .data⟩ (by simp) rfl) rfl; have e87 := hF.gv hR.2 HQb 4 rfl (hpre ⟨4, .data⟩ (by simp) rfl) rfl; have e90 := hF.gv hR.2 HQb 7 rfl (hpre ⟨7, .data⟩ (by simp) rfl) rfl; have hgoal := hR.go hst HQb 8 rfl
        have hM := Lib.hid hR.1
        clear hF hpre hl hR; go_simp
        refine ⟨trivial, ?_⟩
        refine CallsIn.mono (callsIn_wide.2 (HP3.out _)) ?_
        rintro e w9 ⟨rfl, hb9⟩
        exact ⟨_, rfl, hgoal _ _ hb9 rfl⟩
      | 9, ho =>
        simp at ho; subst ho; refine step_plain rfl ?_; have e91 := hF.gv hR.2 HQb 8 rfl (hpre ⟨8, .data⟩ (by simp) rfl) rfl; have hgoal := hR.go hst HQb 9 rfl; clear hF hpre hl hR; go_simp; exact ⟨_, rfl, hgoal _ _ (Below.refl _ _) rfl⟩
      | 10, ho =>
        simp at ho; subst ho; refine step_plain rfl ?_; have e5 := hF.was 5 (by kernel_rfl) rfl; have hgoal := hR.go hst HQb 10 rfl; clear hF hpre hl hR; go_simp; exact ⟨_, rfl, hgoal _ _ (Below.refl _ _) rfl⟩
      | 11, ho =>
        simp at ho; subst ho; refine step_plain rfl ?_; have e93 := hF.gv hR.2 HQb 10 rfl (hpre ⟨10, .data⟩ (by simp) rfl) rfl; have hgoal := hR.go hst HQb 11 rfl; have q0 := cell_keep hR.1 ab0; have q1 := cell_keep hR.1 ab1; clear hF hpre hl hR; go_simp; exact ⟨_, rfl, hgoal _ _ (Below.refl _ _) rfl⟩
      | 12, ho =>
        simp at ho; subst ho; refine step_plain rfl ?_; have e5 := hF.was 5 (by kernel_rfl) rfl; have hgoal := hR.go hst HQb 12 rfl; clear hF hpre hl hR; go_simp; exact ⟨_, rfl, hgoal _ _ (Below.refl _ _) rfl⟩
      | 13, ho =>
        simp at ho; subst ho; refine step_plain rfl ?_; have e95 := hF.gv hR.2 HQb 12 rfl (hpre ⟨12, .data⟩ (by simp) rfl) rfl; have hgoal := hR.go hst HQb 13 rfl; clear hF hpre hl hR; go_simp; exact ⟨_, rfl, hgoal _ _ (Below.refl _ _) rfl⟩
      | 14, ho =>
        simp at ho; subst ho; refine step_plain rfl ?_; have e96 := hF.gv hR.2 HQb 13 rfl (hpre ⟨13, .data⟩ (by simp) rfl) rfl; have hgoal := hR.go hst HQb 14 rfl; have q0 := cell_keep hR.1 n4f; clear hF hpre hl hR; go_simp; exact ⟨_, rfl, hgoal _ _ (Below.refl _ _) rfl⟩
      | 15, ho =>
        simp at ho; subst ho; refine step_plain rfl ?_; have e5 := hF.was 5 (by kernel_rfl) rfl; have hgoal := hR.go hst HQb 15 rfl; clear hF hpre hl hR; go_simp; exact ⟨_, rfl, hgoal _ _ (Below.refl _ _) rfl⟩
      | 16, ho =>
        simp at ho; subst ho; refine step_plain rfl ?_; have e98 := hF.gv hR.2 HQb 15 rfl (hpre ⟨15, .data⟩ (by simp) rfl) rfl; have hgoal := hR.go hst HQb 16 rfl; clear hF hpre hl hR; go_simp; exact ⟨_, rfl, hgoal _ _ (Below.refl _ _) rfl⟩
      | 17, ho =>
        simp at ho; subst ho; refine step_plain rfl ?_; have e99 := hF.gv hR.2 HQb 16 rfl (hpre ⟨16, .data⟩ (by simp) rfl) rfl; have hgoal := hR.go hst HQb 17 rfl; have q0 := cell_keep hR.1 n4f; clear hF hpre hl hR; go_simp; exact ⟨_, rfl, hgoal _ _ (Below.refl _ _) rfl⟩
      | 18, ho =>
        simp at ho; subst ho; refine step_plain rfl ?_; have e94 := hF.gv hR.2 HQb 11 rfl (hpre ⟨11, .data⟩ (by simp) rfl) rfl; have e97 := hF.gv hR.2 HQb 14 rfl (hpre ⟨14, .data⟩ (by simp) rfl) rfl; have e100 := hF.gv hR.2 HQb 17 rfl (hpre ⟨17, .data⟩ (by simp) rfl) rfl; have hgoal := hR.go hst HQb 18 rfl
        have hM := Lib.hid hR.1
        clear hF hpre hl hR; go_simp
        refine ⟨trivial, ?_⟩
        refine CallsIn.mono (callsIn_wide.2 (HP4.out _)) ?_
        rintro e w9 ⟨rfl, hb9⟩
        exact ⟨_, rfl, hgoal _ _ hb9 rfl⟩
      | 19, ho =>
        simp at ho; subst ho; refine step_plain rfl ?_; have e101 := hF.gv hR.2 HQb 18 rfl (hpre ⟨18, .data⟩ (by simp) rfl) rfl; have hgoal := hR.go hst HQb 19 rfl; clear hF hpre hl hR; go_simp; exact ⟨_, rfl, hgoal _ _ (Below.refl _ _) rfl⟩
      | 20, ho =>
        simp at ho; subst ho; refine step_plain rfl ?_; have e92 := hF.gv hR.2 HQb 9 rfl (hpre ⟨9, .data⟩ (by simp) rfl) rfl; have hgoal := hR.go hst HQb 20 rfl; clear hF hpre hl hR; go_simp; exact ⟨_, rfl, hgoal _ _ (Below.refl _ _) rfl⟩
      | 21, ho =>
        simp at ho; subst ho; refine step_plain rfl ?_; have e102 := hF.gv hR.2 HQb 19 rfl (hpre ⟨19, .data⟩ (by simp) rfl) rfl; have hgoal := hR.go hst HQb 21 rfl; clear hF hpre hl hR; go_simp; exact ⟨_, rfl, hgoal _ _ (Below.refl _ _) rfl⟩
      | i + 22, ho => simp at ho
    case hendb =>
      intro val L b' y8 hF hall hR
      have e := hF.all (by kernel_rfl) hall
      have kb20 := QG.val HQb rfl (hR.2 20 (hall 20 (by decide)))
      have kb21 := QG.val HQb rfl (hR.2 21 (hall 21 (by decide)))
      have hBb := Lib.hid hR.1
      clear hF hall hR hst HQb 
      subst e
      simp [final, dstOf, List.range, List.range.loop]
      rw [kb20]
      rw [kb21]
      have HB8 := Lib.hid (HB7.out.trans (hBb.out.mono HB7.out.size))
      clear a0 a1 a2 a3 a4 a5 a6 a7 n0f n1f n2f n3f n4f n5f n6f n7f n8f n9f n10f n11f sp0 sp1 ab0 ab1
      have XQ := Lib.hid (XQ.out.keep hBb.out)
      have HRQ := Lib.hid (HRQ.out.below hBb.out)
      clear hBb HB7 X2 X3
      have f0 : y8.cell? ⟨gq, 9, none⟩ = some (.slice q.p.ax q.p.X.length q.p.cx) := (XQ.out.cell 9).trans (by rw [HQ.out]; rfl); have f1 : y8.cell? ⟨gq, 10, none⟩ = some (.slice q.p.ay q.p.Y.length q.p.cy) := (XQ.out.cell 10).trans (by rw [HQ.out]; rfl); have f2 : y8.cell? ⟨gq, 11, none⟩ = some (.slice q.p.av q.p.V.length q.p.cv) := (XQ.out.cell 11).trans (by rw [HQ.out]; rfl); have lq := XQ.out.lt
      go_upto_region 10 with (go_at_call 47; refine Calls.mono (HAP.out _ HRQ.out.p) ?_; rintro e w9 ⟨rfl, hb9⟩; clear HAP f0 f1 f2 lq; have XQ := Lib.hid (XQ.out.keep hb9); have HRQ := Lib.hid (HRQ.out.below hb9); have HB9 := Lib.hid (HB8.out.trans (hb9.mono HB8.out.size)); have f0 : w9.cell? ⟨gq, 0, none⟩ = some (.slice q.h.ax q.h.X.length q.h.cx) := (XQ.out.cell 0).trans (by rw [HQ.out]; rfl); have f1 : w9.cell? ⟨gq, 1, none⟩ = some (.slice q.h.ay q.h.Y.length q.h.cy) := (XQ.out.cell 1).trans (by rw [HQ.out]; rfl); have f2 : w9.cell? ⟨gq, 2, none⟩ = some (.slice q.h.av q.h.V.length q.h.cv) := (XQ.out.cell 2).trans (by rw [HQ.out]; rfl); have lq := XQ.out.lt; clear hb9 HB8)
      go_upto_region 11 with (go_at_call 47; refine Calls.mono (HAH.out _ (HRQ.out.below ((Below.refl _ _).alloc (Nat.le_refl _) _)).h) ?_; rintro e w10 ⟨rfl, hb10⟩; clear HAH f0 f1 f2 lq; have XQ := Lib.hid (XQ.out.old.keep hb10); have K1 := Lib.hid ((BK.newg (w := w9) (g := w9.heap.size) (cs := #[.int .i64 Lp, .int .i64 Hp]) (T := 34) rfl).keep hb10); have HRQ := Lib.hid ((HRQ.out.below ((Below.refl _ _).alloc (Nat.le_refl _) _)).below hb10); have HB10 := Lib.hid ((HB9.out.alloc HB9.out.size _).trans (hb10.mono (by simp; have := HB9.out.size; omega))); have f0 : w10.cell? ⟨gq, 3, none⟩ = some (.slice q.g.ax q.g.X.length q.g.cx) := (XQ.out.cell 3).trans (by rw [HQ.out]; rfl); have f1 : w10.cell? ⟨gq, 4, none⟩ = some (.slice q.g.ay q.g.Y.length q.g.cy) := (XQ.out.cell 4).trans (by rw [HQ.out]; rfl); have f2 : w10.cell? ⟨gq, 5, none⟩ = some (.slice q.g.av q.g.V.length q.g.cv) := (XQ.out.cell 5).trans (by rw [HQ.out]; rfl); have lq := XQ.out.lt; clear hb10 HB9)
      go_upto_region 12 with (go_at_call 47; refine Calls.mono (HAG.out _ (HRQ.out.below ((Below.refl _ _).alloc (Nat.le_refl _) _)).g) ?_; rintro e w11 ⟨rfl, hb11⟩; clear HAG f0 f1 f2 lq; have K1 := Lib.hid (K1.out.old.keep hb11); have K2 := Lib.hid ((BK.newg (w := w10) (g := w10.heap.size) (cs := #[.int .i64 Lh, .int .i64 Hh]) (T := 34) rfl).keep hb11); have HB11 := Lib.hid ((HB10.out.alloc HB10.out.size _).trans (hb11.mono (by simp; have := HB10.out.size; omega))); have c1 := K1.out.cell; have l1 := K1.out.lt; have c2 := K2.out.cell; have l2 := K2.out.lt; clear hb11 HB10)
      go_upto_region 14 with fail
      obtain ⟨e1, e2, e3, e4, e5⟩ := HN.out
      go_wp2_with (go_at_call 15; refine Calls.mono (HW.out _) ?_; rintro e w12 ⟨rfl, hb12⟩; have HB12 := Lib.hid ((HB11.out.alloc HB11.out.size _).trans (hb12.mono (by simp; have := HB11.out.size; omega))); clear hb12)
      go_ret
      exact ⟨rfl, HB12.out⟩
set_option maxHeartbeats 16000000 in
theorem law_kept (wk : WK2) (w : World) (r : RO) (rg : RG w r) (a : AI) (n0 n1 n2 n3 n4 n5 n6 n7 n8 n9 n10 n11 : Int) (sp ab : Int × Int) : Calls Try.prog 12 #[.agg #[.slice r.h.ax r.h.X.length r.h.cx, .slice r.h.ay r.h.Y.length r.h.cy, .slice r.h.av r.h.V.length r.h.cv, .slice r.g.ax r.g.X.length r.g.cx, .slice r.g.ay r.g.Y.length r.g.cy, .slice r.g.av r.g.V.length r.g.cv, .slice r.l.ax r.l.X.length r.l.cx, .slice r.l.ay r.l.Y.length r.l.cy, .slice r.l.av r.l.V.length r.l.cv, .slice r.p.ax r.p.X.length r.p.cx, .slice r.p.ay r.p.Y.length r.p.cy, .slice r.p.av r.p.V.length r.p.cv, .slice r.n.ax r.n.X.length r.n.cx, .slice r.n.ay r.n.Y.length r.n.cy, .slice r.n.av r.n.V.length r.n.cv, .slice r.a.ax r.a.X.length r.a.cx, .slice r.a.ay r.a.Y.length r.a.cy, .slice r.a.av r.a.V.length r.a.cv, .slice r.b.ax r.b.X.length r.b.cx, .slice r.b.ay r.b.Y.length r.b.cy, .slice r.b.av r.b.V.length r.b.cv, .slice r.d.ax r.d.X.length r.d.cx, .slice r.d.ay r.d.Y.length r.d.cy, .slice r.d.av r.d.V.length r.d.cv, .int .i64 r.cl, .int .i64 r.bu], .agg #[.int .i64 a.w.1, .int .i64 a.w.2, .int .i64 a.t.1, .int .i64 a.t.2, .int .i64 a.h.1, .int .i64 a.h.2, .int .i64 a.v.1, .int .i64 a.v.2], .agg #[.int .i64 n0, .int .i64 n1, .int .i64 n2, .int .i64 n3, .int .i64 n4, .int .i64 n5, .int .i64 n6, .int .i64 n7, .int .i64 n8, .int .i64 n9, .int .i64 n10, .int .i64 n11, .int .i64 sp.1, .int .i64 sp.2, .int .i64 ab.1, .int .i64 ab.2]] w fun e w' => e = .returned (.bool true) ∧ Below w.heap.size w w' := by
  obtain ⟨CS, hc⟩ : ∃ CS : Array Value, #[.slice r.h.ax r.h.X.length r.h.cx, .slice r.h.ay r.h.Y.length r.h.cy, .slice r.h.av r.h.V.length r.h.cv, .slice r.g.ax r.g.X.length r.g.cx, .slice r.g.ay r.g.Y.length r.g.cy, .slice r.g.av r.g.V.length r.g.cv, .slice r.l.ax r.l.X.length r.l.cx, .slice r.l.ay r.l.Y.length r.l.cy, .slice r.l.av r.l.V.length r.l.cv, .slice r.p.ax r.p.X.length r.p.cx, .slice r.p.ay r.p.Y.length r.p.cy, .slice r.p.av r.p.V.length r.p.cv, .slice r.n.ax r.n.X.length r.n.cx, .slice r.n.ay r.n.Y.length r.n.cy, .slice r.n.av r.n.V.length r.n.cv, .slice r.a.ax r.a.X.length r.a.cx, .slice r.a.ay r.a.Y.length r.a.cy, .slice r.a.av r.a.V.length r.a.cv, .slice r.b.ax r.b.X.length r.b.cx, .slice r.b.ay r.b.Y.length r.b.cy, .slice r.b.av r.b.V.length r.b.cv, .slice r.d.ax r.d.X.length r.d.cx, .slice r.d.ay r.d.Y.length r.d.cy, .slice r.d.av r.d.V.length r.d.cv, .int .i64 r.cl, .int .i64 r.bu] = CS := ⟨_, rfl⟩
  have HFA := Lib.hid (fun (W : World) (hW : Below w.heap.size w W) => show Calls Try.prog 14 #[.agg CS] W fun e w' => e = .returned (.bool r.far) ∧ Below W.heap.size W w' by rw [← hc]; exact rfar_any r W (rg.below hW))
  have HCA := Lib.hid (fun (W : World) (hW : Below w.heap.size w W) => checkAir_any r a CS W (rg.below hW) hc.symm)
  have HVS := Lib.hid (rvalS_any ab)
  have HSZ := Lib.hid (show CS.size = 26 by rw [← hc]; rfl)
  have HC := Lib.hid hc.symm
  have X1 := Lib.hid (((BK.newg (w := w) (g := w.heap.size) (cs := CS) (T := 27) rfl).old (x := .cells #[.int .i64 a.w.1, .int .i64 a.w.2, .int .i64 a.t.1, .int .i64 a.t.2, .int .i64 a.h.1, .int .i64 a.h.2, .int .i64 a.v.1, .int .i64 a.v.2] 36)).old (x := .cells #[.int .i64 n0, .int .i64 n1, .int .i64 n2, .int .i64 n3, .int .i64 n4, .int .i64 n5, .int .i64 n6, .int .i64 n7, .int .i64 n8, .int .i64 n9, .int .i64 n10, .int .i64 n11, .int .i64 sp.1, .int .i64 sp.2, .int .i64 ab.1, .int .i64 ab.2] 67))
  have X2 := Lib.hid ((BK.newg (w := (w.alloc (.cells CS 27))) (g := w.heap.size + 1) (cs := #[.int .i64 a.w.1, .int .i64 a.w.2, .int .i64 a.t.1, .int .i64 a.t.2, .int .i64 a.h.1, .int .i64 a.h.2, .int .i64 a.v.1, .int .i64 a.v.2]) (T := 36) (by simp)).old (x := .cells #[.int .i64 n0, .int .i64 n1, .int .i64 n2, .int .i64 n3, .int .i64 n4, .int .i64 n5, .int .i64 n6, .int .i64 n7, .int .i64 n8, .int .i64 n9, .int .i64 n10, .int .i64 n11, .int .i64 sp.1, .int .i64 sp.2, .int .i64 ab.1, .int .i64 ab.2] 67))
  have X3 := Lib.hid (BK.newg (w := ((w.alloc (.cells CS 27)).alloc (.cells #[.int .i64 a.w.1, .int .i64 a.w.2, .int .i64 a.t.1, .int .i64 a.t.2, .int .i64 a.h.1, .int .i64 a.h.2, .int .i64 a.v.1, .int .i64 a.v.2] 36))) (g := w.heap.size + 1 + 1) (cs := #[.int .i64 n0, .int .i64 n1, .int .i64 n2, .int .i64 n3, .int .i64 n4, .int .i64 n5, .int .i64 n6, .int .i64 n7, .int .i64 n8, .int .i64 n9, .int .i64 n10, .int .i64 n11, .int .i64 sp.1, .int .i64 sp.2, .int .i64 ab.1, .int .i64 ab.2]) (T := 67) (by simp))
  have HB := Lib.hid (show Below w.heap.size w (((w.alloc (.cells CS 27)).alloc (.cells #[.int .i64 a.w.1, .int .i64 a.w.2, .int .i64 a.t.1, .int .i64 a.t.2, .int .i64 a.h.1, .int .i64 a.h.2, .int .i64 a.v.1, .int .i64 a.v.2] 36)).alloc (.cells #[.int .i64 n0, .int .i64 n1, .int .i64 n2, .int .i64 n3, .int .i64 n4, .int .i64 n5, .int .i64 n6, .int .i64 n7, .int .i64 n8, .int .i64 n9, .int .i64 n10, .int .i64 n11, .int .i64 sp.1, .int .i64 sp.2, .int .i64 ab.1, .int .i64 ab.2] 67)) by go_grown)
  have HW := Lib.hid wk
  rw [hc]
  cases hf : r.far with
  | true =>
    rw [hf] at HFA
    clear rg hc hf
    go_enter Try.func12, Try.ntmps12
    go_upto_region 1 with fail
    generalize (((w.alloc (.cells CS 27)).alloc (.cells #[.int .i64 a.w.1, .int .i64 a.w.2, .int .i64 a.t.1, .int .i64 a.t.2, .int .i64 a.h.1, .int .i64 a.h.2, .int .i64 a.v.1, .int .i64 a.v.2] 36)).alloc (.cells #[.int .i64 n0, .int .i64 n1, .int .i64 n2, .int .i64 n3, .int .i64 n4, .int .i64 n5, .int .i64 n6, .int .i64 n7, .int .i64 n8, .int .i64 n9, .int .i64 n10, .int .i64 n11, .int .i64 sp.1, .int .i64 sp.2, .int .i64 ab.1, .int .i64 ab.2] 67)) = V1 at *
    go_wp2_with (first
      | ((with_reducible refine ldR X1.out HSZ.out ?_ ?_); rfl) | ((with_reducible refine ldRg ?_ X1.out HSZ.out ?_ ?_); rfl; rfl) | ((with_reducible refine ldAg ?_ X2.out ?_ ?_ ?_); rfl; rfl; rfl)
      | (go_at_call 14; refine Calls.mono (HFA.out _ HB.out) ?_; rintro e w1 ⟨rfl, hb1⟩; have HB1 := Lib.hid (HB.out.trans (hb1.mono HB.out.size)); have X1 := Lib.hid (X1.out.keep hb1); have X2 := Lib.hid (X2.out.keep hb1); have X3 := Lib.hid (X3.out.keep hb1); clear hb1 HB)
      | (go_at_call 15; refine Calls.mono (HW.out _) ?_; rintro e w2 ⟨rfl, hb2⟩; have HB2 := Lib.hid (HB1.out.trans (hb2.mono HB1.out.size)); clear hb2))
    go_ret
    exact ⟨rfl, HB2.out⟩
  | false =>
    have HO := Lib.hid (fun (W : World) (hW : Below w.heap.size w W) => own_any r W (rg.below hW) (RO.small_of hf) CS hc.symm)
    rw [hf] at HFA
    by_cases hA : airE r a = 0
    · rw [hA] at HCA
      cases hv : vS ab with
      | false =>
        rw [hv] at HVS
        clear rg hc hf HO
        go_enter Try.func12, Try.ntmps12
        go_upto_region 1 with fail
        generalize (((w.alloc (.cells CS 27)).alloc (.cells #[.int .i64 a.w.1, .int .i64 a.w.2, .int .i64 a.t.1, .int .i64 a.t.2, .int .i64 a.h.1, .int .i64 a.h.2, .int .i64 a.v.1, .int .i64 a.v.2] 36)).alloc (.cells #[.int .i64 n0, .int .i64 n1, .int .i64 n2, .int .i64 n3, .int .i64 n4, .int .i64 n5, .int .i64 n6, .int .i64 n7, .int .i64 n8, .int .i64 n9, .int .i64 n10, .int .i64 n11, .int .i64 sp.1, .int .i64 sp.2, .int .i64 ab.1, .int .i64 ab.2] 67)) = V1 at *
        go_wp2_with (first
          | ((with_reducible refine ldR X1.out HSZ.out ?_ ?_); rfl) | ((with_reducible refine ldRg ?_ X1.out HSZ.out ?_ ?_); rfl; rfl) | ((with_reducible refine ldAg ?_ X2.out ?_ ?_ ?_); rfl; rfl; rfl)
          | (go_at_call 14; refine Calls.mono (HFA.out _ HB.out) ?_; rintro e w1 ⟨rfl, hb1⟩; have HB1 := Lib.hid (HB.out.trans (hb1.mono HB.out.size)); have X1 := Lib.hid (X1.out.keep hb1); have X2 := Lib.hid (X2.out.keep hb1); have X3 := Lib.hid (X3.out.keep hb1); clear hb1 HB)
          | (go_at_call 42; refine Calls.mono (HCA.out _ HB1.out) ?_; rintro e w2 ⟨rfl, hb2⟩; have HB2 := Lib.hid (HB1.out.trans (hb2.mono HB1.out.size)); have X1 := Lib.hid (X1.out.keep hb2); have X2 := Lib.hid (X2.out.keep hb2); have X3 := Lib.hid (X3.out.keep hb2); have c3 := X3.out.cell; have l3 := X3.out.lt; clear hb2 HB1)
          | (go_at_call 43; refine Calls.mono (HVS.out _) ?_; rintro e w3 ⟨rfl, hb3⟩; have HB3 := Lib.hid (HB2.out.trans (hb3.mono HB2.out.size)); clear c3 l3; have X1 := Lib.hid (X1.out.keep hb3); have X2 := Lib.hid (X2.out.keep hb3); have X3 := Lib.hid (X3.out.keep hb3); clear hb3 HB2)
          | (go_at_call 15; refine Calls.mono (HW.out _) ?_; rintro e w4 ⟨rfl, hb4⟩; have HB4 := Lib.hid (HB3.out.trans (hb4.mono HB3.out.size)); clear hb4))
        go_ret
        exact ⟨rfl, HB4.out⟩
      | true =>
        rw [hv] at HVS
        by_cases hE : redE r a [loH r a, loG r a ab, loP r a] [ab] = 0
        · exact kept_good wk w r rg a n0 n1 n2 n3 n4 n5 n6 n7 n8 n9 n10 n11 sp ab CS hc hf hA hv hE
        · have hmg : mgS r a ab = (0, 1) := by unfold mgS; rw [if_neg hE, redE_01 hA hE]
          clear rg hc hf
          go_enter Try.func12, Try.ntmps12
          go_upto_region 1 with fail
          generalize (((w.alloc (.cells CS 27)).alloc (.cells #[.int .i64 a.w.1, .int .i64 a.w.2, .int .i64 a.t.1, .int .i64 a.t.2, .int .i64 a.h.1, .int .i64 a.h.2, .int .i64 a.v.1, .int .i64 a.v.2] 36)).alloc (.cells #[.int .i64 n0, .int .i64 n1, .int .i64 n2, .int .i64 n3, .int .i64 n4, .int .i64 n5, .int .i64 n6, .int .i64 n7, .int .i64 n8, .int .i64 n9, .int .i64 n10, .int .i64 n11, .int .i64 sp.1, .int .i64 sp.2, .int .i64 ab.1, .int .i64 ab.2] 67)) = V1 at *
          go_upto_region 4 with (first
            | ((with_reducible refine ldR X1.out HSZ.out ?_ ?_); rfl) | ((with_reducible refine ldRg ?_ X1.out HSZ.out ?_ ?_); rfl; rfl) | ((with_reducible refine ldAg ?_ X2.out ?_ ?_ ?_); rfl; rfl; rfl)
            | (go_at_call 14; refine Calls.mono (HFA.out _ HB.out) ?_; rintro e w1 ⟨rfl, hb1⟩; have HB1 := Lib.hid (HB.out.trans (hb1.mono HB.out.size)); have X1 := Lib.hid (X1.out.keep hb1); have X2 := Lib.hid (X2.out.keep hb1); have X3 := Lib.hid (X3.out.keep hb1); clear hb1 HB)
            | (go_at_call 42; refine Calls.mono (HCA.out _ HB1.out) ?_; rintro e w2 ⟨rfl, hb2⟩; have HB2 := Lib.hid (HB1.out.trans (hb2.mono HB1.out.size)); have X1 := Lib.hid (X1.out.keep hb2); have X2 := Lib.hid (X2.out.keep hb2); have X3 := Lib.hid (X3.out.keep hb2); have c3 := X3.out.cell; have l3 := X3.out.lt; clear hb2 HB1)
            | (go_at_call 43; refine Calls.mono (HVS.out _) ?_; rintro e w3 ⟨rfl, hb3⟩; have HB3 := Lib.hid (HB2.out.trans (hb3.mono HB2.out.size)); clear c3 l3; have X1 := Lib.hid (X1.out.keep hb3); have X2 := Lib.hid (X2.out.keep hb3); have X3 := Lib.hid (X3.out.keep hb3); clear hb3 HB2)
            | (go_at_call 17; refine Calls.mono (HO.out _ HB3.out) ?_; rintro e w4 ⟨q, rfl, hs, hg, hb4⟩; (obtain ⟨QS, hq⟩ : ∃ QS : Array Value, #[.slice q.h.ax q.h.X.length q.h.cx, .slice q.h.ay q.h.Y.length q.h.cy, .slice q.h.av q.h.V.length q.h.cv, .slice q.g.ax q.g.X.length q.g.cx, .slice q.g.ay q.g.Y.length q.g.cy, .slice q.g.av q.g.V.length q.g.cv, .slice q.l.ax q.l.X.length q.l.cx, .slice q.l.ay q.l.Y.length q.l.cy, .slice q.l.av q.l.V.length q.l.cv, .slice q.p.ax q.p.X.length q.p.cx, .slice q.p.ay q.p.Y.length q.p.cy, .slice q.p.av q.p.V.length q.p.cv, .slice q.n.ax q.n.X.length q.n.cx, .slice q.n.ay q.n.Y.length q.n.cy, .slice q.n.av q.n.V.length q.n.cv, .slice q.a.ax q.a.X.length q.a.cx, .slice q.a.ay q.a.Y.length q.a.cy, .slice q.a.av q.a.V.length q.a.cv, .slice q.b.ax q.b.X.length q.b.cx, .slice q.b.ay q.b.Y.length q.b.cy, .slice q.b.av q.b.V.length q.b.cv, .slice q.d.ax q.d.X.length q.d.cx, .slice q.d.ay q.d.Y.length q.d.cy, .slice q.d.av q.d.V.length q.d.cv, .int .i64 q.cl, .int .i64 q.bu] = QS := ⟨_, rfl⟩); rw [hq]; have HB4 := Lib.hid (HB3.out.trans (hb4.mono HB3.out.size)); have X1 := Lib.hid (X1.out.keep hb4); have X2 := Lib.hid (X2.out.keep hb4); have X3 := Lib.hid (X3.out.keep hb4); have HS := Lib.hid hs; have HG := Lib.hid hg.now; have HQ := Lib.hid hq.symm; have HQZ := Lib.hid (show QS.size = 26 by rw [← hq]; rfl); have HQO := Lib.hid (show QS.all (·.oneCell') = true by rw [← hq]; simp [Value.oneCell']); have XQ := Lib.hid (BK.newg (w := w4) (g := w4.heap.size) (cs := #[.slice none 0 0, .slice none 0 0, .slice none 0 0, .slice none 0 0, .slice none 0 0, .slice none 0 0, .slice none 0 0, .slice none 0 0, .slice none 0 0, .slice none 0 0, .slice none 0 0, .slice none 0 0, .slice none 0 0, .slice none 0 0, .slice none 0 0, .slice none 0 0, .slice none 0 0, .slice none 0 0, .slice none 0 0, .slice none 0 0, .slice none 0 0, .slice none 0 0, .slice none 0 0, .slice none 0 0, .int .i64 0, .int .i64 0]) (T := 27) rfl); clear hs hg hq hb4)
            | ((with_reducible refine stR XQ.out ?_ ?_ ?_ HQZ.out HQO.out ?_); rfl; rfl; rfl))
          obtain ⟨V3, hV3⟩ : ∃ W, (w4.alloc (.cells #[.slice none 0 0, .slice none 0 0, .slice none 0 0, .slice none 0 0, .slice none 0 0, .slice none 0 0, .slice none 0 0, .slice none 0 0, .slice none 0 0, .slice none 0 0, .slice none 0 0, .slice none 0 0, .slice none 0 0, .slice none 0 0, .slice none 0 0, .slice none 0 0, .slice none 0 0, .slice none 0 0, .slice none 0 0, .slice none 0 0, .slice none 0 0, .slice none 0 0, .slice none 0 0, .slice none 0 0, .int .i64 0, .int .i64 0] 27)).setRow w4.heap.size QS = W := ⟨_, rfl⟩
          rw [hV3]
          have hb3 : Below w4.heap.size w4 V3 := by rw [← hV3]; exact below_setRow ((Below.refl _ _).alloc (Nat.le_refl _) _) (Nat.le_refl _) _
          have XQ := Lib.hid (show BK V3 w4.heap.size QS 27 by rw [← hV3]; exact XQ.out.row)
          have X2 := Lib.hid (X2.out.keep hb3)
          have X3 := Lib.hid (X3.out.keep hb3)
          have HB5 := Lib.hid (HB4.out.trans (hb3.mono HB4.out.size))
          have HRQ := Lib.hid (HG.out.below hb3)
          clear hb3 hV3 HG HB3 HB4 HQO HO HFA HCA HVS X1
          generalize w4.heap.size = gq at *
          have HM := Lib.hid (fun (W : World) (hq : RG W q) => show Calls Try.prog 23 #[.agg QS, .agg #[.int .i64 a.w.1, .int .i64 a.w.2, .int .i64 a.t.1, .int .i64 a.t.2, .int .i64 a.h.1, .int .i64 a.h.2, .int .i64 a.v.1, .int .i64 a.v.2], .agg #[.int .i64 ab.1, .int .i64 ab.2]] W fun e w' => e = .returned (.tuple #[.int .i64 0, .int .i64 1]) ∧ Below W.heap.size W w' by
            have := margin_any q a QS ab W hq HQ.out
            rw [same_mgS HS.out, hmg] at this
            exact this)
          clear hmg hE hA hv
          have c3 := X3.out.cell
          have l3 := X3.out.lt
          go_wp2_with (first
            | ((with_reducible refine ldR XQ.out HQZ.out ?_ ?_); rfl)
            | ((with_reducible refine ldA X2.out ?_ ?_ ?_); rfl; rfl)
            | (go_at_call 23; refine Calls.mono (HM.out _ HRQ.out) ?_; rintro e w6 ⟨rfl, hb6⟩; have HB6 := Lib.hid (HB5.out.trans (hb6.mono HB5.out.size)); clear hb6 c3 l3)
            | (go_at_call 15; refine Calls.mono (HW.out _) ?_; rintro e w7 ⟨rfl, hb7⟩; have HB7 := Lib.hid (HB6.out.trans (hb7.mono HB6.out.size)); clear hb7))
          go_ret
          exact ⟨rfl, HB7.out⟩
    · clear rg hc hf HO
      generalize airE r a = E at *
      have hz' : (E != 0) = true := by rw [bne_iff_ne]; exact hA
      go_enter Try.func12, Try.ntmps12
      go_upto_region 1 with fail
      generalize (((w.alloc (.cells CS 27)).alloc (.cells #[.int .i64 a.w.1, .int .i64 a.w.2, .int .i64 a.t.1, .int .i64 a.t.2, .int .i64 a.h.1, .int .i64 a.h.2, .int .i64 a.v.1, .int .i64 a.v.2] 36)).alloc (.cells #[.int .i64 n0, .int .i64 n1, .int .i64 n2, .int .i64 n3, .int .i64 n4, .int .i64 n5, .int .i64 n6, .int .i64 n7, .int .i64 n8, .int .i64 n9, .int .i64 n10, .int .i64 n11, .int .i64 sp.1, .int .i64 sp.2, .int .i64 ab.1, .int .i64 ab.2] 67)) = V1 at *
      go_wp2_with (first
        | ((with_reducible refine ldR X1.out HSZ.out ?_ ?_); rfl) | ((with_reducible refine ldRg ?_ X1.out HSZ.out ?_ ?_); rfl; rfl) | ((with_reducible refine ldAg ?_ X2.out ?_ ?_ ?_); rfl; rfl; rfl)
        | (go_at_call 14; refine Calls.mono (HFA.out _ HB.out) ?_; rintro e w1 ⟨rfl, hb1⟩; have HB1 := Lib.hid (HB.out.trans (hb1.mono HB.out.size)); have X1 := Lib.hid (X1.out.keep hb1); have X2 := Lib.hid (X2.out.keep hb1); have X3 := Lib.hid (X3.out.keep hb1); clear hb1 HB)
        | (go_at_call 42; refine Calls.mono (HCA.out _ HB1.out) ?_; rintro e w2 ⟨rfl, hb2⟩; have HB2 := Lib.hid (HB1.out.trans (hb2.mono HB1.out.size)); have X1 := Lib.hid (X1.out.keep hb2); have X2 := Lib.hid (X2.out.keep hb2); have X3 := Lib.hid (X3.out.keep hb2); clear hb2 HB1)
        | (go_at_call 15; refine Calls.mono (HW.out _) ?_; rintro e w3 ⟨rfl, hb3⟩; have HB3 := Lib.hid (HB2.out.trans (hb3.mono HB2.out.size)); clear hb3))
      go_ret
      exact ⟨rfl, HB3.out⟩
end Go.Proofs.Ythhokiigdgpmcaa

/- Arguments of layer 2's laws, opened: a load, a sinking. -/
namespace Go.Proofs.Ythhokiigdgpmcaa
open Go.RowKit Go.WideShapes Go.ChangeShapes Go.ChangeAt Go.Joins Go.Deep

set_option maxRecDepth 100000
section
variable {H : Type} {enc : TypeId × Value → H}
theorem arrD3 {cs : Array Value} (h : cs.size = 3) : ∃ a b c, cs = #[a, b, c] :=
  ⟨cs[0], cs[1], cs[2], by
    apply Array.ext (by simp [h])
    intro i h1 h2
    simp at h2
    match i, h2 with
    | 0, _ => rfl
    | 1, _ => rfl
    | 2, _ => rfl⟩
theorem arrD4 {cs : Array Value} (h : cs.size = 4) : ∃ a b c d, cs = #[a, b, c, d] :=
  ⟨cs[0], cs[1], cs[2], cs[3], by
    apply Array.ext (by simp [h])
    intro i h1 h2
    simp at h2
    match i, h2 with
    | 0, _ => rfl
    | 1, _ => rfl
    | 2, _ => rfl
    | 3, _ => rfl⟩
theorem cells_load : Try.prog.cellsOf 45 = 3 := by kernel_rfl
theorem cells_sink : Try.prog.cellsOf 53 = 4 := by kernel_rfl
theorem load_open {w : World} {base : Nat} {spare : Nat → Bool} {held : Bool} {r : Reach} {b0 : Nat} {v : Value} {d : DataW H} {p : List MemPlace}
    (hv : Value.okWide Try.prog w r b0 45 v) (h : DataW.Trod enc Try.prog w base spare held 45 v d p) : ∃ (s : Int × Int) (n : Int), v = .agg #[.int .i64 s.1, .int .i64 s.2, .int .i64 n] := by
  obtain ⟨cs, rfl, hsz⟩ := okWide_struct Try.underlying45 hv
  obtain ⟨c0, c1, c2, rfl⟩ := arrD3 (hsz.trans cells_load)
  obtain ⟨fuel, hf⟩ := h
  obtain ⟨y0, y1, n, _, _, h0, h1⟩ := trod_struct2 Try.underlying45 hf
  simp only [cells_intD, cells_spD] at h0 h1
  obtain ⟨s, e0, e1⟩ := span_cellsD (c0 := c0) (c1 := c1) (by simpa [Value.cells] using h0)
  obtain ⟨m, e2, _, _⟩ := DataW.trod_int Try.underlying3 (by simpa [Value.cells] using h1)
  simp at e2
  subst e0 e1 e2
  exact ⟨s, m, rfl⟩
theorem sinking_open {w : World} {base : Nat} {spare : Nat → Bool} {held : Bool} {r : Reach} {b0 : Nat} {v : Value} {d : DataW H} {p : List MemPlace}
    (hv : Value.okWide Try.prog w r b0 53 v) (h : DataW.Trod enc Try.prog w base spare held 53 v d p) : ∃ (s u : Int × Int), v = .agg #[.int .i64 s.1, .int .i64 s.2, .int .i64 u.1, .int .i64 u.2] := by
  obtain ⟨cs, rfl, hsz⟩ := okWide_struct Try.underlying53 hv
  obtain ⟨c0, c1, c2, c3, rfl⟩ := arrD4 (hsz.trans cells_sink)
  obtain ⟨fuel, hf⟩ := h
  obtain ⟨y0, y1, n, _, _, h0, h1⟩ := trod_struct2 Try.underlying53 hf
  simp only [cells_spD] at h0 h1
  obtain ⟨s, e0, e1⟩ := span_cellsD (c0 := c0) (c1 := c1) (by simpa [Value.cells] using h0)
  obtain ⟨u, e2, e3⟩ := span_cellsD (c0 := c2) (c1 := c3) (by simpa [Value.cells] using h1)
  subst e0 e1 e2 e3
  exact ⟨s, u, rfl⟩
theorem int_openD {w : World} {base : Nat} {spare : Nat → Bool} {held : Bool} {r : Reach} {b0 : Nat} {v : Value} {d : DataW H} {p : List MemPlace}
    (hv : Value.okWide Try.prog w r b0 3 v) (_ : DataW.Trod enc Try.prog w base spare held 3 v d p) : ∃ n : Int, v = .int .i64 n := by
  obtain ⟨n, e⟩ := okWide_int Try.underlying3 hv
  exact ⟨n, e⟩
end
end Go.Proofs.Ythhokiigdgpmcaa

/- swashplatelaw02.RotorKept returns true at every input, and the input reads as it did: no condition. -/
namespace Go.Proofs.Ythhokiigdgpmcaa
open Go.RowKit Go.WideShapes Go.ChangeShapes Go.ChangeAt Go.Joins

set_option maxRecDepth 100000 in
theorem kept_lifted (os : Os) (started : os.Started) (H : Type) (enc : TypeId × Value → H) :
    ReturnsInHanded {} Try.checked os 12 .any (Rows.rotorKeptSpec.pre6 enc Try.prog Try.f12 Rows.rotorKeptRow.domain false) (Rows.rotorKeptSpec.post enc Try.prog Try.f12 false true false false) := by
  refine returnsInHanded_of_change (C := Try.checked) own started (by kernel_rfl) Try.func12
    (ChangeSpec.witness6 (enc := enc) (C := Try.checked) false ⟨#[], #[.agg #[.slice none 0 0, .slice none 0 0, .slice none 0 0, .slice none 0 0, .slice none 0 0, .slice none 0 0, .slice none 0 0, .slice none 0 0, .slice none 0 0, .slice none 0 0, .slice none 0 0, .slice none 0 0, .slice none 0 0, .slice none 0 0, .slice none 0 0, .slice none 0 0, .slice none 0 0, .slice none 0 0, .slice none 0 0, .slice none 0 0, .slice none 0 0, .slice none 0 0, .slice none 0 0, .slice none 0 0, .int .i64 0, .int .i64 0], .agg #[.int .i64 0, .int .i64 0, .int .i64 0, .int .i64 0, .int .i64 0, .int .i64 0, .int .i64 0, .int .i64 0], .agg #[.int .i64 0, .int .i64 0, .int .i64 0, .int .i64 0, .int .i64 0, .int .i64 0, .int .i64 0, .int .i64 0, .int .i64 0, .int .i64 0, .int .i64 0, .int .i64 0, .int .i64 0, .int .i64 0, .int .i64 0, .int .i64 0]], []⟩ 8 (by kernel_rfl) (by kernel_rfl) (by kernel_rfl) (by kernel_rfl)) ?_
  intro W base args ds gs before hval0 hW hcnd _
  have hval : ∀ (j : Nat) t v, Try.f12.params[j]? = some t → args[j]? = some v → Value.okWide Try.prog W .any base t v := hval0
  have hW' := hW
  obtain ⟨p, q, hA0, hV, rfl, hfz, hnd⟩ := hW
  have hA : DataW.TrodAll enc Try.prog W 0 (fun _ => true) true Try.f12.params.toList args.toList ds p := hA0
  rw [Try.params12] at hA hval
  obtain ⟨v0, v1, v2, d0, d1, d2, p0, p1, p2, rfl, rfl, rfl, h0, h1, h2⟩ := trodAll_three hA
  obtain ⟨rfl, rfl⟩ := trodVars_none hV
  obtain ⟨r0, rfl, rg0⟩ := rotor_open (hval 0 27 v0 rfl rfl) h0
  obtain ⟨a1, rfl⟩ := air_open (hval 1 36 v1 rfl rfl) h1
  obtain ⟨n0, n1, n2, n3, n4, n5, n6, n7, n8, n9, n10, n11, sp, ab, rfl⟩ := less_open (hval 2 67 v2 rfl rfl) h2
  clear hA0 hval0
  simp only [List.append_nil] at hW'
  have hlt : ∀ x ∈ p0 ++ p1 ++ p2, x.block < W.heap.size := fun x hx => hW'.lt x hx
  refine (law_kept works2_any W r0 rg0 a1 n0 n1 n2 n3 n4 n5 n6 n7 n8 n9 n10 n11 sp ab).mono fun e W' ⟨he, hb⟩ => ?_
  subst he
  exact ⟨_, rfl, law_post hW' (by kernel_rfl) Try.underlying4 rfl rfl (fun sp hsp => (by simp only [List.append_assoc]; exact trodAll_mk3 (again (by kernel_rfl) (of_decide_eq_true (by kernel_rfl)) h0 hb (fun x hx => hlt x (List.mem_append_left _ (List.mem_append_left _ hx))) (fun x hx => hsp x (List.mem_append_left _ (List.mem_append_left _ hx)))) (again (by kernel_rfl) (of_decide_eq_true (by kernel_rfl)) h1 hb (fun x hx => hlt x (List.mem_append_left _ (List.mem_append_right _ hx))) (fun x hx => hsp x (List.mem_append_left _ (List.mem_append_right _ hx)))) (again (by kernel_rfl) (of_decide_eq_true (by kernel_rfl)) h2 hb (fun x hx => hlt x (List.mem_append_right _ hx)) (fun x hx => hsp x (List.mem_append_right _ hx))))) hb⟩

theorem kept_holds : Rows.RotorKeptSaid :=
  OpenClaim.holds_of_wide 12 Try.f12 rfl rfl rfl rfl rfl rfl rfl ⟨rfl, rfl, rfl, rfl, rfl⟩ rfl rfl rfl rfl rfl (by kernel_rfl) Try.func12 (by kernel_rfl)
    (of_decide_eq_true (by kernel_rfl)) (by unfold Func.isWrapper; first | (rw [if_pos (by decide +kernel)]; kernel_rfl) | (rw [if_neg (by decide +kernel)]; exact ⟨rfl, rfl⟩))
    (fun os started H enc _ => kept_lifted os started H enc)
#print axioms kept_holds

end Go.Proofs.Ythhokiigdgpmcaa

/- Contracts of the functions that the statement reaches: DChkB, DOpen. -/
import Derived.Test.YthhokiigdgpmcaaM8
import Derived.Test.YthhokiigdgpmcaaM10
import Derived.Test.YthhokiigdgpmcaaM11
import Derived.Test.YthhokiigdgpmcaaM6
import Derived.Deep.Strs
import Derived.WideShapes

/- Check of layer 2's reference. -/
namespace Go.Proofs.Ythhokiigdgpmcaa
open Go.RowKit

set_option maxRecDepth 100000
theorem rcheck_f1 (r : RO) (w : World) (rg : RG w r) (e1 : filB 0 100000 r.h = false) : Calls Try.prog 18 #[.agg #[.slice r.h.ax r.h.X.length r.h.cx, .slice r.h.ay r.h.Y.length r.h.cy, .slice r.h.av r.h.V.length r.h.cv, .slice r.g.ax r.g.X.length r.g.cx, .slice r.g.ay r.g.Y.length r.g.cy, .slice r.g.av r.g.V.length r.g.cv, .slice r.l.ax r.l.X.length r.l.cx, .slice r.l.ay r.l.Y.length r.l.cy, .slice r.l.av r.l.V.length r.l.cv, .slice r.p.ax r.p.X.length r.p.cx, .slice r.p.ay r.p.Y.length r.p.cy, .slice r.p.av r.p.V.length r.p.cv, .slice r.n.ax r.n.X.length r.n.cx, .slice r.n.ay r.n.Y.length r.n.cy, .slice r.n.av r.n.V.length r.n.cv, .slice r.a.ax r.a.X.length r.a.cx, .slice r.a.ay r.a.Y.length r.a.cy, .slice r.a.av r.a.V.length r.a.cv, .slice r.b.ax r.b.X.length r.b.cx, .slice r.b.ay r.b.Y.length r.b.cy, .slice r.b.av r.b.V.length r.b.cv, .slice r.d.ax r.d.X.length r.d.cx, .slice r.d.ay r.d.Y.length r.d.cy, .slice r.d.av r.d.V.length r.d.cv, .int .i64 r.cl, .int .i64 r.bu]] w fun e w' => e = .returned (.int .i64 20) ∧ Below w.heap.size w w' := by
  have H1 := Lib.hid (fun (W : World) (hW : Below w.heap.size w W) => filled_any 0 100000 r.h W (rg.h.below hW))
  rw [e1] at H1
  clear rg e1
  go_enter Try.func18, Try.ntmps18
  go_wp2_with (first
    | (go_at_call_of 55 (Value.agg #[.slice r.h.ax r.h.X.length r.h.cx, .slice r.h.ay r.h.Y.length r.h.cy, .slice r.h.av r.h.V.length r.h.cv]); refine Calls.mono (H1.out _ (by go_grown)) ?_; rintro e w1 ⟨rfl, hb1⟩; have K1 := (BK.new (w := w) (cs := #[.slice r.h.ax r.h.X.length r.h.cx, .slice r.h.ay r.h.Y.length r.h.cy, .slice r.h.av r.h.V.length r.h.cv, .slice r.g.ax r.g.X.length r.g.cx, .slice r.g.ay r.g.Y.length r.g.cy, .slice r.g.av r.g.V.length r.g.cv, .slice r.l.ax r.l.X.length r.l.cx, .slice r.l.ay r.l.Y.length r.l.cy, .slice r.l.av r.l.V.length r.l.cv, .slice r.p.ax r.p.X.length r.p.cx, .slice r.p.ay r.p.Y.length r.p.cy, .slice r.p.av r.p.V.length r.p.cv, .slice r.n.ax r.n.X.length r.n.cx, .slice r.n.ay r.n.Y.length r.n.cy, .slice r.n.av r.n.V.length r.n.cv, .slice r.a.ax r.a.X.length r.a.cx, .slice r.a.ay r.a.Y.length r.a.cy, .slice r.a.av r.a.V.length r.a.cv, .slice r.b.ax r.b.X.length r.b.cx, .slice r.b.ay r.b.Y.length r.b.cy, .slice r.b.av r.b.V.length r.b.cv, .slice r.d.ax r.d.X.length r.d.cx, .slice r.d.ay r.d.Y.length r.d.cy, .slice r.d.av r.d.V.length r.d.cv, .int .i64 r.cl, .int .i64 r.bu]) (T := 27)).keep hb1; have c1 := K1.cell; have l1 := K1.lt; have HB1 := Lib.hid (Below.trans (show Below w.heap.size w _ by go_grown) (hb1.mono (by simp <;> omega))); clear hb1))
  go_ret
  exact ⟨rfl, HB1.out⟩
theorem rcheck_f2 (r : RO) (w : World) (rg : RG w r) (e1 : filB 0 100000 r.h = true) (e2 : filB 0 100 r.g = false) : Calls Try.prog 18 #[.agg #[.slice r.h.ax r.h.X.length r.h.cx, .slice r.h.ay r.h.Y.length r.h.cy, .slice r.h.av r.h.V.length r.h.cv, .slice r.g.ax r.g.X.length r.g.cx, .slice r.g.ay r.g.Y.length r.g.cy, .slice r.g.av r.g.V.length r.g.cv, .slice r.l.ax r.l.X.length r.l.cx, .slice r.l.ay r.l.Y.length r.l.cy, .slice r.l.av r.l.V.length r.l.cv, .slice r.p.ax r.p.X.length r.p.cx, .slice r.p.ay r.p.Y.length r.p.cy, .slice r.p.av r.p.V.length r.p.cv, .slice r.n.ax r.n.X.length r.n.cx, .slice r.n.ay r.n.Y.length r.n.cy, .slice r.n.av r.n.V.length r.n.cv, .slice r.a.ax r.a.X.length r.a.cx, .slice r.a.ay r.a.Y.length r.a.cy, .slice r.a.av r.a.V.length r.a.cv, .slice r.b.ax r.b.X.length r.b.cx, .slice r.b.ay r.b.Y.length r.b.cy, .slice r.b.av r.b.V.length r.b.cv, .slice r.d.ax r.d.X.length r.d.cx, .slice r.d.ay r.d.Y.length r.d.cy, .slice r.d.av r.d.V.length r.d.cv, .int .i64 r.cl, .int .i64 r.bu]] w fun e w' => e = .returned (.int .i64 20) ∧ Below w.heap.size w w' := by
  have H1 := Lib.hid (fun (W : World) (hW : Below w.heap.size w W) => filled_any 0 100000 r.h W (rg.h.below hW))
  rw [e1] at H1
  have H2 := Lib.hid (fun (W : World) (hW : Below w.heap.size w W) => filled_any 0 100 r.g W (rg.g.below hW))
  rw [e2] at H2
  clear rg e1 e2
  go_enter Try.func18, Try.ntmps18
  go_wp2_with (first
    | (go_at_call_of 55 (Value.agg #[.slice r.h.ax r.h.X.length r.h.cx, .slice r.h.ay r.h.Y.length r.h.cy, .slice r.h.av r.h.V.length r.h.cv]); refine Calls.mono (H1.out _ (by go_grown)) ?_; rintro e w1 ⟨rfl, hb1⟩; have K1 := (BK.new (w := w) (cs := #[.slice r.h.ax r.h.X.length r.h.cx, .slice r.h.ay r.h.Y.length r.h.cy, .slice r.h.av r.h.V.length r.h.cv, .slice r.g.ax r.g.X.length r.g.cx, .slice r.g.ay r.g.Y.length r.g.cy, .slice r.g.av r.g.V.length r.g.cv, .slice r.l.ax r.l.X.length r.l.cx, .slice r.l.ay r.l.Y.length r.l.cy, .slice r.l.av r.l.V.length r.l.cv, .slice r.p.ax r.p.X.length r.p.cx, .slice r.p.ay r.p.Y.length r.p.cy, .slice r.p.av r.p.V.length r.p.cv, .slice r.n.ax r.n.X.length r.n.cx, .slice r.n.ay r.n.Y.length r.n.cy, .slice r.n.av r.n.V.length r.n.cv, .slice r.a.ax r.a.X.length r.a.cx, .slice r.a.ay r.a.Y.length r.a.cy, .slice r.a.av r.a.V.length r.a.cv, .slice r.b.ax r.b.X.length r.b.cx, .slice r.b.ay r.b.Y.length r.b.cy, .slice r.b.av r.b.V.length r.b.cv, .slice r.d.ax r.d.X.length r.d.cx, .slice r.d.ay r.d.Y.length r.d.cy, .slice r.d.av r.d.V.length r.d.cv, .int .i64 r.cl, .int .i64 r.bu]) (T := 27)).keep hb1; have c1 := K1.cell; have l1 := K1.lt; have HB1 := Lib.hid (Below.trans (show Below w.heap.size w _ by go_grown) (hb1.mono (by simp <;> omega))); clear hb1)
    | (go_at_call_of 55 (Value.agg #[.slice r.g.ax r.g.X.length r.g.cx, .slice r.g.ay r.g.Y.length r.g.cy, .slice r.g.av r.g.V.length r.g.cv]); refine Calls.mono (H2.out _ HB1.out) ?_; rintro e w2 ⟨rfl, hb2⟩; have K2 := K1.keep hb2; have c2 := K2.cell; have l2 := K2.lt; have HB2 := Lib.hid (HB1.out.trans (hb2.mono HB1.out.size)); clear hb2 c1 l1))
  go_ret
  exact ⟨rfl, HB2.out⟩
theorem rcheck_f3 (r : RO) (w : World) (rg : RG w r) (e1 : filB 0 100000 r.h = true) (e2 : filB 0 100 r.g = true) (e3 : filB 0 100000 r.l = false) : Calls Try.prog 18 #[.agg #[.slice r.h.ax r.h.X.length r.h.cx, .slice r.h.ay r.h.Y.length r.h.cy, .slice r.h.av r.h.V.length r.h.cv, .slice r.g.ax r.g.X.length r.g.cx, .slice r.g.ay r.g.Y.length r.g.cy, .slice r.g.av r.g.V.length r.g.cv, .slice r.l.ax r.l.X.length r.l.cx, .slice r.l.ay r.l.Y.length r.l.cy, .slice r.l.av r.l.V.length r.l.cv, .slice r.p.ax r.p.X.length r.p.cx, .slice r.p.ay r.p.Y.length r.p.cy, .slice r.p.av r.p.V.length r.p.cv, .slice r.n.ax r.n.X.length r.n.cx, .slice r.n.ay r.n.Y.length r.n.cy, .slice r.n.av r.n.V.length r.n.cv, .slice r.a.ax r.a.X.length r.a.cx, .slice r.a.ay r.a.Y.length r.a.cy, .slice r.a.av r.a.V.length r.a.cv, .slice r.b.ax r.b.X.length r.b.cx, .slice r.b.ay r.b.Y.length r.b.cy, .slice r.b.av r.b.V.length r.b.cv, .slice r.d.ax r.d.X.length r.d.cx, .slice r.d.ay r.d.Y.length r.d.cy, .slice r.d.av r.d.V.length r.d.cv, .int .i64 r.cl, .int .i64 r.bu]] w fun e w' => e = .returned (.int .i64 20) ∧ Below w.heap.size w w' := by
  have H1 := Lib.hid (fun (W : World) (hW : Below w.heap.size w W) => filled_any 0 100000 r.h W (rg.h.below hW))
  rw [e1] at H1
  have H2 := Lib.hid (fun (W : World) (hW : Below w.heap.size w W) => filled_any 0 100 r.g W (rg.g.below hW))
  rw [e2] at H2
  have H3 := Lib.hid (fun (W : World) (hW : Below w.heap.size w W) => filled_any 0 100000 r.l W (rg.l.below hW))
  rw [e3] at H3
  clear rg e1 e2 e3
  go_enter Try.func18, Try.ntmps18
  go_wp2_with (first
    | (go_at_call_of 55 (Value.agg #[.slice r.h.ax r.h.X.length r.h.cx, .slice r.h.ay r.h.Y.length r.h.cy, .slice r.h.av r.h.V.length r.h.cv]); refine Calls.mono (H1.out _ (by go_grown)) ?_; rintro e w1 ⟨rfl, hb1⟩; have K1 := (BK.new (w := w) (cs := #[.slice r.h.ax r.h.X.length r.h.cx, .slice r.h.ay r.h.Y.length r.h.cy, .slice r.h.av r.h.V.length r.h.cv, .slice r.g.ax r.g.X.length r.g.cx, .slice r.g.ay r.g.Y.length r.g.cy, .slice r.g.av r.g.V.length r.g.cv, .slice r.l.ax r.l.X.length r.l.cx, .slice r.l.ay r.l.Y.length r.l.cy, .slice r.l.av r.l.V.length r.l.cv, .slice r.p.ax r.p.X.length r.p.cx, .slice r.p.ay r.p.Y.length r.p.cy, .slice r.p.av r.p.V.length r.p.cv, .slice r.n.ax r.n.X.length r.n.cx, .slice r.n.ay r.n.Y.length r.n.cy, .slice r.n.av r.n.V.length r.n.cv, .slice r.a.ax r.a.X.length r.a.cx, .slice r.a.ay r.a.Y.length r.a.cy, .slice r.a.av r.a.V.length r.a.cv, .slice r.b.ax r.b.X.length r.b.cx, .slice r.b.ay r.b.Y.length r.b.cy, .slice r.b.av r.b.V.length r.b.cv, .slice r.d.ax r.d.X.length r.d.cx, .slice r.d.ay r.d.Y.length r.d.cy, .slice r.d.av r.d.V.length r.d.cv, .int .i64 r.cl, .int .i64 r.bu]) (T := 27)).keep hb1; have c1 := K1.cell; have l1 := K1.lt; have HB1 := Lib.hid (Below.trans (show Below w.heap.size w _ by go_grown) (hb1.mono (by simp <;> omega))); clear hb1)
    | (go_at_call_of 55 (Value.agg #[.slice r.g.ax r.g.X.length r.g.cx, .slice r.g.ay r.g.Y.length r.g.cy, .slice r.g.av r.g.V.length r.g.cv]); refine Calls.mono (H2.out _ HB1.out) ?_; rintro e w2 ⟨rfl, hb2⟩; have K2 := K1.keep hb2; have c2 := K2.cell; have l2 := K2.lt; have HB2 := Lib.hid (HB1.out.trans (hb2.mono HB1.out.size)); clear hb2 c1 l1)
    | (go_at_call_of 55 (Value.agg #[.slice r.l.ax r.l.X.length r.l.cx, .slice r.l.ay r.l.Y.length r.l.cy, .slice r.l.av r.l.V.length r.l.cv]); refine Calls.mono (H3.out _ HB2.out) ?_; rintro e w3 ⟨rfl, hb3⟩; have K3 := K2.keep hb3; have c3 := K3.cell; have l3 := K3.lt; have HB3 := Lib.hid (HB2.out.trans (hb3.mono HB2.out.size)); clear hb3 c2 l2))
  go_ret
  exact ⟨rfl, HB3.out⟩
theorem rcheck_f4 (r : RO) (w : World) (rg : RG w r) (e1 : filB 0 100000 r.h = true) (e2 : filB 0 100 r.g = true) (e3 : filB 0 100000 r.l = true) (e4 : filB 0 100000 r.p = false) : Calls Try.prog 18 #[.agg #[.slice r.h.ax r.h.X.length r.h.cx, .slice r.h.ay r.h.Y.length r.h.cy, .slice r.h.av r.h.V.length r.h.cv, .slice r.g.ax r.g.X.length r.g.cx, .slice r.g.ay r.g.Y.length r.g.cy, .slice r.g.av r.g.V.length r.g.cv, .slice r.l.ax r.l.X.length r.l.cx, .slice r.l.ay r.l.Y.length r.l.cy, .slice r.l.av r.l.V.length r.l.cv, .slice r.p.ax r.p.X.length r.p.cx, .slice r.p.ay r.p.Y.length r.p.cy, .slice r.p.av r.p.V.length r.p.cv, .slice r.n.ax r.n.X.length r.n.cx, .slice r.n.ay r.n.Y.length r.n.cy, .slice r.n.av r.n.V.length r.n.cv, .slice r.a.ax r.a.X.length r.a.cx, .slice r.a.ay r.a.Y.length r.a.cy, .slice r.a.av r.a.V.length r.a.cv, .slice r.b.ax r.b.X.length r.b.cx, .slice r.b.ay r.b.Y.length r.b.cy, .slice r.b.av r.b.V.length r.b.cv, .slice r.d.ax r.d.X.length r.d.cx, .slice r.d.ay r.d.Y.length r.d.cy, .slice r.d.av r.d.V.length r.d.cv, .int .i64 r.cl, .int .i64 r.bu]] w fun e w' => e = .returned (.int .i64 20) ∧ Below w.heap.size w w' := by
  have H1 := Lib.hid (fun (W : World) (hW : Below w.heap.size w W) => filled_any 0 100000 r.h W (rg.h.below hW))
  rw [e1] at H1
  have H2 := Lib.hid (fun (W : World) (hW : Below w.heap.size w W) => filled_any 0 100 r.g W (rg.g.below hW))
  rw [e2] at H2
  have H3 := Lib.hid (fun (W : World) (hW : Below w.heap.size w W) => filled_any 0 100000 r.l W (rg.l.below hW))
  rw [e3] at H3
  have H4 := Lib.hid (fun (W : World) (hW : Below w.heap.size w W) => filled_any 0 100000 r.p W (rg.p.below hW))
  rw [e4] at H4
  clear rg e1 e2 e3 e4
  go_enter Try.func18, Try.ntmps18
  go_wp2_with (first
    | (go_at_call_of 55 (Value.agg #[.slice r.h.ax r.h.X.length r.h.cx, .slice r.h.ay r.h.Y.length r.h.cy, .slice r.h.av r.h.V.length r.h.cv]); refine Calls.mono (H1.out _ (by go_grown)) ?_; rintro e w1 ⟨rfl, hb1⟩; have K1 := (BK.new (w := w) (cs := #[.slice r.h.ax r.h.X.length r.h.cx, .slice r.h.ay r.h.Y.length r.h.cy, .slice r.h.av r.h.V.length r.h.cv, .slice r.g.ax r.g.X.length r.g.cx, .slice r.g.ay r.g.Y.length r.g.cy, .slice r.g.av r.g.V.length r.g.cv, .slice r.l.ax r.l.X.length r.l.cx, .slice r.l.ay r.l.Y.length r.l.cy, .slice r.l.av r.l.V.length r.l.cv, .slice r.p.ax r.p.X.length r.p.cx, .slice r.p.ay r.p.Y.length r.p.cy, .slice r.p.av r.p.V.length r.p.cv, .slice r.n.ax r.n.X.length r.n.cx, .slice r.n.ay r.n.Y.length r.n.cy, .slice r.n.av r.n.V.length r.n.cv, .slice r.a.ax r.a.X.length r.a.cx, .slice r.a.ay r.a.Y.length r.a.cy, .slice r.a.av r.a.V.length r.a.cv, .slice r.b.ax r.b.X.length r.b.cx, .slice r.b.ay r.b.Y.length r.b.cy, .slice r.b.av r.b.V.length r.b.cv, .slice r.d.ax r.d.X.length r.d.cx, .slice r.d.ay r.d.Y.length r.d.cy, .slice r.d.av r.d.V.length r.d.cv, .int .i64 r.cl, .int .i64 r.bu]) (T := 27)).keep hb1; have c1 := K1.cell; have l1 := K1.lt; have HB1 := Lib.hid (Below.trans (show Below w.heap.size w _ by go_grown) (hb1.mono (by simp <;> omega))); clear hb1)
    | (go_at_call_of 55 (Value.agg #[.slice r.g.ax r.g.X.length r.g.cx, .slice r.g.ay r.g.Y.length r.g.cy, .slice r.g.av r.g.V.length r.g.cv]); refine Calls.mono (H2.out _ HB1.out) ?_; rintro e w2 ⟨rfl, hb2⟩; have K2 := K1.keep hb2; have c2 := K2.cell; have l2 := K2.lt; have HB2 := Lib.hid (HB1.out.trans (hb2.mono HB1.out.size)); clear hb2 c1 l1)
    | (go_at_call_of 55 (Value.agg #[.slice r.l.ax r.l.X.length r.l.cx, .slice r.l.ay r.l.Y.length r.l.cy, .slice r.l.av r.l.V.length r.l.cv]); refine Calls.mono (H3.out _ HB2.out) ?_; rintro e w3 ⟨rfl, hb3⟩; have K3 := K2.keep hb3; have c3 := K3.cell; have l3 := K3.lt; have HB3 := Lib.hid (HB2.out.trans (hb3.mono HB2.out.size)); clear hb3 c2 l2)
    | (go_at_call_of 55 (Value.agg #[.slice r.p.ax r.p.X.length r.p.cx, .slice r.p.ay r.p.Y.length r.p.cy, .slice r.p.av r.p.V.length r.p.cv]); refine Calls.mono (H4.out _ HB3.out) ?_; rintro e w4 ⟨rfl, hb4⟩; have K4 := K3.keep hb4; have c4 := K4.cell; have l4 := K4.lt; have HB4 := Lib.hid (HB3.out.trans (hb4.mono HB3.out.size)); clear hb4 c3 l3))
  go_ret
  exact ⟨rfl, HB4.out⟩
theorem rcheck_f5 (r : RO) (w : World) (rg : RG w r) (e1 : filB 0 100000 r.h = true) (e2 : filB 0 100 r.g = true) (e3 : filB 0 100000 r.l = true) (e4 : filB 0 100000 r.p = true) (e5 : filB 0 10000 r.n = false) : Calls Try.prog 18 #[.agg #[.slice r.h.ax r.h.X.length r.h.cx, .slice r.h.ay r.h.Y.length r.h.cy, .slice r.h.av r.h.V.length r.h.cv, .slice r.g.ax r.g.X.length r.g.cx, .slice r.g.ay r.g.Y.length r.g.cy, .slice r.g.av r.g.V.length r.g.cv, .slice r.l.ax r.l.X.length r.l.cx, .slice r.l.ay r.l.Y.length r.l.cy, .slice r.l.av r.l.V.length r.l.cv, .slice r.p.ax r.p.X.length r.p.cx, .slice r.p.ay r.p.Y.length r.p.cy, .slice r.p.av r.p.V.length r.p.cv, .slice r.n.ax r.n.X.length r.n.cx, .slice r.n.ay r.n.Y.length r.n.cy, .slice r.n.av r.n.V.length r.n.cv, .slice r.a.ax r.a.X.length r.a.cx, .slice r.a.ay r.a.Y.length r.a.cy, .slice r.a.av r.a.V.length r.a.cv, .slice r.b.ax r.b.X.length r.b.cx, .slice r.b.ay r.b.Y.length r.b.cy, .slice r.b.av r.b.V.length r.b.cv, .slice r.d.ax r.d.X.length r.d.cx, .slice r.d.ay r.d.Y.length r.d.cy, .slice r.d.av r.d.V.length r.d.cv, .int .i64 r.cl, .int .i64 r.bu]] w fun e w' => e = .returned (.int .i64 20) ∧ Below w.heap.size w w' := by
  have H1 := Lib.hid (fun (W : World) (hW : Below w.heap.size w W) => filled_any 0 100000 r.h W (rg.h.below hW))
  rw [e1] at H1
  have H2 := Lib.hid (fun (W : World) (hW : Below w.heap.size w W) => filled_any 0 100 r.g W (rg.g.below hW))
  rw [e2] at H2
  have H3 := Lib.hid (fun (W : World) (hW : Below w.heap.size w W) => filled_any 0 100000 r.l W (rg.l.below hW))
  rw [e3] at H3
  have H4 := Lib.hid (fun (W : World) (hW : Below w.heap.size w W) => filled_any 0 100000 r.p W (rg.p.below hW))
  rw [e4] at H4
  have H5 := Lib.hid (fun (W : World) (hW : Below w.heap.size w W) => filled_any 0 10000 r.n W (rg.n.below hW))
  rw [e5] at H5
  clear rg e1 e2 e3 e4 e5
  go_enter Try.func18, Try.ntmps18
  go_wp2_with (first
    | (go_at_call_of 55 (Value.agg #[.slice r.h.ax r.h.X.length r.h.cx, .slice r.h.ay r.h.Y.length r.h.cy, .slice r.h.av r.h.V.length r.h.cv]); refine Calls.mono (H1.out _ (by go_grown)) ?_; rintro e w1 ⟨rfl, hb1⟩; have K1 := (BK.new (w := w) (cs := #[.slice r.h.ax r.h.X.length r.h.cx, .slice r.h.ay r.h.Y.length r.h.cy, .slice r.h.av r.h.V.length r.h.cv, .slice r.g.ax r.g.X.length r.g.cx, .slice r.g.ay r.g.Y.length r.g.cy, .slice r.g.av r.g.V.length r.g.cv, .slice r.l.ax r.l.X.length r.l.cx, .slice r.l.ay r.l.Y.length r.l.cy, .slice r.l.av r.l.V.length r.l.cv, .slice r.p.ax r.p.X.length r.p.cx, .slice r.p.ay r.p.Y.length r.p.cy, .slice r.p.av r.p.V.length r.p.cv, .slice r.n.ax r.n.X.length r.n.cx, .slice r.n.ay r.n.Y.length r.n.cy, .slice r.n.av r.n.V.length r.n.cv, .slice r.a.ax r.a.X.length r.a.cx, .slice r.a.ay r.a.Y.length r.a.cy, .slice r.a.av r.a.V.length r.a.cv, .slice r.b.ax r.b.X.length r.b.cx, .slice r.b.ay r.b.Y.length r.b.cy, .slice r.b.av r.b.V.length r.b.cv, .slice r.d.ax r.d.X.length r.d.cx, .slice r.d.ay r.d.Y.length r.d.cy, .slice r.d.av r.d.V.length r.d.cv, .int .i64 r.cl, .int .i64 r.bu]) (T := 27)).keep hb1; have c1 := K1.cell; have l1 := K1.lt; have HB1 := Lib.hid (Below.trans (show Below w.heap.size w _ by go_grown) (hb1.mono (by simp <;> omega))); clear hb1)
    | (go_at_call_of 55 (Value.agg #[.slice r.g.ax r.g.X.length r.g.cx, .slice r.g.ay r.g.Y.length r.g.cy, .slice r.g.av r.g.V.length r.g.cv]); refine Calls.mono (H2.out _ HB1.out) ?_; rintro e w2 ⟨rfl, hb2⟩; have K2 := K1.keep hb2; have c2 := K2.cell; have l2 := K2.lt; have HB2 := Lib.hid (HB1.out.trans (hb2.mono HB1.out.size)); clear hb2 c1 l1)
    | (go_at_call_of 55 (Value.agg #[.slice r.l.ax r.l.X.length r.l.cx, .slice r.l.ay r.l.Y.length r.l.cy, .slice r.l.av r.l.V.length r.l.cv]); refine Calls.mono (H3.out _ HB2.out) ?_; rintro e w3 ⟨rfl, hb3⟩; have K3 := K2.keep hb3; have c3 := K3.cell; have l3 := K3.lt; have HB3 := Lib.hid (HB2.out.trans (hb3.mono HB2.out.size)); clear hb3 c2 l2)
    | (go_at_call_of 55 (Value.agg #[.slice r.p.ax r.p.X.length r.p.cx, .slice r.p.ay r.p.Y.length r.p.cy, .slice r.p.av r.p.V.length r.p.cv]); refine Calls.mono (H4.out _ HB3.out) ?_; rintro e w4 ⟨rfl, hb4⟩; have K4 := K3.keep hb4; have c4 := K4.cell; have l4 := K4.lt; have HB4 := Lib.hid (HB3.out.trans (hb4.mono HB3.out.size)); clear hb4 c3 l3)
    | (go_at_call_of 55 (Value.agg #[.slice r.n.ax r.n.X.length r.n.cx, .slice r.n.ay r.n.Y.length r.n.cy, .slice r.n.av r.n.V.length r.n.cv]); refine Calls.mono (H5.out _ HB4.out) ?_; rintro e w5 ⟨rfl, hb5⟩; have K5 := K4.keep hb5; have c5 := K5.cell; have l5 := K5.lt; have HB5 := Lib.hid (HB4.out.trans (hb5.mono HB4.out.size)); clear hb5 c4 l4))
  go_ret
  exact ⟨rfl, HB5.out⟩
theorem rcheck_f6 (r : RO) (w : World) (rg : RG w r) (e1 : filB 0 100000 r.h = true) (e2 : filB 0 100 r.g = true) (e3 : filB 0 100000 r.l = true) (e4 : filB 0 100000 r.p = true) (e5 : filB 0 10000 r.n = true) (e6 : filB 0 10000 r.a = false) : Calls Try.prog 18 #[.agg #[.slice r.h.ax r.h.X.length r.h.cx, .slice r.h.ay r.h.Y.length r.h.cy, .slice r.h.av r.h.V.length r.h.cv, .slice r.g.ax r.g.X.length r.g.cx, .slice r.g.ay r.g.Y.length r.g.cy, .slice r.g.av r.g.V.length r.g.cv, .slice r.l.ax r.l.X.length r.l.cx, .slice r.l.ay r.l.Y.length r.l.cy, .slice r.l.av r.l.V.length r.l.cv, .slice r.p.ax r.p.X.length r.p.cx, .slice r.p.ay r.p.Y.length r.p.cy, .slice r.p.av r.p.V.length r.p.cv, .slice r.n.ax r.n.X.length r.n.cx, .slice r.n.ay r.n.Y.length r.n.cy, .slice r.n.av r.n.V.length r.n.cv, .slice r.a.ax r.a.X.length r.a.cx, .slice r.a.ay r.a.Y.length r.a.cy, .slice r.a.av r.a.V.length r.a.cv, .slice r.b.ax r.b.X.length r.b.cx, .slice r.b.ay r.b.Y.length r.b.cy, .slice r.b.av r.b.V.length r.b.cv, .slice r.d.ax r.d.X.length r.d.cx, .slice r.d.ay r.d.Y.length r.d.cy, .slice r.d.av r.d.V.length r.d.cv, .int .i64 r.cl, .int .i64 r.bu]] w fun e w' => e = .returned (.int .i64 20) ∧ Below w.heap.size w w' := by
  have H1 := Lib.hid (fun (W : World) (hW : Below w.heap.size w W) => filled_any 0 100000 r.h W (rg.h.below hW))
  rw [e1] at H1
  have H2 := Lib.hid (fun (W : World) (hW : Below w.heap.size w W) => filled_any 0 100 r.g W (rg.g.below hW))
  rw [e2] at H2
  have H3 := Lib.hid (fun (W : World) (hW : Below w.heap.size w W) => filled_any 0 100000 r.l W (rg.l.below hW))
  rw [e3] at H3
  have H4 := Lib.hid (fun (W : World) (hW : Below w.heap.size w W) => filled_any 0 100000 r.p W (rg.p.below hW))
  rw [e4] at H4
  have H5 := Lib.hid (fun (W : World) (hW : Below w.heap.size w W) => filled_any 0 10000 r.n W (rg.n.below hW))
  rw [e5] at H5
  have H6 := Lib.hid (fun (W : World) (hW : Below w.heap.size w W) => filled_any 0 10000 r.a W (rg.a.below hW))
  rw [e6] at H6
  clear rg e1 e2 e3 e4 e5 e6
  go_enter Try.func18, Try.ntmps18
  go_wp2_with (first
    | (go_at_call_of 55 (Value.agg #[.slice r.h.ax r.h.X.length r.h.cx, .slice r.h.ay r.h.Y.length r.h.cy, .slice r.h.av r.h.V.length r.h.cv]); refine Calls.mono (H1.out _ (by go_grown)) ?_; rintro e w1 ⟨rfl, hb1⟩; have K1 := (BK.new (w := w) (cs := #[.slice r.h.ax r.h.X.length r.h.cx, .slice r.h.ay r.h.Y.length r.h.cy, .slice r.h.av r.h.V.length r.h.cv, .slice r.g.ax r.g.X.length r.g.cx, .slice r.g.ay r.g.Y.length r.g.cy, .slice r.g.av r.g.V.length r.g.cv, .slice r.l.ax r.l.X.length r.l.cx, .slice r.l.ay r.l.Y.length r.l.cy, .slice r.l.av r.l.V.length r.l.cv, .slice r.p.ax r.p.X.length r.p.cx, .slice r.p.ay r.p.Y.length r.p.cy, .slice r.p.av r.p.V.length r.p.cv, .slice r.n.ax r.n.X.length r.n.cx, .slice r.n.ay r.n.Y.length r.n.cy, .slice r.n.av r.n.V.length r.n.cv, .slice r.a.ax r.a.X.length r.a.cx, .slice r.a.ay r.a.Y.length r.a.cy, .slice r.a.av r.a.V.length r.a.cv, .slice r.b.ax r.b.X.length r.b.cx, .slice r.b.ay r.b.Y.length r.b.cy, .slice r.b.av r.b.V.length r.b.cv, .slice r.d.ax r.d.X.length r.d.cx, .slice r.d.ay r.d.Y.length r.d.cy, .slice r.d.av r.d.V.length r.d.cv, .int .i64 r.cl, .int .i64 r.bu]) (T := 27)).keep hb1; have c1 := K1.cell; have l1 := K1.lt; have HB1 := Lib.hid (Below.trans (show Below w.heap.size w _ by go_grown) (hb1.mono (by simp <;> omega))); clear hb1)
    | (go_at_call_of 55 (Value.agg #[.slice r.g.ax r.g.X.length r.g.cx, .slice r.g.ay r.g.Y.length r.g.cy, .slice r.g.av r.g.V.length r.g.cv]); refine Calls.mono (H2.out _ HB1.out) ?_; rintro e w2 ⟨rfl, hb2⟩; have K2 := K1.keep hb2; have c2 := K2.cell; have l2 := K2.lt; have HB2 := Lib.hid (HB1.out.trans (hb2.mono HB1.out.size)); clear hb2 c1 l1)
    | (go_at_call_of 55 (Value.agg #[.slice r.l.ax r.l.X.length r.l.cx, .slice r.l.ay r.l.Y.length r.l.cy, .slice r.l.av r.l.V.length r.l.cv]); refine Calls.mono (H3.out _ HB2.out) ?_; rintro e w3 ⟨rfl, hb3⟩; have K3 := K2.keep hb3; have c3 := K3.cell; have l3 := K3.lt; have HB3 := Lib.hid (HB2.out.trans (hb3.mono HB2.out.size)); clear hb3 c2 l2)
    | (go_at_call_of 55 (Value.agg #[.slice r.p.ax r.p.X.length r.p.cx, .slice r.p.ay r.p.Y.length r.p.cy, .slice r.p.av r.p.V.length r.p.cv]); refine Calls.mono (H4.out _ HB3.out) ?_; rintro e w4 ⟨rfl, hb4⟩; have K4 := K3.keep hb4; have c4 := K4.cell; have l4 := K4.lt; have HB4 := Lib.hid (HB3.out.trans (hb4.mono HB3.out.size)); clear hb4 c3 l3)
    | (go_at_call_of 55 (Value.agg #[.slice r.n.ax r.n.X.length r.n.cx, .slice r.n.ay r.n.Y.length r.n.cy, .slice r.n.av r.n.V.length r.n.cv]); refine Calls.mono (H5.out _ HB4.out) ?_; rintro e w5 ⟨rfl, hb5⟩; have K5 := K4.keep hb5; have c5 := K5.cell; have l5 := K5.lt; have HB5 := Lib.hid (HB4.out.trans (hb5.mono HB4.out.size)); clear hb5 c4 l4)
    | (go_at_call_of 55 (Value.agg #[.slice r.a.ax r.a.X.length r.a.cx, .slice r.a.ay r.a.Y.length r.a.cy, .slice r.a.av r.a.V.length r.a.cv]); refine Calls.mono (H6.out _ HB5.out) ?_; rintro e w6 ⟨rfl, hb6⟩; have K6 := K5.keep hb6; have c6 := K6.cell; have l6 := K6.lt; have HB6 := Lib.hid (HB5.out.trans (hb6.mono HB5.out.size)); clear hb6 c5 l5))
  go_ret
  exact ⟨rfl, HB6.out⟩
theorem rcheck_f7 (r : RO) (w : World) (rg : RG w r) (e1 : filB 0 100000 r.h = true) (e2 : filB 0 100 r.g = true) (e3 : filB 0 100000 r.l = true) (e4 : filB 0 100000 r.p = true) (e5 : filB 0 10000 r.n = true) (e6 : filB 0 10000 r.a = true) (e7 : filB 0 10000 r.b = false) : Calls Try.prog 18 #[.agg #[.slice r.h.ax r.h.X.length r.h.cx, .slice r.h.ay r.h.Y.length r.h.cy, .slice r.h.av r.h.V.length r.h.cv, .slice r.g.ax r.g.X.length r.g.cx, .slice r.g.ay r.g.Y.length r.g.cy, .slice r.g.av r.g.V.length r.g.cv, .slice r.l.ax r.l.X.length r.l.cx, .slice r.l.ay r.l.Y.length r.l.cy, .slice r.l.av r.l.V.length r.l.cv, .slice r.p.ax r.p.X.length r.p.cx, .slice r.p.ay r.p.Y.length r.p.cy, .slice r.p.av r.p.V.length r.p.cv, .slice r.n.ax r.n.X.length r.n.cx, .slice r.n.ay r.n.Y.length r.n.cy, .slice r.n.av r.n.V.length r.n.cv, .slice r.a.ax r.a.X.length r.a.cx, .slice r.a.ay r.a.Y.length r.a.cy, .slice r.a.av r.a.V.length r.a.cv, .slice r.b.ax r.b.X.length r.b.cx, .slice r.b.ay r.b.Y.length r.b.cy, .slice r.b.av r.b.V.length r.b.cv, .slice r.d.ax r.d.X.length r.d.cx, .slice r.d.ay r.d.Y.length r.d.cy, .slice r.d.av r.d.V.length r.d.cv, .int .i64 r.cl, .int .i64 r.bu]] w fun e w' => e = .returned (.int .i64 20) ∧ Below w.heap.size w w' := by
  have H1 := Lib.hid (fun (W : World) (hW : Below w.heap.size w W) => filled_any 0 100000 r.h W (rg.h.below hW))
  rw [e1] at H1
  have H2 := Lib.hid (fun (W : World) (hW : Below w.heap.size w W) => filled_any 0 100 r.g W (rg.g.below hW))
  rw [e2] at H2
  have H3 := Lib.hid (fun (W : World) (hW : Below w.heap.size w W) => filled_any 0 100000 r.l W (rg.l.below hW))
  rw [e3] at H3
  have H4 := Lib.hid (fun (W : World) (hW : Below w.heap.size w W) => filled_any 0 100000 r.p W (rg.p.below hW))
  rw [e4] at H4
  have H5 := Lib.hid (fun (W : World) (hW : Below w.heap.size w W) => filled_any 0 10000 r.n W (rg.n.below hW))
  rw [e5] at H5
  have H6 := Lib.hid (fun (W : World) (hW : Below w.heap.size w W) => filled_any 0 10000 r.a W (rg.a.below hW))
  rw [e6] at H6
  have H7 := Lib.hid (fun (W : World) (hW : Below w.heap.size w W) => filled_any 0 10000 r.b W (rg.b.below hW))
  rw [e7] at H7
  clear rg e1 e2 e3 e4 e5 e6 e7
  go_enter Try.func18, Try.ntmps18
  go_wp2_with (first
    | (go_at_call_of 55 (Value.agg #[.slice r.h.ax r.h.X.length r.h.cx, .slice r.h.ay r.h.Y.length r.h.cy, .slice r.h.av r.h.V.length r.h.cv]); refine Calls.mono (H1.out _ (by go_grown)) ?_; rintro e w1 ⟨rfl, hb1⟩; have K1 := (BK.new (w := w) (cs := #[.slice r.h.ax r.h.X.length r.h.cx, .slice r.h.ay r.h.Y.length r.h.cy, .slice r.h.av r.h.V.length r.h.cv, .slice r.g.ax r.g.X.length r.g.cx, .slice r.g.ay r.g.Y.length r.g.cy, .slice r.g.av r.g.V.length r.g.cv, .slice r.l.ax r.l.X.length r.l.cx, .slice r.l.ay r.l.Y.length r.l.cy, .slice r.l.av r.l.V.length r.l.cv, .slice r.p.ax r.p.X.length r.p.cx, .slice r.p.ay r.p.Y.length r.p.cy, .slice r.p.av r.p.V.length r.p.cv, .slice r.n.ax r.n.X.length r.n.cx, .slice r.n.ay r.n.Y.length r.n.cy, .slice r.n.av r.n.V.length r.n.cv, .slice r.a.ax r.a.X.length r.a.cx, .slice r.a.ay r.a.Y.length r.a.cy, .slice r.a.av r.a.V.length r.a.cv, .slice r.b.ax r.b.X.length r.b.cx, .slice r.b.ay r.b.Y.length r.b.cy, .slice r.b.av r.b.V.length r.b.cv, .slice r.d.ax r.d.X.length r.d.cx, .slice r.d.ay r.d.Y.length r.d.cy, .slice r.d.av r.d.V.length r.d.cv, .int .i64 r.cl, .int .i64 r.bu]) (T := 27)).keep hb1; have c1 := K1.cell; have l1 := K1.lt; have HB1 := Lib.hid (Below.trans (show Below w.heap.size w _ by go_grown) (hb1.mono (by simp <;> omega))); clear hb1)
    | (go_at_call_of 55 (Value.agg #[.slice r.g.ax r.g.X.length r.g.cx, .slice r.g.ay r.g.Y.length r.g.cy, .slice r.g.av r.g.V.length r.g.cv]); refine Calls.mono (H2.out _ HB1.out) ?_; rintro e w2 ⟨rfl, hb2⟩; have K2 := K1.keep hb2; have c2 := K2.cell; have l2 := K2.lt; have HB2 := Lib.hid (HB1.out.trans (hb2.mono HB1.out.size)); clear hb2 c1 l1)
    | (go_at_call_of 55 (Value.agg #[.slice r.l.ax r.l.X.length r.l.cx, .slice r.l.ay r.l.Y.length r.l.cy, .slice r.l.av r.l.V.length r.l.cv]); refine Calls.mono (H3.out _ HB2.out) ?_; rintro e w3 ⟨rfl, hb3⟩; have K3 := K2.keep hb3; have c3 := K3.cell; have l3 := K3.lt; have HB3 := Lib.hid (HB2.out.trans (hb3.mono HB2.out.size)); clear hb3 c2 l2)
    | (go_at_call_of 55 (Value.agg #[.slice r.p.ax r.p.X.length r.p.cx, .slice r.p.ay r.p.Y.length r.p.cy, .slice r.p.av r.p.V.length r.p.cv]); refine Calls.mono (H4.out _ HB3.out) ?_; rintro e w4 ⟨rfl, hb4⟩; have K4 := K3.keep hb4; have c4 := K4.cell; have l4 := K4.lt; have HB4 := Lib.hid (HB3.out.trans (hb4.mono HB3.out.size)); clear hb4 c3 l3)
    | (go_at_call_of 55 (Value.agg #[.slice r.n.ax r.n.X.length r.n.cx, .slice r.n.ay r.n.Y.length r.n.cy, .slice r.n.av r.n.V.length r.n.cv]); refine Calls.mono (H5.out _ HB4.out) ?_; rintro e w5 ⟨rfl, hb5⟩; have K5 := K4.keep hb5; have c5 := K5.cell; have l5 := K5.lt; have HB5 := Lib.hid (HB4.out.trans (hb5.mono HB4.out.size)); clear hb5 c4 l4)
    | (go_at_call_of 55 (Value.agg #[.slice r.a.ax r.a.X.length r.a.cx, .slice r.a.ay r.a.Y.length r.a.cy, .slice r.a.av r.a.V.length r.a.cv]); refine Calls.mono (H6.out _ HB5.out) ?_; rintro e w6 ⟨rfl, hb6⟩; have K6 := K5.keep hb6; have c6 := K6.cell; have l6 := K6.lt; have HB6 := Lib.hid (HB5.out.trans (hb6.mono HB5.out.size)); clear hb6 c5 l5)
    | (go_at_call_of 55 (Value.agg #[.slice r.b.ax r.b.X.length r.b.cx, .slice r.b.ay r.b.Y.length r.b.cy, .slice r.b.av r.b.V.length r.b.cv]); refine Calls.mono (H7.out _ HB6.out) ?_; rintro e w7 ⟨rfl, hb7⟩; have K7 := K6.keep hb7; have c7 := K7.cell; have l7 := K7.lt; have HB7 := Lib.hid (HB6.out.trans (hb7.mono HB6.out.size)); clear hb7 c6 l6))
  go_ret
  exact ⟨rfl, HB7.out⟩
theorem rcheck_f8 (r : RO) (w : World) (rg : RG w r) (e1 : filB 0 100000 r.h = true) (e2 : filB 0 100 r.g = true) (e3 : filB 0 100000 r.l = true) (e4 : filB 0 100000 r.p = true) (e5 : filB 0 10000 r.n = true) (e6 : filB 0 10000 r.a = true) (e7 : filB 0 10000 r.b = true) (e8 : filB 1 10000 r.d = false) : Calls Try.prog 18 #[.agg #[.slice r.h.ax r.h.X.length r.h.cx, .slice r.h.ay r.h.Y.length r.h.cy, .slice r.h.av r.h.V.length r.h.cv, .slice r.g.ax r.g.X.length r.g.cx, .slice r.g.ay r.g.Y.length r.g.cy, .slice r.g.av r.g.V.length r.g.cv, .slice r.l.ax r.l.X.length r.l.cx, .slice r.l.ay r.l.Y.length r.l.cy, .slice r.l.av r.l.V.length r.l.cv, .slice r.p.ax r.p.X.length r.p.cx, .slice r.p.ay r.p.Y.length r.p.cy, .slice r.p.av r.p.V.length r.p.cv, .slice r.n.ax r.n.X.length r.n.cx, .slice r.n.ay r.n.Y.length r.n.cy, .slice r.n.av r.n.V.length r.n.cv, .slice r.a.ax r.a.X.length r.a.cx, .slice r.a.ay r.a.Y.length r.a.cy, .slice r.a.av r.a.V.length r.a.cv, .slice r.b.ax r.b.X.length r.b.cx, .slice r.b.ay r.b.Y.length r.b.cy, .slice r.b.av r.b.V.length r.b.cv, .slice r.d.ax r.d.X.length r.d.cx, .slice r.d.ay r.d.Y.length r.d.cy, .slice r.d.av r.d.V.length r.d.cv, .int .i64 r.cl, .int .i64 r.bu]] w fun e w' => e = .returned (.int .i64 20) ∧ Below w.heap.size w w' := by
  have H1 := Lib.hid (fun (W : World) (hW : Below w.heap.size w W) => filled_any 0 100000 r.h W (rg.h.below hW))
  rw [e1] at H1
  have H2 := Lib.hid (fun (W : World) (hW : Below w.heap.size w W) => filled_any 0 100 r.g W (rg.g.below hW))
  rw [e2] at H2
  have H3 := Lib.hid (fun (W : World) (hW : Below w.heap.size w W) => filled_any 0 100000 r.l W (rg.l.below hW))
  rw [e3] at H3
  have H4 := Lib.hid (fun (W : World) (hW : Below w.heap.size w W) => filled_any 0 100000 r.p W (rg.p.below hW))
  rw [e4] at H4
  have H5 := Lib.hid (fun (W : World) (hW : Below w.heap.size w W) => filled_any 0 10000 r.n W (rg.n.below hW))
  rw [e5] at H5
  have H6 := Lib.hid (fun (W : World) (hW : Below w.heap.size w W) => filled_any 0 10000 r.a W (rg.a.below hW))
  rw [e6] at H6
  have H7 := Lib.hid (fun (W : World) (hW : Below w.heap.size w W) => filled_any 0 10000 r.b W (rg.b.below hW))
  rw [e7] at H7
  have H8 := Lib.hid (fun (W : World) (hW : Below w.heap.size w W) => filled_any 1 10000 r.d W (rg.d.below hW))
  rw [e8] at H8
  clear rg e1 e2 e3 e4 e5 e6 e7 e8
  go_enter Try.func18, Try.ntmps18
  go_wp2_with (first
    | (go_at_call_of 55 (Value.agg #[.slice r.h.ax r.h.X.length r.h.cx, .slice r.h.ay r.h.Y.length r.h.cy, .slice r.h.av r.h.V.length r.h.cv]); refine Calls.mono (H1.out _ (by go_grown)) ?_; rintro e w1 ⟨rfl, hb1⟩; have K1 := (BK.new (w := w) (cs := #[.slice r.h.ax r.h.X.length r.h.cx, .slice r.h.ay r.h.Y.length r.h.cy, .slice r.h.av r.h.V.length r.h.cv, .slice r.g.ax r.g.X.length r.g.cx, .slice r.g.ay r.g.Y.length r.g.cy, .slice r.g.av r.g.V.length r.g.cv, .slice r.l.ax r.l.X.length r.l.cx, .slice r.l.ay r.l.Y.length r.l.cy, .slice r.l.av r.l.V.length r.l.cv, .slice r.p.ax r.p.X.length r.p.cx, .slice r.p.ay r.p.Y.length r.p.cy, .slice r.p.av r.p.V.length r.p.cv, .slice r.n.ax r.n.X.length r.n.cx, .slice r.n.ay r.n.Y.length r.n.cy, .slice r.n.av r.n.V.length r.n.cv, .slice r.a.ax r.a.X.length r.a.cx, .slice r.a.ay r.a.Y.length r.a.cy, .slice r.a.av r.a.V.length r.a.cv, .slice r.b.ax r.b.X.length r.b.cx, .slice r.b.ay r.b.Y.length r.b.cy, .slice r.b.av r.b.V.length r.b.cv, .slice r.d.ax r.d.X.length r.d.cx, .slice r.d.ay r.d.Y.length r.d.cy, .slice r.d.av r.d.V.length r.d.cv, .int .i64 r.cl, .int .i64 r.bu]) (T := 27)).keep hb1; have c1 := K1.cell; have l1 := K1.lt; have HB1 := Lib.hid (Below.trans (show Below w.heap.size w _ by go_grown) (hb1.mono (by simp <;> omega))); clear hb1)
    | (go_at_call_of 55 (Value.agg #[.slice r.g.ax r.g.X.length r.g.cx, .slice r.g.ay r.g.Y.length r.g.cy, .slice r.g.av r.g.V.length r.g.cv]); refine Calls.mono (H2.out _ HB1.out) ?_; rintro e w2 ⟨rfl, hb2⟩; have K2 := K1.keep hb2; have c2 := K2.cell; have l2 := K2.lt; have HB2 := Lib.hid (HB1.out.trans (hb2.mono HB1.out.size)); clear hb2 c1 l1)
    | (go_at_call_of 55 (Value.agg #[.slice r.l.ax r.l.X.length r.l.cx, .slice r.l.ay r.l.Y.length r.l.cy, .slice r.l.av r.l.V.length r.l.cv]); refine Calls.mono (H3.out _ HB2.out) ?_; rintro e w3 ⟨rfl, hb3⟩; have K3 := K2.keep hb3; have c3 := K3.cell; have l3 := K3.lt; have HB3 := Lib.hid (HB2.out.trans (hb3.mono HB2.out.size)); clear hb3 c2 l2)
    | (go_at_call_of 55 (Value.agg #[.slice r.p.ax r.p.X.length r.p.cx, .slice r.p.ay r.p.Y.length r.p.cy, .slice r.p.av r.p.V.length r.p.cv]); refine Calls.mono (H4.out _ HB3.out) ?_; rintro e w4 ⟨rfl, hb4⟩; have K4 := K3.keep hb4; have c4 := K4.cell; have l4 := K4.lt; have HB4 := Lib.hid (HB3.out.trans (hb4.mono HB3.out.size)); clear hb4 c3 l3)
    | (go_at_call_of 55 (Value.agg #[.slice r.n.ax r.n.X.length r.n.cx, .slice r.n.ay r.n.Y.length r.n.cy, .slice r.n.av r.n.V.length r.n.cv]); refine Calls.mono (H5.out _ HB4.out) ?_; rintro e w5 ⟨rfl, hb5⟩; have K5 := K4.keep hb5; have c5 := K5.cell; have l5 := K5.lt; have HB5 := Lib.hid (HB4.out.trans (hb5.mono HB4.out.size)); clear hb5 c4 l4)
    | (go_at_call_of 55 (Value.agg #[.slice r.a.ax r.a.X.length r.a.cx, .slice r.a.ay r.a.Y.length r.a.cy, .slice r.a.av r.a.V.length r.a.cv]); refine Calls.mono (H6.out _ HB5.out) ?_; rintro e w6 ⟨rfl, hb6⟩; have K6 := K5.keep hb6; have c6 := K6.cell; have l6 := K6.lt; have HB6 := Lib.hid (HB5.out.trans (hb6.mono HB5.out.size)); clear hb6 c5 l5)
    | (go_at_call_of 55 (Value.agg #[.slice r.b.ax r.b.X.length r.b.cx, .slice r.b.ay r.b.Y.length r.b.cy, .slice r.b.av r.b.V.length r.b.cv]); refine Calls.mono (H7.out _ HB6.out) ?_; rintro e w7 ⟨rfl, hb7⟩; have K7 := K6.keep hb7; have c7 := K7.cell; have l7 := K7.lt; have HB7 := Lib.hid (HB6.out.trans (hb7.mono HB6.out.size)); clear hb7 c6 l6)
    | (go_at_call_of 55 (Value.agg #[.slice r.d.ax r.d.X.length r.d.cx, .slice r.d.ay r.d.Y.length r.d.cy, .slice r.d.av r.d.V.length r.d.cv]); refine Calls.mono (H8.out _ HB7.out) ?_; rintro e w8 ⟨rfl, hb8⟩; have K8 := K7.keep hb8; have c8 := K8.cell; have l8 := K8.lt; have HB8 := Lib.hid (HB7.out.trans (hb8.mono HB7.out.size)); clear hb8 c7 l7))
  go_ret
  exact ⟨rfl, HB8.out⟩
theorem rcheck_f9 (r : RO) (w : World) (rg : RG w r) (e1 : filB 0 100000 r.h = true) (e2 : filB 0 100 r.g = true) (e3 : filB 0 100000 r.l = true) (e4 : filB 0 100000 r.p = true) (e5 : filB 0 10000 r.n = true) (e6 : filB 0 10000 r.a = true) (e7 : filB 0 10000 r.b = true) (e8 : filB 1 10000 r.d = true) (e9 : decide (r.a.X = r.b.X) = false) : Calls Try.prog 18 #[.agg #[.slice r.h.ax r.h.X.length r.h.cx, .slice r.h.ay r.h.Y.length r.h.cy, .slice r.h.av r.h.V.length r.h.cv, .slice r.g.ax r.g.X.length r.g.cx, .slice r.g.ay r.g.Y.length r.g.cy, .slice r.g.av r.g.V.length r.g.cv, .slice r.l.ax r.l.X.length r.l.cx, .slice r.l.ay r.l.Y.length r.l.cy, .slice r.l.av r.l.V.length r.l.cv, .slice r.p.ax r.p.X.length r.p.cx, .slice r.p.ay r.p.Y.length r.p.cy, .slice r.p.av r.p.V.length r.p.cv, .slice r.n.ax r.n.X.length r.n.cx, .slice r.n.ay r.n.Y.length r.n.cy, .slice r.n.av r.n.V.length r.n.cv, .slice r.a.ax r.a.X.length r.a.cx, .slice r.a.ay r.a.Y.length r.a.cy, .slice r.a.av r.a.V.length r.a.cv, .slice r.b.ax r.b.X.length r.b.cx, .slice r.b.ay r.b.Y.length r.b.cy, .slice r.b.av r.b.V.length r.b.cv, .slice r.d.ax r.d.X.length r.d.cx, .slice r.d.ay r.d.Y.length r.d.cy, .slice r.d.av r.d.V.length r.d.cv, .int .i64 r.cl, .int .i64 r.bu]] w fun e w' => e = .returned (.int .i64 20) ∧ Below w.heap.size w w' := by
  have H1 := Lib.hid (fun (W : World) (hW : Below w.heap.size w W) => filled_any 0 100000 r.h W (rg.h.below hW))
  rw [e1] at H1
  have H2 := Lib.hid (fun (W : World) (hW : Below w.heap.size w W) => filled_any 0 100 r.g W (rg.g.below hW))
  rw [e2] at H2
  have H3 := Lib.hid (fun (W : World) (hW : Below w.heap.size w W) => filled_any 0 100000 r.l W (rg.l.below hW))
  rw [e3] at H3
  have H4 := Lib.hid (fun (W : World) (hW : Below w.heap.size w W) => filled_any 0 100000 r.p W (rg.p.below hW))
  rw [e4] at H4
  have H5 := Lib.hid (fun (W : World) (hW : Below w.heap.size w W) => filled_any 0 10000 r.n W (rg.n.below hW))
  rw [e5] at H5
  have H6 := Lib.hid (fun (W : World) (hW : Below w.heap.size w W) => filled_any 0 10000 r.a W (rg.a.below hW))
  rw [e6] at H6
  have H7 := Lib.hid (fun (W : World) (hW : Below w.heap.size w W) => filled_any 0 10000 r.b W (rg.b.below hW))
  rw [e7] at H7
  have H8 := Lib.hid (fun (W : World) (hW : Below w.heap.size w W) => filled_any 1 10000 r.d W (rg.d.below hW))
  rw [e8] at H8
  have H9 := Lib.hid (fun (W : World) (hW : Below w.heap.size w W) => dsame_any r.a.ax r.b.ax _ r.a.cx _ r.b.cx W.heap.size W.heap.size r.a.X r.b.X W rfl rfl rg.a.hx rg.b.hx (Nat.le_refl _) (Nat.le_refl _) (rg.a.below hW).tb.x (rg.b.below hW).tb.x)
  rw [e9] at H9
  clear rg e1 e2 e3 e4 e5 e6 e7 e8 e9
  go_enter Try.func18, Try.ntmps18
  go_wp2_with (first
    | (go_at_call_of 55 (Value.agg #[.slice r.h.ax r.h.X.length r.h.cx, .slice r.h.ay r.h.Y.length r.h.cy, .slice r.h.av r.h.V.length r.h.cv]); refine Calls.mono (H1.out _ (by go_grown)) ?_; rintro e w1 ⟨rfl, hb1⟩; have K1 := (BK.new (w := w) (cs := #[.slice r.h.ax r.h.X.length r.h.cx, .slice r.h.ay r.h.Y.length r.h.cy, .slice r.h.av r.h.V.length r.h.cv, .slice r.g.ax r.g.X.length r.g.cx, .slice r.g.ay r.g.Y.length r.g.cy, .slice r.g.av r.g.V.length r.g.cv, .slice r.l.ax r.l.X.length r.l.cx, .slice r.l.ay r.l.Y.length r.l.cy, .slice r.l.av r.l.V.length r.l.cv, .slice r.p.ax r.p.X.length r.p.cx, .slice r.p.ay r.p.Y.length r.p.cy, .slice r.p.av r.p.V.length r.p.cv, .slice r.n.ax r.n.X.length r.n.cx, .slice r.n.ay r.n.Y.length r.n.cy, .slice r.n.av r.n.V.length r.n.cv, .slice r.a.ax r.a.X.length r.a.cx, .slice r.a.ay r.a.Y.length r.a.cy, .slice r.a.av r.a.V.length r.a.cv, .slice r.b.ax r.b.X.length r.b.cx, .slice r.b.ay r.b.Y.length r.b.cy, .slice r.b.av r.b.V.length r.b.cv, .slice r.d.ax r.d.X.length r.d.cx, .slice r.d.ay r.d.Y.length r.d.cy, .slice r.d.av r.d.V.length r.d.cv, .int .i64 r.cl, .int .i64 r.bu]) (T := 27)).keep hb1; have c1 := K1.cell; have l1 := K1.lt; have HB1 := Lib.hid (Below.trans (show Below w.heap.size w _ by go_grown) (hb1.mono (by simp <;> omega))); clear hb1)
    | (go_at_call_of 55 (Value.agg #[.slice r.g.ax r.g.X.length r.g.cx, .slice r.g.ay r.g.Y.length r.g.cy, .slice r.g.av r.g.V.length r.g.cv]); refine Calls.mono (H2.out _ HB1.out) ?_; rintro e w2 ⟨rfl, hb2⟩; have K2 := K1.keep hb2; have c2 := K2.cell; have l2 := K2.lt; have HB2 := Lib.hid (HB1.out.trans (hb2.mono HB1.out.size)); clear hb2 c1 l1)
    | (go_at_call_of 55 (Value.agg #[.slice r.l.ax r.l.X.length r.l.cx, .slice r.l.ay r.l.Y.length r.l.cy, .slice r.l.av r.l.V.length r.l.cv]); refine Calls.mono (H3.out _ HB2.out) ?_; rintro e w3 ⟨rfl, hb3⟩; have K3 := K2.keep hb3; have c3 := K3.cell; have l3 := K3.lt; have HB3 := Lib.hid (HB2.out.trans (hb3.mono HB2.out.size)); clear hb3 c2 l2)
    | (go_at_call_of 55 (Value.agg #[.slice r.p.ax r.p.X.length r.p.cx, .slice r.p.ay r.p.Y.length r.p.cy, .slice r.p.av r.p.V.length r.p.cv]); refine Calls.mono (H4.out _ HB3.out) ?_; rintro e w4 ⟨rfl, hb4⟩; have K4 := K3.keep hb4; have c4 := K4.cell; have l4 := K4.lt; have HB4 := Lib.hid (HB3.out.trans (hb4.mono HB3.out.size)); clear hb4 c3 l3)
    | (go_at_call_of 55 (Value.agg #[.slice r.n.ax r.n.X.length r.n.cx, .slice r.n.ay r.n.Y.length r.n.cy, .slice r.n.av r.n.V.length r.n.cv]); refine Calls.mono (H5.out _ HB4.out) ?_; rintro e w5 ⟨rfl, hb5⟩; have K5 := K4.keep hb5; have c5 := K5.cell; have l5 := K5.lt; have HB5 := Lib.hid (HB4.out.trans (hb5.mono HB4.out.size)); clear hb5 c4 l4)
    | (go_at_call_of 55 (Value.agg #[.slice r.a.ax r.a.X.length r.a.cx, .slice r.a.ay r.a.Y.length r.a.cy, .slice r.a.av r.a.V.length r.a.cv]); refine Calls.mono (H6.out _ HB5.out) ?_; rintro e w6 ⟨rfl, hb6⟩; have K6 := K5.keep hb6; have c6 := K6.cell; have l6 := K6.lt; have HB6 := Lib.hid (HB5.out.trans (hb6.mono HB5.out.size)); clear hb6 c5 l5)
    | (go_at_call_of 55 (Value.agg #[.slice r.b.ax r.b.X.length r.b.cx, .slice r.b.ay r.b.Y.length r.b.cy, .slice r.b.av r.b.V.length r.b.cv]); refine Calls.mono (H7.out _ HB6.out) ?_; rintro e w7 ⟨rfl, hb7⟩; have K7 := K6.keep hb7; have c7 := K7.cell; have l7 := K7.lt; have HB7 := Lib.hid (HB6.out.trans (hb7.mono HB6.out.size)); clear hb7 c6 l6)
    | (go_at_call_of 55 (Value.agg #[.slice r.d.ax r.d.X.length r.d.cx, .slice r.d.ay r.d.Y.length r.d.cy, .slice r.d.av r.d.V.length r.d.cv]); refine Calls.mono (H8.out _ HB7.out) ?_; rintro e w8 ⟨rfl, hb8⟩; have K8 := K7.keep hb8; have c8 := K8.cell; have l8 := K8.lt; have HB8 := Lib.hid (HB7.out.trans (hb8.mono HB7.out.size)); clear hb8 c7 l7)
    | (go_at_call_of 56 (Value.slice r.a.ax r.a.X.length r.a.cx); refine Calls.mono (H9.out _ HB8.out) ?_; rintro e w9 ⟨rfl, hb9⟩; have K9 := K8.keep hb9; have c9 := K9.cell; have l9 := K9.lt; have HB9 := Lib.hid (HB8.out.trans (hb9.mono HB8.out.size)); clear hb9 c8 l8))
  go_ret
  exact ⟨rfl, HB9.out⟩
theorem rcheck_f10 (r : RO) (w : World) (rg : RG w r) (e1 : filB 0 100000 r.h = true) (e2 : filB 0 100 r.g = true) (e3 : filB 0 100000 r.l = true) (e4 : filB 0 100000 r.p = true) (e5 : filB 0 10000 r.n = true) (e6 : filB 0 10000 r.a = true) (e7 : filB 0 10000 r.b = true) (e8 : filB 1 10000 r.d = true) (e9 : decide (r.a.X = r.b.X) = true) (e10 : decide (r.a.Y = r.b.Y) = false) : Calls Try.prog 18 #[.agg #[.slice r.h.ax r.h.X.length r.h.cx, .slice r.h.ay r.h.Y.length r.h.cy, .slice r.h.av r.h.V.length r.h.cv, .slice r.g.ax r.g.X.length r.g.cx, .slice r.g.ay r.g.Y.length r.g.cy, .slice r.g.av r.g.V.length r.g.cv, .slice r.l.ax r.l.X.length r.l.cx, .slice r.l.ay r.l.Y.length r.l.cy, .slice r.l.av r.l.V.length r.l.cv, .slice r.p.ax r.p.X.length r.p.cx, .slice r.p.ay r.p.Y.length r.p.cy, .slice r.p.av r.p.V.length r.p.cv, .slice r.n.ax r.n.X.length r.n.cx, .slice r.n.ay r.n.Y.length r.n.cy, .slice r.n.av r.n.V.length r.n.cv, .slice r.a.ax r.a.X.length r.a.cx, .slice r.a.ay r.a.Y.length r.a.cy, .slice r.a.av r.a.V.length r.a.cv, .slice r.b.ax r.b.X.length r.b.cx, .slice r.b.ay r.b.Y.length r.b.cy, .slice r.b.av r.b.V.length r.b.cv, .slice r.d.ax r.d.X.length r.d.cx, .slice r.d.ay r.d.Y.length r.d.cy, .slice r.d.av r.d.V.length r.d.cv, .int .i64 r.cl, .int .i64 r.bu]] w fun e w' => e = .returned (.int .i64 20) ∧ Below w.heap.size w w' := by
  have H1 := Lib.hid (fun (W : World) (hW : Below w.heap.size w W) => filled_any 0 100000 r.h W (rg.h.below hW))
  rw [e1] at H1
  have H2 := Lib.hid (fun (W : World) (hW : Below w.heap.size w W) => filled_any 0 100 r.g W (rg.g.below hW))
  rw [e2] at H2
  have H3 := Lib.hid (fun (W : World) (hW : Below w.heap.size w W) => filled_any 0 100000 r.l W (rg.l.below hW))
  rw [e3] at H3
  have H4 := Lib.hid (fun (W : World) (hW : Below w.heap.size w W) => filled_any 0 100000 r.p W (rg.p.below hW))
  rw [e4] at H4
  have H5 := Lib.hid (fun (W : World) (hW : Below w.heap.size w W) => filled_any 0 10000 r.n W (rg.n.below hW))
  rw [e5] at H5
  have H6 := Lib.hid (fun (W : World) (hW : Below w.heap.size w W) => filled_any 0 10000 r.a W (rg.a.below hW))
  rw [e6] at H6
  have H7 := Lib.hid (fun (W : World) (hW : Below w.heap.size w W) => filled_any 0 10000 r.b W (rg.b.below hW))
  rw [e7] at H7
  have H8 := Lib.hid (fun (W : World) (hW : Below w.heap.size w W) => filled_any 1 10000 r.d W (rg.d.below hW))
  rw [e8] at H8
  have H9 := Lib.hid (fun (W : World) (hW : Below w.heap.size w W) => dsame_any r.a.ax r.b.ax _ r.a.cx _ r.b.cx W.heap.size W.heap.size r.a.X r.b.X W rfl rfl rg.a.hx rg.b.hx (Nat.le_refl _) (Nat.le_refl _) (rg.a.below hW).tb.x (rg.b.below hW).tb.x)
  rw [e9] at H9
  have H10 := Lib.hid (fun (W : World) (hW : Below w.heap.size w W) => dsame_any r.a.ay r.b.ay _ r.a.cy _ r.b.cy W.heap.size W.heap.size r.a.Y r.b.Y W rfl rfl rg.a.hy rg.b.hy (Nat.le_refl _) (Nat.le_refl _) (rg.a.below hW).tb.y (rg.b.below hW).tb.y)
  rw [e10] at H10
  clear rg e1 e2 e3 e4 e5 e6 e7 e8 e9 e10
  go_enter Try.func18, Try.ntmps18
  go_wp2_with (first
    | (go_at_call_of 55 (Value.agg #[.slice r.h.ax r.h.X.length r.h.cx, .slice r.h.ay r.h.Y.length r.h.cy, .slice r.h.av r.h.V.length r.h.cv]); refine Calls.mono (H1.out _ (by go_grown)) ?_; rintro e w1 ⟨rfl, hb1⟩; have K1 := (BK.new (w := w) (cs := #[.slice r.h.ax r.h.X.length r.h.cx, .slice r.h.ay r.h.Y.length r.h.cy, .slice r.h.av r.h.V.length r.h.cv, .slice r.g.ax r.g.X.length r.g.cx, .slice r.g.ay r.g.Y.length r.g.cy, .slice r.g.av r.g.V.length r.g.cv, .slice r.l.ax r.l.X.length r.l.cx, .slice r.l.ay r.l.Y.length r.l.cy, .slice r.l.av r.l.V.length r.l.cv, .slice r.p.ax r.p.X.length r.p.cx, .slice r.p.ay r.p.Y.length r.p.cy, .slice r.p.av r.p.V.length r.p.cv, .slice r.n.ax r.n.X.length r.n.cx, .slice r.n.ay r.n.Y.length r.n.cy, .slice r.n.av r.n.V.length r.n.cv, .slice r.a.ax r.a.X.length r.a.cx, .slice r.a.ay r.a.Y.length r.a.cy, .slice r.a.av r.a.V.length r.a.cv, .slice r.b.ax r.b.X.length r.b.cx, .slice r.b.ay r.b.Y.length r.b.cy, .slice r.b.av r.b.V.length r.b.cv, .slice r.d.ax r.d.X.length r.d.cx, .slice r.d.ay r.d.Y.length r.d.cy, .slice r.d.av r.d.V.length r.d.cv, .int .i64 r.cl, .int .i64 r.bu]) (T := 27)).keep hb1; have c1 := K1.cell; have l1 := K1.lt; have HB1 := Lib.hid (Below.trans (show Below w.heap.size w _ by go_grown) (hb1.mono (by simp <;> omega))); clear hb1)
    | (go_at_call_of 55 (Value.agg #[.slice r.g.ax r.g.X.length r.g.cx, .slice r.g.ay r.g.Y.length r.g.cy, .slice r.g.av r.g.V.length r.g.cv]); refine Calls.mono (H2.out _ HB1.out) ?_; rintro e w2 ⟨rfl, hb2⟩; have K2 := K1.keep hb2; have c2 := K2.cell; have l2 := K2.lt; have HB2 := Lib.hid (HB1.out.trans (hb2.mono HB1.out.size)); clear hb2 c1 l1)
    | (go_at_call_of 55 (Value.agg #[.slice r.l.ax r.l.X.length r.l.cx, .slice r.l.ay r.l.Y.length r.l.cy, .slice r.l.av r.l.V.length r.l.cv]); refine Calls.mono (H3.out _ HB2.out) ?_; rintro e w3 ⟨rfl, hb3⟩; have K3 := K2.keep hb3; have c3 := K3.cell; have l3 := K3.lt; have HB3 := Lib.hid (HB2.out.trans (hb3.mono HB2.out.size)); clear hb3 c2 l2)
    | (go_at_call_of 55 (Value.agg #[.slice r.p.ax r.p.X.length r.p.cx, .slice r.p.ay r.p.Y.length r.p.cy, .slice r.p.av r.p.V.length r.p.cv]); refine Calls.mono (H4.out _ HB3.out) ?_; rintro e w4 ⟨rfl, hb4⟩; have K4 := K3.keep hb4; have c4 := K4.cell; have l4 := K4.lt; have HB4 := Lib.hid (HB3.out.trans (hb4.mono HB3.out.size)); clear hb4 c3 l3)
    | (go_at_call_of 55 (Value.agg #[.slice r.n.ax r.n.X.length r.n.cx, .slice r.n.ay r.n.Y.length r.n.cy, .slice r.n.av r.n.V.length r.n.cv]); refine Calls.mono (H5.out _ HB4.out) ?_; rintro e w5 ⟨rfl, hb5⟩; have K5 := K4.keep hb5; have c5 := K5.cell; have l5 := K5.lt; have HB5 := Lib.hid (HB4.out.trans (hb5.mono HB4.out.size)); clear hb5 c4 l4)
    | (go_at_call_of 55 (Value.agg #[.slice r.a.ax r.a.X.length r.a.cx, .slice r.a.ay r.a.Y.length r.a.cy, .slice r.a.av r.a.V.length r.a.cv]); refine Calls.mono (H6.out _ HB5.out) ?_; rintro e w6 ⟨rfl, hb6⟩; have K6 := K5.keep hb6; have c6 := K6.cell; have l6 := K6.lt; have HB6 := Lib.hid (HB5.out.trans (hb6.mono HB5.out.size)); clear hb6 c5 l5)
    | (go_at_call_of 55 (Value.agg #[.slice r.b.ax r.b.X.length r.b.cx, .slice r.b.ay r.b.Y.length r.b.cy, .slice r.b.av r.b.V.length r.b.cv]); refine Calls.mono (H7.out _ HB6.out) ?_; rintro e w7 ⟨rfl, hb7⟩; have K7 := K6.keep hb7; have c7 := K7.cell; have l7 := K7.lt; have HB7 := Lib.hid (HB6.out.trans (hb7.mono HB6.out.size)); clear hb7 c6 l6)
    | (go_at_call_of 55 (Value.agg #[.slice r.d.ax r.d.X.length r.d.cx, .slice r.d.ay r.d.Y.length r.d.cy, .slice r.d.av r.d.V.length r.d.cv]); refine Calls.mono (H8.out _ HB7.out) ?_; rintro e w8 ⟨rfl, hb8⟩; have K8 := K7.keep hb8; have c8 := K8.cell; have l8 := K8.lt; have HB8 := Lib.hid (HB7.out.trans (hb8.mono HB7.out.size)); clear hb8 c7 l7)
    | (go_at_call_of 56 (Value.slice r.a.ax r.a.X.length r.a.cx); refine Calls.mono (H9.out _ HB8.out) ?_; rintro e w9 ⟨rfl, hb9⟩; have K9 := K8.keep hb9; have c9 := K9.cell; have l9 := K9.lt; have HB9 := Lib.hid (HB8.out.trans (hb9.mono HB8.out.size)); clear hb9 c8 l8)
    | (go_at_call_of 56 (Value.slice r.a.ay r.a.Y.length r.a.cy); refine Calls.mono (H10.out _ HB9.out) ?_; rintro e w10 ⟨rfl, hb10⟩; have K10 := K9.keep hb10; have c10 := K10.cell; have l10 := K10.lt; have HB10 := Lib.hid (HB9.out.trans (hb10.mono HB9.out.size)); clear hb10 c9 l9))
  go_ret
  exact ⟨rfl, HB10.out⟩
theorem rcheck_f11 (r : RO) (w : World) (rg : RG w r) (e1 : filB 0 100000 r.h = true) (e2 : filB 0 100 r.g = true) (e3 : filB 0 100000 r.l = true) (e4 : filB 0 100000 r.p = true) (e5 : filB 0 10000 r.n = true) (e6 : filB 0 10000 r.a = true) (e7 : filB 0 10000 r.b = true) (e8 : filB 1 10000 r.d = true) (e9 : decide (r.a.X = r.b.X) = true) (e10 : decide (r.a.Y = r.b.Y) = true) (e11 : (decide (1 ≤ r.cl) && decide (r.cl ≤ 1000)) = false) : Calls Try.prog 18 #[.agg #[.slice r.h.ax r.h.X.length r.h.cx, .slice r.h.ay r.h.Y.length r.h.cy, .slice r.h.av r.h.V.length r.h.cv, .slice r.g.ax r.g.X.length r.g.cx, .slice r.g.ay r.g.Y.length r.g.cy, .slice r.g.av r.g.V.length r.g.cv, .slice r.l.ax r.l.X.length r.l.cx, .slice r.l.ay r.l.Y.length r.l.cy, .slice r.l.av r.l.V.length r.l.cv, .slice r.p.ax r.p.X.length r.p.cx, .slice r.p.ay r.p.Y.length r.p.cy, .slice r.p.av r.p.V.length r.p.cv, .slice r.n.ax r.n.X.length r.n.cx, .slice r.n.ay r.n.Y.length r.n.cy, .slice r.n.av r.n.V.length r.n.cv, .slice r.a.ax r.a.X.length r.a.cx, .slice r.a.ay r.a.Y.length r.a.cy, .slice r.a.av r.a.V.length r.a.cv, .slice r.b.ax r.b.X.length r.b.cx, .slice r.b.ay r.b.Y.length r.b.cy, .slice r.b.av r.b.V.length r.b.cv, .slice r.d.ax r.d.X.length r.d.cx, .slice r.d.ay r.d.Y.length r.d.cy, .slice r.d.av r.d.V.length r.d.cv, .int .i64 r.cl, .int .i64 r.bu]] w fun e w' => e = .returned (.int .i64 20) ∧ Below w.heap.size w w' := by
  have H1 := Lib.hid (fun (W : World) (hW : Below w.heap.size w W) => filled_any 0 100000 r.h W (rg.h.below hW))
  rw [e1] at H1
  have H2 := Lib.hid (fun (W : World) (hW : Below w.heap.size w W) => filled_any 0 100 r.g W (rg.g.below hW))
  rw [e2] at H2
  have H3 := Lib.hid (fun (W : World) (hW : Below w.heap.size w W) => filled_any 0 100000 r.l W (rg.l.below hW))
  rw [e3] at H3
  have H4 := Lib.hid (fun (W : World) (hW : Below w.heap.size w W) => filled_any 0 100000 r.p W (rg.p.below hW))
  rw [e4] at H4
  have H5 := Lib.hid (fun (W : World) (hW : Below w.heap.size w W) => filled_any 0 10000 r.n W (rg.n.below hW))
  rw [e5] at H5
  have H6 := Lib.hid (fun (W : World) (hW : Below w.heap.size w W) => filled_any 0 10000 r.a W (rg.a.below hW))
  rw [e6] at H6
  have H7 := Lib.hid (fun (W : World) (hW : Below w.heap.size w W) => filled_any 0 10000 r.b W (rg.b.below hW))
  rw [e7] at H7
  have H8 := Lib.hid (fun (W : World) (hW : Below w.heap.size w W) => filled_any 1 10000 r.d W (rg.d.below hW))
  rw [e8] at H8
  have H9 := Lib.hid (fun (W : World) (hW : Below w.heap.size w W) => dsame_any r.a.ax r.b.ax _ r.a.cx _ r.b.cx W.heap.size W.heap.size r.a.X r.b.X W rfl rfl rg.a.hx rg.b.hx (Nat.le_refl _) (Nat.le_refl _) (rg.a.below hW).tb.x (rg.b.below hW).tb.x)
  rw [e9] at H9
  have H10 := Lib.hid (fun (W : World) (hW : Below w.heap.size w W) => dsame_any r.a.ay r.b.ay _ r.a.cy _ r.b.cy W.heap.size W.heap.size r.a.Y r.b.Y W rfl rfl rg.a.hy rg.b.hy (Nat.le_refl _) (Nat.le_refl _) (rg.a.below hW).tb.y (rg.b.below hW).tb.y)
  rw [e10] at H10
  have H11 := Lib.hid (fun (W : World) => rfrom_any r.cl 1 1000 W)
  rw [e11] at H11
  clear rg e1 e2 e3 e4 e5 e6 e7 e8 e9 e10 e11
  go_enter Try.func18, Try.ntmps18
  go_wp2_with (first
    | (go_at_call_of 55 (Value.agg #[.slice r.h.ax r.h.X.length r.h.cx, .slice r.h.ay r.h.Y.length r.h.cy, .slice r.h.av r.h.V.length r.h.cv]); refine Calls.mono (H1.out _ (by go_grown)) ?_; rintro e w1 ⟨rfl, hb1⟩; have K1 := (BK.new (w := w) (cs := #[.slice r.h.ax r.h.X.length r.h.cx, .slice r.h.ay r.h.Y.length r.h.cy, .slice r.h.av r.h.V.length r.h.cv, .slice r.g.ax r.g.X.length r.g.cx, .slice r.g.ay r.g.Y.length r.g.cy, .slice r.g.av r.g.V.length r.g.cv, .slice r.l.ax r.l.X.length r.l.cx, .slice r.l.ay r.l.Y.length r.l.cy, .slice r.l.av r.l.V.length r.l.cv, .slice r.p.ax r.p.X.length r.p.cx, .slice r.p.ay r.p.Y.length r.p.cy, .slice r.p.av r.p.V.length r.p.cv, .slice r.n.ax r.n.X.length r.n.cx, .slice r.n.ay r.n.Y.length r.n.cy, .slice r.n.av r.n.V.length r.n.cv, .slice r.a.ax r.a.X.length r.a.cx, .slice r.a.ay r.a.Y.length r.a.cy, .slice r.a.av r.a.V.length r.a.cv, .slice r.b.ax r.b.X.length r.b.cx, .slice r.b.ay r.b.Y.length r.b.cy, .slice r.b.av r.b.V.length r.b.cv, .slice r.d.ax r.d.X.length r.d.cx, .slice r.d.ay r.d.Y.length r.d.cy, .slice r.d.av r.d.V.length r.d.cv, .int .i64 r.cl, .int .i64 r.bu]) (T := 27)).keep hb1; have c1 := K1.cell; have l1 := K1.lt; have HB1 := Lib.hid (Below.trans (show Below w.heap.size w _ by go_grown) (hb1.mono (by simp <;> omega))); clear hb1)
    | (go_at_call_of 55 (Value.agg #[.slice r.g.ax r.g.X.length r.g.cx, .slice r.g.ay r.g.Y.length r.g.cy, .slice r.g.av r.g.V.length r.g.cv]); refine Calls.mono (H2.out _ HB1.out) ?_; rintro e w2 ⟨rfl, hb2⟩; have K2 := K1.keep hb2; have c2 := K2.cell; have l2 := K2.lt; have HB2 := Lib.hid (HB1.out.trans (hb2.mono HB1.out.size)); clear hb2 c1 l1)
    | (go_at_call_of 55 (Value.agg #[.slice r.l.ax r.l.X.length r.l.cx, .slice r.l.ay r.l.Y.length r.l.cy, .slice r.l.av r.l.V.length r.l.cv]); refine Calls.mono (H3.out _ HB2.out) ?_; rintro e w3 ⟨rfl, hb3⟩; have K3 := K2.keep hb3; have c3 := K3.cell; have l3 := K3.lt; have HB3 := Lib.hid (HB2.out.trans (hb3.mono HB2.out.size)); clear hb3 c2 l2)
    | (go_at_call_of 55 (Value.agg #[.slice r.p.ax r.p.X.length r.p.cx, .slice r.p.ay r.p.Y.length r.p.cy, .slice r.p.av r.p.V.length r.p.cv]); refine Calls.mono (H4.out _ HB3.out) ?_; rintro e w4 ⟨rfl, hb4⟩; have K4 := K3.keep hb4; have c4 := K4.cell; have l4 := K4.lt; have HB4 := Lib.hid (HB3.out.trans (hb4.mono HB3.out.size)); clear hb4 c3 l3)
    | (go_at_call_of 55 (Value.agg #[.slice r.n.ax r.n.X.length r.n.cx, .slice r.n.ay r.n.Y.length r.n.cy, .slice r.n.av r.n.V.length r.n.cv]); refine Calls.mono (H5.out _ HB4.out) ?_; rintro e w5 ⟨rfl, hb5⟩; have K5 := K4.keep hb5; have c5 := K5.cell; have l5 := K5.lt; have HB5 := Lib.hid (HB4.out.trans (hb5.mono HB4.out.size)); clear hb5 c4 l4)
    | (go_at_call_of 55 (Value.agg #[.slice r.a.ax r.a.X.length r.a.cx, .slice r.a.ay r.a.Y.length r.a.cy, .slice r.a.av r.a.V.length r.a.cv]); refine Calls.mono (H6.out _ HB5.out) ?_; rintro e w6 ⟨rfl, hb6⟩; have K6 := K5.keep hb6; have c6 := K6.cell; have l6 := K6.lt; have HB6 := Lib.hid (HB5.out.trans (hb6.mono HB5.out.size)); clear hb6 c5 l5)
    | (go_at_call_of 55 (Value.agg #[.slice r.b.ax r.b.X.length r.b.cx, .slice r.b.ay r.b.Y.length r.b.cy, .slice r.b.av r.b.V.length r.b.cv]); refine Calls.mono (H7.out _ HB6.out) ?_; rintro e w7 ⟨rfl, hb7⟩; have K7 := K6.keep hb7; have c7 := K7.cell; have l7 := K7.lt; have HB7 := Lib.hid (HB6.out.trans (hb7.mono HB6.out.size)); clear hb7 c6 l6)
    | (go_at_call_of 55 (Value.agg #[.slice r.d.ax r.d.X.length r.d.cx, .slice r.d.ay r.d.Y.length r.d.cy, .slice r.d.av r.d.V.length r.d.cv]); refine Calls.mono (H8.out _ HB7.out) ?_; rintro e w8 ⟨rfl, hb8⟩; have K8 := K7.keep hb8; have c8 := K8.cell; have l8 := K8.lt; have HB8 := Lib.hid (HB7.out.trans (hb8.mono HB7.out.size)); clear hb8 c7 l7)
    | (go_at_call_of 56 (Value.slice r.a.ax r.a.X.length r.a.cx); refine Calls.mono (H9.out _ HB8.out) ?_; rintro e w9 ⟨rfl, hb9⟩; have K9 := K8.keep hb9; have c9 := K9.cell; have l9 := K9.lt; have HB9 := Lib.hid (HB8.out.trans (hb9.mono HB8.out.size)); clear hb9 c8 l8)
    | (go_at_call_of 56 (Value.slice r.a.ay r.a.Y.length r.a.cy); refine Calls.mono (H10.out _ HB9.out) ?_; rintro e w10 ⟨rfl, hb10⟩; have K10 := K9.keep hb10; have c10 := K10.cell; have l10 := K10.lt; have HB10 := Lib.hid (HB9.out.trans (hb10.mono HB9.out.size)); clear hb10 c9 l9)
    | (go_at_call_of 57 (Value.int .i64 r.cl); refine Calls.mono (H11.out _) ?_; rintro e w11 ⟨rfl, rfl⟩))
  go_ret
  exact ⟨rfl, HB10.out⟩
theorem rcheck_f12 (r : RO) (w : World) (rg : RG w r) (e1 : filB 0 100000 r.h = true) (e2 : filB 0 100 r.g = true) (e3 : filB 0 100000 r.l = true) (e4 : filB 0 100000 r.p = true) (e5 : filB 0 10000 r.n = true) (e6 : filB 0 10000 r.a = true) (e7 : filB 0 10000 r.b = true) (e8 : filB 1 10000 r.d = true) (e9 : decide (r.a.X = r.b.X) = true) (e10 : decide (r.a.Y = r.b.Y) = true) (e11 : (decide (1 ≤ r.cl) && decide (r.cl ≤ 1000)) = true) (e12 : (decide (1 ≤ r.bu) && decide (r.bu ≤ 1000)) = false) : Calls Try.prog 18 #[.agg #[.slice r.h.ax r.h.X.length r.h.cx, .slice r.h.ay r.h.Y.length r.h.cy, .slice r.h.av r.h.V.length r.h.cv, .slice r.g.ax r.g.X.length r.g.cx, .slice r.g.ay r.g.Y.length r.g.cy, .slice r.g.av r.g.V.length r.g.cv, .slice r.l.ax r.l.X.length r.l.cx, .slice r.l.ay r.l.Y.length r.l.cy, .slice r.l.av r.l.V.length r.l.cv, .slice r.p.ax r.p.X.length r.p.cx, .slice r.p.ay r.p.Y.length r.p.cy, .slice r.p.av r.p.V.length r.p.cv, .slice r.n.ax r.n.X.length r.n.cx, .slice r.n.ay r.n.Y.length r.n.cy, .slice r.n.av r.n.V.length r.n.cv, .slice r.a.ax r.a.X.length r.a.cx, .slice r.a.ay r.a.Y.length r.a.cy, .slice r.a.av r.a.V.length r.a.cv, .slice r.b.ax r.b.X.length r.b.cx, .slice r.b.ay r.b.Y.length r.b.cy, .slice r.b.av r.b.V.length r.b.cv, .slice r.d.ax r.d.X.length r.d.cx, .slice r.d.ay r.d.Y.length r.d.cy, .slice r.d.av r.d.V.length r.d.cv, .int .i64 r.cl, .int .i64 r.bu]] w fun e w' => e = .returned (.int .i64 20) ∧ Below w.heap.size w w' := by
  have H1 := Lib.hid (fun (W : World) (hW : Below w.heap.size w W) => filled_any 0 100000 r.h W (rg.h.below hW))
  rw [e1] at H1
  have H2 := Lib.hid (fun (W : World) (hW : Below w.heap.size w W) => filled_any 0 100 r.g W (rg.g.below hW))
  rw [e2] at H2
  have H3 := Lib.hid (fun (W : World) (hW : Below w.heap.size w W) => filled_any 0 100000 r.l W (rg.l.below hW))
  rw [e3] at H3
  have H4 := Lib.hid (fun (W : World) (hW : Below w.heap.size w W) => filled_any 0 100000 r.p W (rg.p.below hW))
  rw [e4] at H4
  have H5 := Lib.hid (fun (W : World) (hW : Below w.heap.size w W) => filled_any 0 10000 r.n W (rg.n.below hW))
  rw [e5] at H5
  have H6 := Lib.hid (fun (W : World) (hW : Below w.heap.size w W) => filled_any 0 10000 r.a W (rg.a.below hW))
  rw [e6] at H6
  have H7 := Lib.hid (fun (W : World) (hW : Below w.heap.size w W) => filled_any 0 10000 r.b W (rg.b.below hW))
  rw [e7] at H7
  have H8 := Lib.hid (fun (W : World) (hW : Below w.heap.size w W) => filled_any 1 10000 r.d W (rg.d.below hW))
  rw [e8] at H8
  have H9 := Lib.hid (fun (W : World) (hW : Below w.heap.size w W) => dsame_any r.a.ax r.b.ax _ r.a.cx _ r.b.cx W.heap.size W.heap.size r.a.X r.b.X W rfl rfl rg.a.hx rg.b.hx (Nat.le_refl _) (Nat.le_refl _) (rg.a.below hW).tb.x (rg.b.below hW).tb.x)
  rw [e9] at H9
  have H10 := Lib.hid (fun (W : World) (hW : Below w.heap.size w W) => dsame_any r.a.ay r.b.ay _ r.a.cy _ r.b.cy W.heap.size W.heap.size r.a.Y r.b.Y W rfl rfl rg.a.hy rg.b.hy (Nat.le_refl _) (Nat.le_refl _) (rg.a.below hW).tb.y (rg.b.below hW).tb.y)
  rw [e10] at H10
  have H11 := Lib.hid (fun (W : World) => rfrom_any r.cl 1 1000 W)
  rw [e11] at H11
  have H12 := Lib.hid (fun (W : World) => rfrom_any r.bu 1 1000 W)
  rw [e12] at H12
  clear rg e1 e2 e3 e4 e5 e6 e7 e8 e9 e10 e11 e12
  go_enter Try.func18, Try.ntmps18
  go_wp2_with (first
    | (go_at_call_of 55 (Value.agg #[.slice r.h.ax r.h.X.length r.h.cx, .slice r.h.ay r.h.Y.length r.h.cy, .slice r.h.av r.h.V.length r.h.cv]); refine Calls.mono (H1.out _ (by go_grown)) ?_; rintro e w1 ⟨rfl, hb1⟩; have K1 := (BK.new (w := w) (cs := #[.slice r.h.ax r.h.X.length r.h.cx, .slice r.h.ay r.h.Y.length r.h.cy, .slice r.h.av r.h.V.length r.h.cv, .slice r.g.ax r.g.X.length r.g.cx, .slice r.g.ay r.g.Y.length r.g.cy, .slice r.g.av r.g.V.length r.g.cv, .slice r.l.ax r.l.X.length r.l.cx, .slice r.l.ay r.l.Y.length r.l.cy, .slice r.l.av r.l.V.length r.l.cv, .slice r.p.ax r.p.X.length r.p.cx, .slice r.p.ay r.p.Y.length r.p.cy, .slice r.p.av r.p.V.length r.p.cv, .slice r.n.ax r.n.X.length r.n.cx, .slice r.n.ay r.n.Y.length r.n.cy, .slice r.n.av r.n.V.length r.n.cv, .slice r.a.ax r.a.X.length r.a.cx, .slice r.a.ay r.a.Y.length r.a.cy, .slice r.a.av r.a.V.length r.a.cv, .slice r.b.ax r.b.X.length r.b.cx, .slice r.b.ay r.b.Y.length r.b.cy, .slice r.b.av r.b.V.length r.b.cv, .slice r.d.ax r.d.X.length r.d.cx, .slice r.d.ay r.d.Y.length r.d.cy, .slice r.d.av r.d.V.length r.d.cv, .int .i64 r.cl, .int .i64 r.bu]) (T := 27)).keep hb1; have c1 := K1.cell; have l1 := K1.lt; have HB1 := Lib.hid (Below.trans (show Below w.heap.size w _ by go_grown) (hb1.mono (by simp <;> omega))); clear hb1)
    | (go_at_call_of 55 (Value.agg #[.slice r.g.ax r.g.X.length r.g.cx, .slice r.g.ay r.g.Y.length r.g.cy, .slice r.g.av r.g.V.length r.g.cv]); refine Calls.mono (H2.out _ HB1.out) ?_; rintro e w2 ⟨rfl, hb2⟩; have K2 := K1.keep hb2; have c2 := K2.cell; have l2 := K2.lt; have HB2 := Lib.hid (HB1.out.trans (hb2.mono HB1.out.size)); clear hb2 c1 l1)
    | (go_at_call_of 55 (Value.agg #[.slice r.l.ax r.l.X.length r.l.cx, .slice r.l.ay r.l.Y.length r.l.cy, .slice r.l.av r.l.V.length r.l.cv]); refine Calls.mono (H3.out _ HB2.out) ?_; rintro e w3 ⟨rfl, hb3⟩; have K3 := K2.keep hb3; have c3 := K3.cell; have l3 := K3.lt; have HB3 := Lib.hid (HB2.out.trans (hb3.mono HB2.out.size)); clear hb3 c2 l2)
    | (go_at_call_of 55 (Value.agg #[.slice r.p.ax r.p.X.length r.p.cx, .slice r.p.ay r.p.Y.length r.p.cy, .slice r.p.av r.p.V.length r.p.cv]); refine Calls.mono (H4.out _ HB3.out) ?_; rintro e w4 ⟨rfl, hb4⟩; have K4 := K3.keep hb4; have c4 := K4.cell; have l4 := K4.lt; have HB4 := Lib.hid (HB3.out.trans (hb4.mono HB3.out.size)); clear hb4 c3 l3)
    | (go_at_call_of 55 (Value.agg #[.slice r.n.ax r.n.X.length r.n.cx, .slice r.n.ay r.n.Y.length r.n.cy, .slice r.n.av r.n.V.length r.n.cv]); refine Calls.mono (H5.out _ HB4.out) ?_; rintro e w5 ⟨rfl, hb5⟩; have K5 := K4.keep hb5; have c5 := K5.cell; have l5 := K5.lt; have HB5 := Lib.hid (HB4.out.trans (hb5.mono HB4.out.size)); clear hb5 c4 l4)
    | (go_at_call_of 55 (Value.agg #[.slice r.a.ax r.a.X.length r.a.cx, .slice r.a.ay r.a.Y.length r.a.cy, .slice r.a.av r.a.V.length r.a.cv]); refine Calls.mono (H6.out _ HB5.out) ?_; rintro e w6 ⟨rfl, hb6⟩; have K6 := K5.keep hb6; have c6 := K6.cell; have l6 := K6.lt; have HB6 := Lib.hid (HB5.out.trans (hb6.mono HB5.out.size)); clear hb6 c5 l5)
    | (go_at_call_of 55 (Value.agg #[.slice r.b.ax r.b.X.length r.b.cx, .slice r.b.ay r.b.Y.length r.b.cy, .slice r.b.av r.b.V.length r.b.cv]); refine Calls.mono (H7.out _ HB6.out) ?_; rintro e w7 ⟨rfl, hb7⟩; have K7 := K6.keep hb7; have c7 := K7.cell; have l7 := K7.lt; have HB7 := Lib.hid (HB6.out.trans (hb7.mono HB6.out.size)); clear hb7 c6 l6)
    | (go_at_call_of 55 (Value.agg #[.slice r.d.ax r.d.X.length r.d.cx, .slice r.d.ay r.d.Y.length r.d.cy, .slice r.d.av r.d.V.length r.d.cv]); refine Calls.mono (H8.out _ HB7.out) ?_; rintro e w8 ⟨rfl, hb8⟩; have K8 := K7.keep hb8; have c8 := K8.cell; have l8 := K8.lt; have HB8 := Lib.hid (HB7.out.trans (hb8.mono HB7.out.size)); clear hb8 c7 l7)
    | (go_at_call_of 56 (Value.slice r.a.ax r.a.X.length r.a.cx); refine Calls.mono (H9.out _ HB8.out) ?_; rintro e w9 ⟨rfl, hb9⟩; have K9 := K8.keep hb9; have c9 := K9.cell; have l9 := K9.lt; have HB9 := Lib.hid (HB8.out.trans (hb9.mono HB8.out.size)); clear hb9 c8 l8)
    | (go_at_call_of 56 (Value.slice r.a.ay r.a.Y.length r.a.cy); refine Calls.mono (H10.out _ HB9.out) ?_; rintro e w10 ⟨rfl, hb10⟩; have K10 := K9.keep hb10; have c10 := K10.cell; have l10 := K10.lt; have HB10 := Lib.hid (HB9.out.trans (hb10.mono HB9.out.size)); clear hb10 c9 l9)
    | (go_at_call_of 57 (Value.int .i64 r.cl); refine Calls.mono (H11.out _) ?_; rintro e w11 ⟨rfl, rfl⟩)
    | (go_at_call_of 57 (Value.int .i64 r.bu); refine Calls.mono (H12.out _) ?_; rintro e w12 ⟨rfl, rfl⟩))
  go_ret
  exact ⟨rfl, HB10.out⟩
theorem rcheck_ok (r : RO) (w : World) (rg : RG w r) (e1 : filB 0 100000 r.h = true) (e2 : filB 0 100 r.g = true) (e3 : filB 0 100000 r.l = true) (e4 : filB 0 100000 r.p = true) (e5 : filB 0 10000 r.n = true) (e6 : filB 0 10000 r.a = true) (e7 : filB 0 10000 r.b = true) (e8 : filB 1 10000 r.d = true) (e9 : decide (r.a.X = r.b.X) = true) (e10 : decide (r.a.Y = r.b.Y) = true) (e11 : (decide (1 ≤ r.cl) && decide (r.cl ≤ 1000)) = true) (e12 : (decide (1 ≤ r.bu) && decide (r.bu ≤ 1000)) = true) : Calls Try.prog 18 #[.agg #[.slice r.h.ax r.h.X.length r.h.cx, .slice r.h.ay r.h.Y.length r.h.cy, .slice r.h.av r.h.V.length r.h.cv, .slice r.g.ax r.g.X.length r.g.cx, .slice r.g.ay r.g.Y.length r.g.cy, .slice r.g.av r.g.V.length r.g.cv, .slice r.l.ax r.l.X.length r.l.cx, .slice r.l.ay r.l.Y.length r.l.cy, .slice r.l.av r.l.V.length r.l.cv, .slice r.p.ax r.p.X.length r.p.cx, .slice r.p.ay r.p.Y.length r.p.cy, .slice r.p.av r.p.V.length r.p.cv, .slice r.n.ax r.n.X.length r.n.cx, .slice r.n.ay r.n.Y.length r.n.cy, .slice r.n.av r.n.V.length r.n.cv, .slice r.a.ax r.a.X.length r.a.cx, .slice r.a.ay r.a.Y.length r.a.cy, .slice r.a.av r.a.V.length r.a.cv, .slice r.b.ax r.b.X.length r.b.cx, .slice r.b.ay r.b.Y.length r.b.cy, .slice r.b.av r.b.V.length r.b.cv, .slice r.d.ax r.d.X.length r.d.cx, .slice r.d.ay r.d.Y.length r.d.cy, .slice r.d.av r.d.V.length r.d.cv, .int .i64 r.cl, .int .i64 r.bu]] w fun e w' => e = .returned (.int .i64 (if leV r.a.V r.b.V then 0 else 20)) ∧ Below w.heap.size w w' := by
  have HL := Lib.hid (show r.a.V.length = r.a.X.length ∧ r.b.V.length = r.a.X.length ∧ (∀ (k : Nat) (s : List Int), r.a.V[k]? = some s → s.length = r.a.Y.length) ∧ (∀ (k : Nat) (s : List Int), r.b.V[k]? = some s → s.length = r.a.Y.length) from ⟨(ctB_get (filB_ct e6)).2.2.1, by rw [(ctB_get (filB_ct e7)).2.2.1]; simp at e9; rw [e9], fun k s hr => rowlen (filB_ct e6) hr, fun k s hr => by rw [rowlen (filB_ct e7) hr]; simp at e10; rw [e10]⟩)
  have HV := Lib.hid rg.a.tb.v
  have HU := Lib.hid rg.b.tb.v
  have hnx := rg.a.hx
  have hny := rg.a.hy
  have hnv := rg.a.hv
  unfold maxLen at hnv hnx hny
  obtain ⟨res, hres⟩ : ∃ x, (if leV r.a.V r.b.V then (0 : Int) else 20) = x := ⟨_, rfl⟩
  rw [hres]
  have HRES := Lib.hid hres
  clear hres
  have H1 := Lib.hid (fun (W : World) (hW : Below w.heap.size w W) => filled_any 0 100000 r.h W (rg.h.below hW))
  rw [e1] at H1
  have H2 := Lib.hid (fun (W : World) (hW : Below w.heap.size w W) => filled_any 0 100 r.g W (rg.g.below hW))
  rw [e2] at H2
  have H3 := Lib.hid (fun (W : World) (hW : Below w.heap.size w W) => filled_any 0 100000 r.l W (rg.l.below hW))
  rw [e3] at H3
  have H4 := Lib.hid (fun (W : World) (hW : Below w.heap.size w W) => filled_any 0 100000 r.p W (rg.p.below hW))
  rw [e4] at H4
  have H5 := Lib.hid (fun (W : World) (hW : Below w.heap.size w W) => filled_any 0 10000 r.n W (rg.n.below hW))
  rw [e5] at H5
  have H6 := Lib.hid (fun (W : World) (hW : Below w.heap.size w W) => filled_any 0 10000 r.a W (rg.a.below hW))
  rw [e6] at H6
  have H7 := Lib.hid (fun (W : World) (hW : Below w.heap.size w W) => filled_any 0 10000 r.b W (rg.b.below hW))
  rw [e7] at H7
  have H8 := Lib.hid (fun (W : World) (hW : Below w.heap.size w W) => filled_any 1 10000 r.d W (rg.d.below hW))
  rw [e8] at H8
  have H9 := Lib.hid (fun (W : World) (hW : Below w.heap.size w W) => dsame_any r.a.ax r.b.ax _ r.a.cx _ r.b.cx W.heap.size W.heap.size r.a.X r.b.X W rfl rfl rg.a.hx rg.b.hx (Nat.le_refl _) (Nat.le_refl _) (rg.a.below hW).tb.x (rg.b.below hW).tb.x)
  rw [e9] at H9
  have H10 := Lib.hid (fun (W : World) (hW : Below w.heap.size w W) => dsame_any r.a.ay r.b.ay _ r.a.cy _ r.b.cy W.heap.size W.heap.size r.a.Y r.b.Y W rfl rfl rg.a.hy rg.b.hy (Nat.le_refl _) (Nat.le_refl _) (rg.a.below hW).tb.y (rg.b.below hW).tb.y)
  rw [e10] at H10
  have H11 := Lib.hid (fun (W : World) => rfrom_any r.cl 1 1000 W)
  rw [e11] at H11
  have H12 := Lib.hid (fun (W : World) => rfrom_any r.bu 1 1000 W)
  rw [e12] at H12
  clear rg e1 e2 e3 e4 e5 e6 e7 e8 e9 e10 e11 e12
  go_enter Try.func18, Try.ntmps18
  go_wp2_with (first
    | (go_at_call_of 55 (Value.agg #[.slice r.h.ax r.h.X.length r.h.cx, .slice r.h.ay r.h.Y.length r.h.cy, .slice r.h.av r.h.V.length r.h.cv]); refine Calls.mono (H1.out _ (by go_grown)) ?_; rintro e w1 ⟨rfl, hb1⟩; have K1 := (BK.new (w := w) (cs := #[.slice r.h.ax r.h.X.length r.h.cx, .slice r.h.ay r.h.Y.length r.h.cy, .slice r.h.av r.h.V.length r.h.cv, .slice r.g.ax r.g.X.length r.g.cx, .slice r.g.ay r.g.Y.length r.g.cy, .slice r.g.av r.g.V.length r.g.cv, .slice r.l.ax r.l.X.length r.l.cx, .slice r.l.ay r.l.Y.length r.l.cy, .slice r.l.av r.l.V.length r.l.cv, .slice r.p.ax r.p.X.length r.p.cx, .slice r.p.ay r.p.Y.length r.p.cy, .slice r.p.av r.p.V.length r.p.cv, .slice r.n.ax r.n.X.length r.n.cx, .slice r.n.ay r.n.Y.length r.n.cy, .slice r.n.av r.n.V.length r.n.cv, .slice r.a.ax r.a.X.length r.a.cx, .slice r.a.ay r.a.Y.length r.a.cy, .slice r.a.av r.a.V.length r.a.cv, .slice r.b.ax r.b.X.length r.b.cx, .slice r.b.ay r.b.Y.length r.b.cy, .slice r.b.av r.b.V.length r.b.cv, .slice r.d.ax r.d.X.length r.d.cx, .slice r.d.ay r.d.Y.length r.d.cy, .slice r.d.av r.d.V.length r.d.cv, .int .i64 r.cl, .int .i64 r.bu]) (T := 27)).keep hb1; have c1 := K1.cell; have l1 := K1.lt; have HB1 := Lib.hid (Below.trans (show Below w.heap.size w _ by go_grown) (hb1.mono (by simp <;> omega))); clear hb1)
    | (go_at_call_of 55 (Value.agg #[.slice r.g.ax r.g.X.length r.g.cx, .slice r.g.ay r.g.Y.length r.g.cy, .slice r.g.av r.g.V.length r.g.cv]); refine Calls.mono (H2.out _ HB1.out) ?_; rintro e w2 ⟨rfl, hb2⟩; have K2 := K1.keep hb2; have c2 := K2.cell; have l2 := K2.lt; have HB2 := Lib.hid (HB1.out.trans (hb2.mono HB1.out.size)); clear hb2 c1 l1)
    | (go_at_call_of 55 (Value.agg #[.slice r.l.ax r.l.X.length r.l.cx, .slice r.l.ay r.l.Y.length r.l.cy, .slice r.l.av r.l.V.length r.l.cv]); refine Calls.mono (H3.out _ HB2.out) ?_; rintro e w3 ⟨rfl, hb3⟩; have K3 := K2.keep hb3; have c3 := K3.cell; have l3 := K3.lt; have HB3 := Lib.hid (HB2.out.trans (hb3.mono HB2.out.size)); clear hb3 c2 l2)
    | (go_at_call_of 55 (Value.agg #[.slice r.p.ax r.p.X.length r.p.cx, .slice r.p.ay r.p.Y.length r.p.cy, .slice r.p.av r.p.V.length r.p.cv]); refine Calls.mono (H4.out _ HB3.out) ?_; rintro e w4 ⟨rfl, hb4⟩; have K4 := K3.keep hb4; have c4 := K4.cell; have l4 := K4.lt; have HB4 := Lib.hid (HB3.out.trans (hb4.mono HB3.out.size)); clear hb4 c3 l3)
    | (go_at_call_of 55 (Value.agg #[.slice r.n.ax r.n.X.length r.n.cx, .slice r.n.ay r.n.Y.length r.n.cy, .slice r.n.av r.n.V.length r.n.cv]); refine Calls.mono (H5.out _ HB4.out) ?_; rintro e w5 ⟨rfl, hb5⟩; have K5 := K4.keep hb5; have c5 := K5.cell; have l5 := K5.lt; have HB5 := Lib.hid (HB4.out.trans (hb5.mono HB4.out.size)); clear hb5 c4 l4)
    | (go_at_call_of 55 (Value.agg #[.slice r.a.ax r.a.X.length r.a.cx, .slice r.a.ay r.a.Y.length r.a.cy, .slice r.a.av r.a.V.length r.a.cv]); refine Calls.mono (H6.out _ HB5.out) ?_; rintro e w6 ⟨rfl, hb6⟩; have K6 := K5.keep hb6; have c6 := K6.cell; have l6 := K6.lt; have HB6 := Lib.hid (HB5.out.trans (hb6.mono HB5.out.size)); clear hb6 c5 l5)
    | (go_at_call_of 55 (Value.agg #[.slice r.b.ax r.b.X.length r.b.cx, .slice r.b.ay r.b.Y.length r.b.cy, .slice r.b.av r.b.V.length r.b.cv]); refine Calls.mono (H7.out _ HB6.out) ?_; rintro e w7 ⟨rfl, hb7⟩; have K7 := K6.keep hb7; have c7 := K7.cell; have l7 := K7.lt; have HB7 := Lib.hid (HB6.out.trans (hb7.mono HB6.out.size)); clear hb7 c6 l6)
    | (go_at_call_of 55 (Value.agg #[.slice r.d.ax r.d.X.length r.d.cx, .slice r.d.ay r.d.Y.length r.d.cy, .slice r.d.av r.d.V.length r.d.cv]); refine Calls.mono (H8.out _ HB7.out) ?_; rintro e w8 ⟨rfl, hb8⟩; have K8 := K7.keep hb8; have c8 := K8.cell; have l8 := K8.lt; have HB8 := Lib.hid (HB7.out.trans (hb8.mono HB7.out.size)); clear hb8 c7 l7)
    | (go_at_call_of 56 (Value.slice r.a.ax r.a.X.length r.a.cx); refine Calls.mono (H9.out _ HB8.out) ?_; rintro e w9 ⟨rfl, hb9⟩; have K9 := K8.keep hb9; have c9 := K9.cell; have l9 := K9.lt; have HB9 := Lib.hid (HB8.out.trans (hb9.mono HB8.out.size)); clear hb9 c8 l8)
    | (go_at_call_of 56 (Value.slice r.a.ay r.a.Y.length r.a.cy); refine Calls.mono (H10.out _ HB9.out) ?_; rintro e w10 ⟨rfl, hb10⟩; have K10 := K9.keep hb10; have c10 := K10.cell; have l10 := K10.lt; have HB10 := Lib.hid (HB9.out.trans (hb10.mono HB9.out.size)); clear hb10 c9 l9)
    | (go_at_call_of 57 (Value.int .i64 r.cl); refine Calls.mono (H11.out _) ?_; rintro e w11 ⟨rfl, rfl⟩)
    | (go_at_call_of 57 (Value.int .i64 r.bu); refine Calls.mono (H12.out _) ?_; rintro e w12 ⟨rfl, rfl⟩))
  clear c10 l10
  go_loopw [3] (fun i wr => ∃ k : Nat, k ≤ r.a.X.length ∧ i = .int .i64 k ∧ leVK r.a.V r.b.V k = true ∧ BK wr w.heap.size #[.slice r.h.ax r.h.X.length r.h.cx, .slice r.h.ay r.h.Y.length r.h.cy, .slice r.h.av r.h.V.length r.h.cv, .slice r.g.ax r.g.X.length r.g.cx, .slice r.g.ay r.g.Y.length r.g.cy, .slice r.g.av r.g.V.length r.g.cv, .slice r.l.ax r.l.X.length r.l.cx, .slice r.l.ay r.l.Y.length r.l.cy, .slice r.l.av r.l.V.length r.l.cv, .slice r.p.ax r.p.X.length r.p.cx, .slice r.p.ay r.p.Y.length r.p.cy, .slice r.p.av r.p.V.length r.p.cv, .slice r.n.ax r.n.X.length r.n.cx, .slice r.n.ay r.n.Y.length r.n.cy, .slice r.n.av r.n.V.length r.n.cv, .slice r.a.ax r.a.X.length r.a.cx, .slice r.a.ay r.a.Y.length r.a.cy, .slice r.a.av r.a.V.length r.a.cv, .slice r.b.ax r.b.X.length r.b.cx, .slice r.b.ay r.b.Y.length r.b.cy, .slice r.b.av r.b.V.length r.b.cv, .slice r.d.ax r.d.X.length r.d.cx, .slice r.d.ay r.d.Y.length r.d.cy, .slice r.d.av r.d.V.length r.d.cv, .int .i64 r.cl, .int .i64 r.bu] 27 ∧ Below w.heap.size w wr) (fun i _ => r.a.X.length - (intOf i).toNat)
  case atStart => exact ⟨0, by omega, rfl, rfl, K10, HB10.out⟩
  case round =>
    obtain ⟨k, hk, rfl, hw, KR, hbw⟩ := hrel
    have HW := Lib.hid hw
    have HBW := Lib.hid hbw
    have HKR := Lib.hid KR
    have c := KR.cell
    have l := KR.lt
    clear hw hbw KR
    by_cases hlt : k < r.a.X.length
    · obtain ⟨b, off, s, A', c', hA, hb, hr, hc, hri⟩ := (HV.out.below HBW.out).at_ (k := k) (by rw [HL.out.1]; exact hlt)
      obtain ⟨bu, offu, u, Au, cu, hAu, hbu, hs, hcu, hsi⟩ := (HU.out.below HBW.out).at_ (k := k) (by rw [HL.out.2.1]; exact hlt)
      have hkv : (k : Int) < r.b.V.length := by rw [HL.out.2.1]; omega
      have hkv' : (k : Int) < r.a.V.length := by rw [HL.out.1]; omega
      have hrl := HL.out.2.2.1 k s hr
      have hsl := HL.out.2.2.2 k u hs
      have HR := Lib.hid (And.intro hr hs)
      have HRI := Lib.hid (And.intro hri hsi)
      have HRL := Lib.hid (And.intro hrl hsl)
      rw [hrl] at hc
      rw [hsl] at hcu
      have HCC := Lib.hid (And.intro hc hcu)
      clear hr hs hri hsi hrl hsl hc hcu
      go_wp2
      clear c l
      go_loopw [4] (fun i wq => ∃ m : Nat, m ≤ r.a.Y.length ∧ i = .int .i64 m ∧ leK s u m = true ∧ BK wq w.heap.size #[.slice r.h.ax r.h.X.length r.h.cx, .slice r.h.ay r.h.Y.length r.h.cy, .slice r.h.av r.h.V.length r.h.cv, .slice r.g.ax r.g.X.length r.g.cx, .slice r.g.ay r.g.Y.length r.g.cy, .slice r.g.av r.g.V.length r.g.cv, .slice r.l.ax r.l.X.length r.l.cx, .slice r.l.ay r.l.Y.length r.l.cy, .slice r.l.av r.l.V.length r.l.cv, .slice r.p.ax r.p.X.length r.p.cx, .slice r.p.ay r.p.Y.length r.p.cy, .slice r.p.av r.p.V.length r.p.cv, .slice r.n.ax r.n.X.length r.n.cx, .slice r.n.ay r.n.Y.length r.n.cy, .slice r.n.av r.n.V.length r.n.cv, .slice r.a.ax r.a.X.length r.a.cx, .slice r.a.ay r.a.Y.length r.a.cy, .slice r.a.av r.a.V.length r.a.cv, .slice r.b.ax r.b.X.length r.b.cx, .slice r.b.ay r.b.Y.length r.b.cy, .slice r.b.av r.b.V.length r.b.cv, .slice r.d.ax r.d.X.length r.d.cx, .slice r.d.ay r.d.Y.length r.d.cy, .slice r.d.av r.d.V.length r.d.cv, .int .i64 r.cl, .int .i64 r.bu] 27 ∧ Below wr.heap.size wr wq) (fun i _ => r.a.Y.length - (intOf i).toNat)
      case atStart => exact ⟨0, by omega, rfl, rfl, HKR.out, Below.refl _ _⟩
      case round =>
        obtain ⟨m, hm, rfl, hv, KQ, hbq⟩ := hrel
        have HV2 := Lib.hid hv
        have HBQ := Lib.hid hbq
        have HKQ := Lib.hid KQ
        have cq := KQ.cell
        have lq := KQ.lt
        clear hv hbq KQ
        by_cases hlt2 : m < r.a.Y.length
        · obtain ⟨b', off', x, rfl, hb', hx, hc'⟩ := (HRI.out.1.below (HBQ.out.mono HBW.out.size)).at_ (k := m) (by rw [HRL.out.1]; exact hlt2)
          obtain ⟨b'', off'', y, rfl, hb'', hy, hc''⟩ := (HRI.out.2.below (HBQ.out.mono HBW.out.size)).at_ (k := m) (by rw [HRL.out.2]; exact hlt2)
          have HX := Lib.hid (And.intro hx hy)
          have hc := cell_keep HBQ.out HCC.out.1
          have hcu := cell_keep HBQ.out HCC.out.2
          clear hx hy
          have hm' : (m : Int) < r.a.Y.length := by omega
          have hm0 : (0 : Int) ≤ (m : Int) := by omega
          have hk0 : (0 : Int) ≤ (k : Int) := by omega
          generalize r.a.av = av at *
          generalize r.b.av = uv at *
          obtain rfl := hA
          obtain rfl := hAu
          by_cases hin : y < x
          · go_wp2
            go_quiet (fail)
            go_wp2
            go_ret
            exact ⟨ret_int (by rw [← HRES.out, leV_bad HR.out.1 HR.out.2 (leR_bad HX.out.1 HX.out.2 hin)]; rfl), by first | exact below_drewN (HBW.out.trans (HBQ.out.mono HBW.out.size)) _ | exact (HBW.out.trans (HBQ.out.mono HBW.out.size))⟩
          · have hin' : x ≤ y := by omega
            clear hin
            go_wp2
            go_quiet (fail)
            go_wp2
            go_roundw
            case rel => exact ⟨m + 1, by omega, by go_num, by rw [leK_step HX.out.1 HX.out.2, HV2.out]; simpa using hin', HKQ.out, by first | exact below_drewN HBQ.out _ | exact HBQ.out⟩
            case measure => simp [intOf]; omega
        · have hwb : leR s u = true := by
            have := HV2.out
            unfold leK at this
            unfold leR
            rw [show s.length = m by rw [HRL.out.1]; omega]
            exact this
          have HWB := Lib.hid hwb
          clear hwb
          go_wp2
          go_roundw
          case rel => exact ⟨k + 1, by omega, by go_num, by rw [leVK_step HR.out.1 HR.out.2, HW.out, HWB.out]; rfl, HKQ.out, HBW.out.trans (HBQ.out.mono HBW.out.size)⟩
          case measure => simp [intOf]; omega
    · go_wp2
      go_ret
      exact ⟨ret_int (by have hw := HW.out; unfold leVK at hw; rw [← HRES.out]; unfold leV; rw [show r.a.V.length = k by rw [HL.out.1]; omega, hw]; rfl), HBW.out⟩
theorem rrotcheck_any (r : RO) (w : World) (rg : RG w r) : Calls Try.prog 18 #[.agg #[.slice r.h.ax r.h.X.length r.h.cx, .slice r.h.ay r.h.Y.length r.h.cy, .slice r.h.av r.h.V.length r.h.cv, .slice r.g.ax r.g.X.length r.g.cx, .slice r.g.ay r.g.Y.length r.g.cy, .slice r.g.av r.g.V.length r.g.cv, .slice r.l.ax r.l.X.length r.l.cx, .slice r.l.ay r.l.Y.length r.l.cy, .slice r.l.av r.l.V.length r.l.cv, .slice r.p.ax r.p.X.length r.p.cx, .slice r.p.ay r.p.Y.length r.p.cy, .slice r.p.av r.p.V.length r.p.cv, .slice r.n.ax r.n.X.length r.n.cx, .slice r.n.ay r.n.Y.length r.n.cy, .slice r.n.av r.n.V.length r.n.cv, .slice r.a.ax r.a.X.length r.a.cx, .slice r.a.ay r.a.Y.length r.a.cy, .slice r.a.av r.a.V.length r.a.cv, .slice r.b.ax r.b.X.length r.b.cx, .slice r.b.ay r.b.Y.length r.b.cy, .slice r.b.av r.b.V.length r.b.cv, .slice r.d.ax r.d.X.length r.d.cx, .slice r.d.ay r.d.Y.length r.d.cy, .slice r.d.av r.d.V.length r.d.cv, .int .i64 r.cl, .int .i64 r.bu]] w fun e w' => e = .returned (.int .i64 r.err) ∧ Below w.heap.size w w' := by
  unfold RO.err RO.ok rinB
  rw [show wB 1 1000 [r.cl, r.bu] = ((decide (1 ≤ r.cl) && decide (r.cl ≤ 1000)) && (decide (1 ≤ r.bu) && decide (r.bu ≤ 1000))) by simp [wB]]
  cases e1 : filB 0 100000 r.h with
  | false => simpa using rcheck_f1 r w rg e1
  | true =>
  cases e2 : filB 0 100 r.g with
  | false => simpa using rcheck_f2 r w rg e1 e2
  | true =>
  cases e3 : filB 0 100000 r.l with
  | false => simpa using rcheck_f3 r w rg e1 e2 e3
  | true =>
  cases e4 : filB 0 100000 r.p with
  | false => simpa using rcheck_f4 r w rg e1 e2 e3 e4
  | true =>
  cases e5 : filB 0 10000 r.n with
  | false => simpa using rcheck_f5 r w rg e1 e2 e3 e4 e5
  | true =>
  cases e6 : filB 0 10000 r.a with
  | false => simpa using rcheck_f6 r w rg e1 e2 e3 e4 e5 e6
  | true =>
  cases e7 : filB 0 10000 r.b with
  | false => simpa using rcheck_f7 r w rg e1 e2 e3 e4 e5 e6 e7
  | true =>
  cases e8 : filB 1 10000 r.d with
  | false => simpa using rcheck_f8 r w rg e1 e2 e3 e4 e5 e6 e7 e8
  | true =>
  cases e9 : decide (r.a.X = r.b.X) with
  | false => simpa using rcheck_f9 r w rg e1 e2 e3 e4 e5 e6 e7 e8 e9
  | true =>
  cases e10 : decide (r.a.Y = r.b.Y) with
  | false => simpa using rcheck_f10 r w rg e1 e2 e3 e4 e5 e6 e7 e8 e9 e10
  | true =>
  cases e11 : (decide (1 ≤ r.cl) && decide (r.cl ≤ 1000)) with
  | false => simpa using rcheck_f11 r w rg e1 e2 e3 e4 e5 e6 e7 e8 e9 e10 e11
  | true =>
  cases e12 : (decide (1 ≤ r.bu) && decide (r.bu ≤ 1000)) with
  | false => simpa using rcheck_f12 r w rg e1 e2 e3 e4 e5 e6 e7 e8 e9 e10 e11 e12
  | true =>
  simpa using rcheck_ok r w rg e1 e2 e3 e4 e5 e6 e7 e8 e9 e10 e11 e12
end Go.Proofs.Ythhokiigdgpmcaa

/- Arguments of layer 2's laws, opened. -/
namespace Go.Proofs.Ythhokiigdgpmcaa
open Go.RowKit Go.WideShapes Go.ChangeShapes Go.ChangeAt Go.Joins Go.Deep

set_option maxRecDepth 100000
theorem arrD26 {cs : Array Value} (h : cs.size = 26) : ∃ c0 c1 c2 c3 c4 c5 c6 c7 c8 c9 c10 c11 c12 c13 c14 c15 c16 c17 c18 c19 c20 c21 c22 c23 c24 c25, cs = #[c0, c1, c2, c3, c4, c5, c6, c7, c8, c9, c10, c11, c12, c13, c14, c15, c16, c17, c18, c19, c20, c21, c22, c23, c24, c25] :=
  ⟨cs[0], cs[1], cs[2], cs[3], cs[4], cs[5], cs[6], cs[7], cs[8], cs[9], cs[10], cs[11], cs[12], cs[13], cs[14], cs[15], cs[16], cs[17], cs[18], cs[19], cs[20], cs[21], cs[22], cs[23], cs[24], cs[25], by
    apply Array.ext (by simp [h])
    intro i h1 h2
    simp at h2
    match i, h2 with
    | 0, _ => rfl
    | 1, _ => rfl
    | 2, _ => rfl
    | 3, _ => rfl
    | 4, _ => rfl
    | 5, _ => rfl
    | 6, _ => rfl
    | 7, _ => rfl
    | 8, _ => rfl
    | 9, _ => rfl
    | 10, _ => rfl
    | 11, _ => rfl
    | 12, _ => rfl
    | 13, _ => rfl
    | 14, _ => rfl
    | 15, _ => rfl
    | 16, _ => rfl
    | 17, _ => rfl
    | 18, _ => rfl
    | 19, _ => rfl
    | 20, _ => rfl
    | 21, _ => rfl
    | 22, _ => rfl
    | 23, _ => rfl
    | 24, _ => rfl
    | 25, _ => rfl
    | i + 26, h9 => exact absurd h9 (by omega)⟩
theorem arrD8 {cs : Array Value} (h : cs.size = 8) : ∃ c0 c1 c2 c3 c4 c5 c6 c7, cs = #[c0, c1, c2, c3, c4, c5, c6, c7] :=
  ⟨cs[0], cs[1], cs[2], cs[3], cs[4], cs[5], cs[6], cs[7], by
    apply Array.ext (by simp [h])
    intro i h1 h2
    simp at h2
    match i, h2 with
    | 0, _ => rfl
    | 1, _ => rfl
    | 2, _ => rfl
    | 3, _ => rfl
    | 4, _ => rfl
    | 5, _ => rfl
    | 6, _ => rfl
    | 7, _ => rfl
    | i + 8, h9 => exact absurd h9 (by omega)⟩
section
variable {H : Type} {enc : TypeId × Value → H}
theorem cells_rotD : Try.prog.cellsOf 27 = 26 := by kernel_rfl
theorem cells_tabD : Try.prog.cellsOf 25 = 3 := by kernel_rfl
theorem cells_intD : Try.prog.cellsOf 3 = 1 := by kernel_rfl
theorem cells_intsD : Try.prog.cellsOf 22 = 1 := by kernel_rfl
theorem cells_rowsD : Try.prog.cellsOf 23 = 1 := by kernel_rfl
theorem cells_airD : Try.prog.cellsOf 36 = 8 := by kernel_rfl
theorem cells_spD : Try.prog.cellsOf 34 = 2 := by kernel_rfl
theorem table_cellsD {w : World} {base : Nat} {fuel : Nat} {c0 c1 c2 : Value} {x : DataW H × List MemPlace} (h : DataW.trod enc Try.prog w base (fun _ => true) true fuel 25 [c0, c1, c2] = some x) :
    ∃ t : TV, c0 = .slice t.ax t.X.length t.cx ∧ c1 = .slice t.ay t.Y.length t.cy ∧ c2 = .slice t.av t.V.length t.cv ∧ TG w t := by
  obtain ⟨z0, z1, z2, n', _, _, k0, k1, k2⟩ := trod_struct3 Try.underlying25 h
  simp only [cells_intsD, cells_rowsD] at k0 k1 k2
  obtain ⟨AX, nx, cx, X, e1, hx, hnx, rx⟩ := ints_of (by simpa using k0)
  obtain ⟨AY, ny, cy, Y, e2, hy, hny, ry⟩ := ints_of (by simpa using k1)
  obtain ⟨AV, nv, cv, V, e3, hv', hnv, hnr, rv⟩ := rows_of (by simpa using k2)
  simp at e1 e2 e3
  subst hx hy hv'
  exact ⟨⟨AX, cx, AY, cy, AV, cv, X, Y, V⟩, e1, e2, e3, ⟨hnx, hny, hnv, hnr, ⟨rx, ry, rv⟩⟩⟩
theorem span_cellsD {w : World} {base : Nat} {spare : Nat → Bool} {held : Bool} {fuel : Nat} {c0 c1 : Value} {x : DataW H × List MemPlace} (h : DataW.trod enc Try.prog w base spare held fuel 34 [c0, c1] = some x) : ∃ s : Int × Int, c0 = .int .i64 s.1 ∧ c1 = .int .i64 s.2 := by
  obtain ⟨y0, y1, n, _, _, h0, h1⟩ := trod_struct2 Try.underlying34 h
  simp only [cells_intD] at h0 h1
  obtain ⟨a, e0, _, _⟩ := DataW.trod_int Try.underlying3 (by simpa using h0)
  obtain ⟨b, e1, _, _⟩ := DataW.trod_int Try.underlying3 (by simpa using h1)
  simp at e0 e1
  exact ⟨(a, b), e0, e1⟩
/-- A rotor by value, opened. -/
theorem rotor_open {w : World} {base : Nat} {r : Reach} {b0 : Nat} {v : Value} {d : DataW H} {p : List MemPlace}
    (hv : Value.okWide Try.prog w r b0 27 v) (h : DataW.Trod enc Try.prog w base (fun _ => true) true 27 v d p) :
    ∃ q : RO, v = .agg #[.slice q.h.ax q.h.X.length q.h.cx, .slice q.h.ay q.h.Y.length q.h.cy, .slice q.h.av q.h.V.length q.h.cv, .slice q.g.ax q.g.X.length q.g.cx, .slice q.g.ay q.g.Y.length q.g.cy, .slice q.g.av q.g.V.length q.g.cv, .slice q.l.ax q.l.X.length q.l.cx, .slice q.l.ay q.l.Y.length q.l.cy, .slice q.l.av q.l.V.length q.l.cv, .slice q.p.ax q.p.X.length q.p.cx, .slice q.p.ay q.p.Y.length q.p.cy, .slice q.p.av q.p.V.length q.p.cv, .slice q.n.ax q.n.X.length q.n.cx, .slice q.n.ay q.n.Y.length q.n.cy, .slice q.n.av q.n.V.length q.n.cv, .slice q.a.ax q.a.X.length q.a.cx, .slice q.a.ay q.a.Y.length q.a.cy, .slice q.a.av q.a.V.length q.a.cv, .slice q.b.ax q.b.X.length q.b.cx, .slice q.b.ay q.b.Y.length q.b.cy, .slice q.b.av q.b.V.length q.b.cv, .slice q.d.ax q.d.X.length q.d.cx, .slice q.d.ay q.d.Y.length q.d.cy, .slice q.d.av q.d.V.length q.d.cv, .int .i64 q.cl, .int .i64 q.bu] ∧ RG w q := by
  obtain ⟨cs, rfl, hsz⟩ := okWide_struct Try.underlying27 hv
  obtain ⟨c0, c1, c2, c3, c4, c5, c6, c7, c8, c9, c10, c11, c12, c13, c14, c15, c16, c17, c18, c19, c20, c21, c22, c23, c24, c25, rfl⟩ := arrD26 (hsz.trans cells_rotD)
  obtain ⟨fuel, hf⟩ := h
  obtain ⟨xs, n, _, _, _, hlen, hg⟩ := DataW.trod_struct Try.underlying27 hf
  match xs, hlen with
  | [z0, z1, z2, z3, z4, z5, z6, z7, z8, z9], _ =>
    have k0 : DataW.trod enc Try.prog w base (fun _ => true) true n 25 [c0, c1, c2] = some z0 := by
      have := hg 0 _ rfl
      simpa [Value.cells, cells_tabD] using this
    obtain ⟨t0, e0, f0, g0, h0⟩ := table_cellsD k0
    have k1 : DataW.trod enc Try.prog w base (fun _ => true) true n 25 [c3, c4, c5] = some z1 := by
      have := hg 1 _ rfl
      simpa [Value.cells, cells_tabD] using this
    obtain ⟨t1, e1, f1, g1, h1⟩ := table_cellsD k1
    have k2 : DataW.trod enc Try.prog w base (fun _ => true) true n 25 [c6, c7, c8] = some z2 := by
      have := hg 2 _ rfl
      simpa [Value.cells, cells_tabD] using this
    obtain ⟨t2, e2, f2, g2, h2⟩ := table_cellsD k2
    have k3 : DataW.trod enc Try.prog w base (fun _ => true) true n 25 [c9, c10, c11] = some z3 := by
      have := hg 3 _ rfl
      simpa [Value.cells, cells_tabD] using this
    obtain ⟨t3, e3, f3, g3, h3⟩ := table_cellsD k3
    have k4 : DataW.trod enc Try.prog w base (fun _ => true) true n 25 [c12, c13, c14] = some z4 := by
      have := hg 4 _ rfl
      simpa [Value.cells, cells_tabD] using this
    obtain ⟨t4, e4, f4, g4, h4⟩ := table_cellsD k4
    have k5 : DataW.trod enc Try.prog w base (fun _ => true) true n 25 [c15, c16, c17] = some z5 := by
      have := hg 5 _ rfl
      simpa [Value.cells, cells_tabD] using this
    obtain ⟨t5, e5, f5, g5, h5⟩ := table_cellsD k5
    have k6 : DataW.trod enc Try.prog w base (fun _ => true) true n 25 [c18, c19, c20] = some z6 := by
      have := hg 6 _ rfl
      simpa [Value.cells, cells_tabD] using this
    obtain ⟨t6, e6, f6, g6, h6⟩ := table_cellsD k6
    have k7 : DataW.trod enc Try.prog w base (fun _ => true) true n 25 [c21, c22, c23] = some z7 := by
      have := hg 7 _ rfl
      simpa [Value.cells, cells_tabD] using this
    obtain ⟨t7, e7, f7, g7, h7⟩ := table_cellsD k7
    have k8 : DataW.trod enc Try.prog w base (fun _ => true) true n 3 [c24] = some z8 := by
      have := hg 8 _ rfl
      simpa [Value.cells, cells_intD] using this
    obtain ⟨m8, e8, _, _⟩ := DataW.trod_int Try.underlying3 k8
    simp at e8
    have k9 : DataW.trod enc Try.prog w base (fun _ => true) true n 3 [c25] = some z9 := by
      have := hg 9 _ rfl
      simpa [Value.cells, cells_intD] using this
    obtain ⟨m9, e9, _, _⟩ := DataW.trod_int Try.underlying3 k9
    simp at e9
    subst e0 f0 g0 e1 f1 g1 e2 f2 g2 e3 f3 g3 e4 f4 g4 e5 f5 g5 e6 f6 g6 e7 f7 g7 e8 e9
    exact ⟨⟨t0, t1, t2, t3, t4, t5, t6, t7, m8, m9⟩, rfl, ⟨h0, h1, h2, h3, h4, h5, h6, h7⟩⟩
/-- An air by value, opened. -/
theorem air_open {w : World} {base : Nat} {spare : Nat → Bool} {held : Bool} {r : Reach} {b0 : Nat} {v : Value} {d : DataW H} {p : List MemPlace}
    (hv : Value.okWide Try.prog w r b0 36 v) (h : DataW.Trod enc Try.prog w base spare held 36 v d p) : ∃ a : AI, v = .agg #[.int .i64 a.w.1, .int .i64 a.w.2, .int .i64 a.t.1, .int .i64 a.t.2, .int .i64 a.h.1, .int .i64 a.h.2, .int .i64 a.v.1, .int .i64 a.v.2] := by
  obtain ⟨cs, rfl, hsz⟩ := okWide_struct Try.underlying36 hv
  obtain ⟨c0, c1, c2, c3, c4, c5, c6, c7, rfl⟩ := arrD8 (hsz.trans cells_airD)
  obtain ⟨fuel, hf⟩ := h
  obtain ⟨xs, n, _, _, _, hlen, hg⟩ := DataW.trod_struct Try.underlying36 hf
  match xs, hlen with
  | [z0, z1, z2, z3], _ =>
    have k0 : DataW.trod enc Try.prog w base spare held n 34 [c0, c1] = some z0 := by
      have := hg 0 _ rfl
      simpa [Value.cells, cells_spD] using this
    obtain ⟨s0, e0, f0⟩ := span_cellsD k0
    have k1 : DataW.trod enc Try.prog w base spare held n 34 [c2, c3] = some z1 := by
      have := hg 1 _ rfl
      simpa [Value.cells, cells_spD] using this
    obtain ⟨s1, e1, f1⟩ := span_cellsD k1
    have k2 : DataW.trod enc Try.prog w base spare held n 34 [c4, c5] = some z2 := by
      have := hg 2 _ rfl
      simpa [Value.cells, cells_spD] using this
    obtain ⟨s2, e2, f2⟩ := span_cellsD k2
    have k3 : DataW.trod enc Try.prog w base spare held n 34 [c6, c7] = some z3 := by
      have := hg 3 _ rfl
      simpa [Value.cells, cells_spD] using this
    obtain ⟨s3, e3, f3⟩ := span_cellsD k3
    subst e0 f0 e1 f1 e2 f2 e3 f3
    exact ⟨⟨s0, s1, s2, s3⟩, rfl⟩
theorem spanD_open {w : World} {base : Nat} {spare : Nat → Bool} {held : Bool} {r : Reach} {b0 : Nat} {v : Value} {d : DataW H} {p : List MemPlace}
    (hv : Value.okWide Try.prog w r b0 34 v) (h : DataW.Trod enc Try.prog w base spare held 34 v d p) : ∃ s : Int × Int, v = .agg #[.int .i64 s.1, .int .i64 s.2] := by
  obtain ⟨a, b, e, _⟩ := span_open hv h
  exact ⟨(a, b), e⟩
end
/-- A value that is a copy of a rotor. -/
def QO (r : RO) (v : Value) (W : World) : Prop := ∃ q : RO, v = .agg #[.slice q.h.ax q.h.X.length q.h.cx, .slice q.h.ay q.h.Y.length q.h.cy, .slice q.h.av q.h.V.length q.h.cv, .slice q.g.ax q.g.X.length q.g.cx, .slice q.g.ay q.g.Y.length q.g.cy, .slice q.g.av q.g.V.length q.g.cv, .slice q.l.ax q.l.X.length q.l.cx, .slice q.l.ay q.l.Y.length q.l.cy, .slice q.l.av q.l.V.length q.l.cv, .slice q.p.ax q.p.X.length q.p.cx, .slice q.p.ay q.p.Y.length q.p.cy, .slice q.p.av q.p.V.length q.p.cv, .slice q.n.ax q.n.X.length q.n.cx, .slice q.n.ay q.n.Y.length q.n.cy, .slice q.n.av q.n.V.length q.n.cv, .slice q.a.ax q.a.X.length q.a.cx, .slice q.a.ay q.a.Y.length q.a.cy, .slice q.a.av q.a.V.length q.a.cv, .slice q.b.ax q.b.X.length q.b.cx, .slice q.b.ay q.b.Y.length q.b.cy, .slice q.b.av q.b.V.length q.b.cv, .slice q.d.ax q.d.X.length q.d.cx, .slice q.d.ay q.d.Y.length q.d.cy, .slice q.d.av q.d.V.length q.d.cv, .int .i64 q.cl, .int .i64 q.bu] ∧ r.same q ∧ RG W q
theorem QO.stay {r : RO} {v : Value} {W W' : World} (h : QO r v W) (hb : Below W.heap.size W W') : QO r v W' := by
  obtain ⟨q, e, hs, hg⟩ := h
  exact ⟨q, e, hs, hg.below hb⟩
end Go.Proofs.Ythhokiigdgpmcaa

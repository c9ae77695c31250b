/- swashplatelaw02.RotorHeaviest returns true at every input, and the input reads as it did: no condition. -/
import Derived.Test.YthhokiigdgpmcaaM12
import Derived.Test.YthhokiigdgpmcaaM7
import Derived.Test.YthhokiigdgpmcaaM9
import Derived.Test.YthhokiigdgpmcaaM3
import Derived.Test.YthhokiigdgpmcaaM10

/- CheckAir, lies, bound, up of layer 2's reference. -/
namespace Go.Proofs.Ythhokiigdgpmcaa
open Go.RowKit

set_option maxRecDepth 100000
theorem rvalS_any (s : Int × Int) (w : World) : Calls Try.prog 43 #[.agg #[.int .i64 s.1, .int .i64 s.2]] w fun e w' => e = .returned (.bool (vS s)) ∧ Below w.heap.size w w' := by
  rw [vS_vI' s]
  exact rvalid_any s.1 s.2 w

theorem cair_f0 (r : RO) (a : AI) (CS : Array Value) (w : World) (rg : RG w r) (hc : CS = #[.slice r.h.ax r.h.X.length r.h.cx, .slice r.h.ay r.h.Y.length r.h.cy, .slice r.h.av r.h.V.length r.h.cv, .slice r.g.ax r.g.X.length r.g.cx, .slice r.g.ay r.g.Y.length r.g.cy, .slice r.g.av r.g.V.length r.g.cv, .slice r.l.ax r.l.X.length r.l.cx, .slice r.l.ay r.l.Y.length r.l.cy, .slice r.l.av r.l.V.length r.l.cv, .slice r.p.ax r.p.X.length r.p.cx, .slice r.p.ay r.p.Y.length r.p.cy, .slice r.p.av r.p.V.length r.p.cv, .slice r.n.ax r.n.X.length r.n.cx, .slice r.n.ay r.n.Y.length r.n.cy, .slice r.n.av r.n.V.length r.n.cv, .slice r.a.ax r.a.X.length r.a.cx, .slice r.a.ay r.a.Y.length r.a.cy, .slice r.a.av r.a.V.length r.a.cv, .slice r.b.ax r.b.X.length r.b.cx, .slice r.b.ay r.b.Y.length r.b.cy, .slice r.b.av r.b.V.length r.b.cv, .slice r.d.ax r.d.X.length r.d.cx, .slice r.d.ay r.d.Y.length r.d.cy, .slice r.d.av r.d.V.length r.d.cv, .int .i64 r.cl, .int .i64 r.bu]) (h : r.ok = false) : Calls Try.prog 42 #[.agg CS, .agg #[.int .i64 a.w.1, .int .i64 a.w.2, .int .i64 a.t.1, .int .i64 a.t.2, .int .i64 a.h.1, .int .i64 a.h.2, .int .i64 a.v.1, .int .i64 a.v.2]] w fun e w' => e = .returned (.int .i64 20) ∧ Below w.heap.size w w' := by
  have HCK := Lib.hid (fun (W : World) (hW : Below w.heap.size w W) => show Calls Try.prog 18 #[.agg CS] W fun e w' => e = .returned (.int .i64 20) ∧ Below W.heap.size W w' by
    have := rrotcheck_any r W (rg.below hW)
    rw [show r.err = 20 by unfold RO.err; rw [h]; rfl, ← hc] at this
    exact this)
  have HSZ := Lib.hid (show CS.size = 26 by rw [hc]; rfl)
  have X1 := Lib.hid ((BK.new (w := w) (cs := CS) (T := 27)).old (x := .cells #[.int .i64 a.w.1, .int .i64 a.w.2, .int .i64 a.t.1, .int .i64 a.t.2, .int .i64 a.h.1, .int .i64 a.h.2, .int .i64 a.v.1, .int .i64 a.v.2] 36))
  have X2 := Lib.hid (BK.newg (w := w.alloc (.cells CS 27)) (g := w.heap.size + 1) (cs := #[.int .i64 a.w.1, .int .i64 a.w.2, .int .i64 a.t.1, .int .i64 a.t.2, .int .i64 a.h.1, .int .i64 a.h.2, .int .i64 a.v.1, .int .i64 a.v.2]) (T := 36) (by simp))
  have HB := Lib.hid (show Below w.heap.size w ((w.alloc (.cells CS 27)).alloc (.cells #[.int .i64 a.w.1, .int .i64 a.w.2, .int .i64 a.t.1, .int .i64 a.t.2, .int .i64 a.h.1, .int .i64 a.h.2, .int .i64 a.v.1, .int .i64 a.v.2] 36)) by go_grown)
  clear rg hc h
  go_enter Try.func42, Try.ntmps42
  go_wp2_with (first
    | ((with_reducible refine ldR X1.out HSZ.out ?_ ?_); rfl)
    | (go_at_call 18; refine Calls.mono (HCK.out _ HB.out) ?_; rintro e w1 ⟨rfl, hb1⟩; have HB1 := Lib.hid (HB.out.trans (hb1.mono HB.out.size)); clear hb1))
  go_ret
  exact ⟨rfl, HB1.out⟩
theorem cair_f1 (r : RO) (a : AI) (CS : Array Value) (w : World) (rg : RG w r) (hc : CS = #[.slice r.h.ax r.h.X.length r.h.cx, .slice r.h.ay r.h.Y.length r.h.cy, .slice r.h.av r.h.V.length r.h.cv, .slice r.g.ax r.g.X.length r.g.cx, .slice r.g.ay r.g.Y.length r.g.cy, .slice r.g.av r.g.V.length r.g.cv, .slice r.l.ax r.l.X.length r.l.cx, .slice r.l.ay r.l.Y.length r.l.cy, .slice r.l.av r.l.V.length r.l.cv, .slice r.p.ax r.p.X.length r.p.cx, .slice r.p.ay r.p.Y.length r.p.cy, .slice r.p.av r.p.V.length r.p.cv, .slice r.n.ax r.n.X.length r.n.cx, .slice r.n.ay r.n.Y.length r.n.cy, .slice r.n.av r.n.V.length r.n.cv, .slice r.a.ax r.a.X.length r.a.cx, .slice r.a.ay r.a.Y.length r.a.cy, .slice r.a.av r.a.V.length r.a.cv, .slice r.b.ax r.b.X.length r.b.cx, .slice r.b.ay r.b.Y.length r.b.cy, .slice r.b.av r.b.V.length r.b.cv, .slice r.d.ax r.d.X.length r.d.cx, .slice r.d.ay r.d.Y.length r.d.cy, .slice r.d.av r.d.V.length r.d.cv, .int .i64 r.cl, .int .i64 r.bu]) (h : r.ok = true) (e1 : vS a.w = false) : Calls Try.prog 42 #[.agg CS, .agg #[.int .i64 a.w.1, .int .i64 a.w.2, .int .i64 a.t.1, .int .i64 a.t.2, .int .i64 a.h.1, .int .i64 a.h.2, .int .i64 a.v.1, .int .i64 a.v.2]] w fun e w' => e = .returned (.int .i64 21) ∧ Below w.heap.size w w' := by
  have HCK := Lib.hid (fun (W : World) (hW : Below w.heap.size w W) => show Calls Try.prog 18 #[.agg CS] W fun e w' => e = .returned (.int .i64 0) ∧ Below W.heap.size W w' by
    have := rrotcheck_any r W (rg.below hW)
    rw [show r.err = 0 by unfold RO.err; rw [h]; rfl, ← hc] at this
    exact this)
  have H1 := Lib.hid (fun (W : World) => rvalS_any a.w W)
  rw [e1] at H1
  have HSZ := Lib.hid (show CS.size = 26 by rw [hc]; rfl)
  have X1 := Lib.hid ((BK.new (w := w) (cs := CS) (T := 27)).old (x := .cells #[.int .i64 a.w.1, .int .i64 a.w.2, .int .i64 a.t.1, .int .i64 a.t.2, .int .i64 a.h.1, .int .i64 a.h.2, .int .i64 a.v.1, .int .i64 a.v.2] 36))
  have X2 := Lib.hid (BK.newg (w := w.alloc (.cells CS 27)) (g := w.heap.size + 1) (cs := #[.int .i64 a.w.1, .int .i64 a.w.2, .int .i64 a.t.1, .int .i64 a.t.2, .int .i64 a.h.1, .int .i64 a.h.2, .int .i64 a.v.1, .int .i64 a.v.2]) (T := 36) (by simp))
  have HB := Lib.hid (show Below w.heap.size w ((w.alloc (.cells CS 27)).alloc (.cells #[.int .i64 a.w.1, .int .i64 a.w.2, .int .i64 a.t.1, .int .i64 a.t.2, .int .i64 a.h.1, .int .i64 a.h.2, .int .i64 a.v.1, .int .i64 a.v.2] 36)) by go_grown)
  clear rg hc h e1
  go_enter Try.func42, Try.ntmps42
  go_wp2_with (first
    | ((with_reducible refine ldR X1.out HSZ.out ?_ ?_); rfl)
    | (go_at_call 18; refine Calls.mono (HCK.out _ HB.out) ?_; rintro e w0 ⟨rfl, hb0⟩; have HB0 := Lib.hid (HB.out.trans (hb0.mono HB.out.size)); have K0 := X2.out.keep hb0; have c0 := K0.cell; have l0 := K0.lt; clear hb0)
    | (go_at_call_of 43 (Value.agg #[.int .i64 a.w.1, .int .i64 a.w.2]); refine Calls.mono (H1.out _) ?_; rintro e w1 ⟨rfl, hb1⟩; have HB1 := Lib.hid (HB0.out.trans (hb1.mono HB0.out.size)); have K1 := K0.keep hb1; have c1 := K1.cell; have l1 := K1.lt; clear hb1 c0 l0))
  go_ret
  exact ⟨rfl, HB1.out⟩
theorem cair_f2 (r : RO) (a : AI) (CS : Array Value) (w : World) (rg : RG w r) (hc : CS = #[.slice r.h.ax r.h.X.length r.h.cx, .slice r.h.ay r.h.Y.length r.h.cy, .slice r.h.av r.h.V.length r.h.cv, .slice r.g.ax r.g.X.length r.g.cx, .slice r.g.ay r.g.Y.length r.g.cy, .slice r.g.av r.g.V.length r.g.cv, .slice r.l.ax r.l.X.length r.l.cx, .slice r.l.ay r.l.Y.length r.l.cy, .slice r.l.av r.l.V.length r.l.cv, .slice r.p.ax r.p.X.length r.p.cx, .slice r.p.ay r.p.Y.length r.p.cy, .slice r.p.av r.p.V.length r.p.cv, .slice r.n.ax r.n.X.length r.n.cx, .slice r.n.ay r.n.Y.length r.n.cy, .slice r.n.av r.n.V.length r.n.cv, .slice r.a.ax r.a.X.length r.a.cx, .slice r.a.ay r.a.Y.length r.a.cy, .slice r.a.av r.a.V.length r.a.cv, .slice r.b.ax r.b.X.length r.b.cx, .slice r.b.ay r.b.Y.length r.b.cy, .slice r.b.av r.b.V.length r.b.cv, .slice r.d.ax r.d.X.length r.d.cx, .slice r.d.ay r.d.Y.length r.d.cy, .slice r.d.av r.d.V.length r.d.cv, .int .i64 r.cl, .int .i64 r.bu]) (h : r.ok = true) (e1 : vS a.w = true) (e2 : vS a.t = false) : Calls Try.prog 42 #[.agg CS, .agg #[.int .i64 a.w.1, .int .i64 a.w.2, .int .i64 a.t.1, .int .i64 a.t.2, .int .i64 a.h.1, .int .i64 a.h.2, .int .i64 a.v.1, .int .i64 a.v.2]] w fun e w' => e = .returned (.int .i64 21) ∧ Below w.heap.size w w' := by
  have HCK := Lib.hid (fun (W : World) (hW : Below w.heap.size w W) => show Calls Try.prog 18 #[.agg CS] W fun e w' => e = .returned (.int .i64 0) ∧ Below W.heap.size W w' by
    have := rrotcheck_any r W (rg.below hW)
    rw [show r.err = 0 by unfold RO.err; rw [h]; rfl, ← hc] at this
    exact this)
  have H1 := Lib.hid (fun (W : World) => rvalS_any a.w W)
  rw [e1] at H1
  have H2 := Lib.hid (fun (W : World) => rvalS_any a.t W)
  rw [e2] at H2
  have HSZ := Lib.hid (show CS.size = 26 by rw [hc]; rfl)
  have X1 := Lib.hid ((BK.new (w := w) (cs := CS) (T := 27)).old (x := .cells #[.int .i64 a.w.1, .int .i64 a.w.2, .int .i64 a.t.1, .int .i64 a.t.2, .int .i64 a.h.1, .int .i64 a.h.2, .int .i64 a.v.1, .int .i64 a.v.2] 36))
  have X2 := Lib.hid (BK.newg (w := w.alloc (.cells CS 27)) (g := w.heap.size + 1) (cs := #[.int .i64 a.w.1, .int .i64 a.w.2, .int .i64 a.t.1, .int .i64 a.t.2, .int .i64 a.h.1, .int .i64 a.h.2, .int .i64 a.v.1, .int .i64 a.v.2]) (T := 36) (by simp))
  have HB := Lib.hid (show Below w.heap.size w ((w.alloc (.cells CS 27)).alloc (.cells #[.int .i64 a.w.1, .int .i64 a.w.2, .int .i64 a.t.1, .int .i64 a.t.2, .int .i64 a.h.1, .int .i64 a.h.2, .int .i64 a.v.1, .int .i64 a.v.2] 36)) by go_grown)
  clear rg hc h e1 e2
  go_enter Try.func42, Try.ntmps42
  go_wp2_with (first
    | ((with_reducible refine ldR X1.out HSZ.out ?_ ?_); rfl)
    | (go_at_call 18; refine Calls.mono (HCK.out _ HB.out) ?_; rintro e w0 ⟨rfl, hb0⟩; have HB0 := Lib.hid (HB.out.trans (hb0.mono HB.out.size)); have K0 := X2.out.keep hb0; have c0 := K0.cell; have l0 := K0.lt; clear hb0)
    | (go_at_call_of 43 (Value.agg #[.int .i64 a.w.1, .int .i64 a.w.2]); refine Calls.mono (H1.out _) ?_; rintro e w1 ⟨rfl, hb1⟩; have HB1 := Lib.hid (HB0.out.trans (hb1.mono HB0.out.size)); have K1 := K0.keep hb1; have c1 := K1.cell; have l1 := K1.lt; clear hb1 c0 l0)
    | (go_at_call_of 43 (Value.agg #[.int .i64 a.t.1, .int .i64 a.t.2]); refine Calls.mono (H2.out _) ?_; rintro e w2 ⟨rfl, hb2⟩; have HB2 := Lib.hid (HB1.out.trans (hb2.mono HB1.out.size)); have K2 := K1.keep hb2; have c2 := K2.cell; have l2 := K2.lt; clear hb2 c1 l1))
  go_ret
  exact ⟨rfl, HB2.out⟩
theorem cair_f3 (r : RO) (a : AI) (CS : Array Value) (w : World) (rg : RG w r) (hc : CS = #[.slice r.h.ax r.h.X.length r.h.cx, .slice r.h.ay r.h.Y.length r.h.cy, .slice r.h.av r.h.V.length r.h.cv, .slice r.g.ax r.g.X.length r.g.cx, .slice r.g.ay r.g.Y.length r.g.cy, .slice r.g.av r.g.V.length r.g.cv, .slice r.l.ax r.l.X.length r.l.cx, .slice r.l.ay r.l.Y.length r.l.cy, .slice r.l.av r.l.V.length r.l.cv, .slice r.p.ax r.p.X.length r.p.cx, .slice r.p.ay r.p.Y.length r.p.cy, .slice r.p.av r.p.V.length r.p.cv, .slice r.n.ax r.n.X.length r.n.cx, .slice r.n.ay r.n.Y.length r.n.cy, .slice r.n.av r.n.V.length r.n.cv, .slice r.a.ax r.a.X.length r.a.cx, .slice r.a.ay r.a.Y.length r.a.cy, .slice r.a.av r.a.V.length r.a.cv, .slice r.b.ax r.b.X.length r.b.cx, .slice r.b.ay r.b.Y.length r.b.cy, .slice r.b.av r.b.V.length r.b.cv, .slice r.d.ax r.d.X.length r.d.cx, .slice r.d.ay r.d.Y.length r.d.cy, .slice r.d.av r.d.V.length r.d.cv, .int .i64 r.cl, .int .i64 r.bu]) (h : r.ok = true) (e1 : vS a.w = true) (e2 : vS a.t = true) (e3 : vS a.h = false) : Calls Try.prog 42 #[.agg CS, .agg #[.int .i64 a.w.1, .int .i64 a.w.2, .int .i64 a.t.1, .int .i64 a.t.2, .int .i64 a.h.1, .int .i64 a.h.2, .int .i64 a.v.1, .int .i64 a.v.2]] w fun e w' => e = .returned (.int .i64 21) ∧ Below w.heap.size w w' := by
  have HCK := Lib.hid (fun (W : World) (hW : Below w.heap.size w W) => show Calls Try.prog 18 #[.agg CS] W fun e w' => e = .returned (.int .i64 0) ∧ Below W.heap.size W w' by
    have := rrotcheck_any r W (rg.below hW)
    rw [show r.err = 0 by unfold RO.err; rw [h]; rfl, ← hc] at this
    exact this)
  have H1 := Lib.hid (fun (W : World) => rvalS_any a.w W)
  rw [e1] at H1
  have H2 := Lib.hid (fun (W : World) => rvalS_any a.t W)
  rw [e2] at H2
  have H3 := Lib.hid (fun (W : World) => rvalS_any a.h W)
  rw [e3] at H3
  have HSZ := Lib.hid (show CS.size = 26 by rw [hc]; rfl)
  have X1 := Lib.hid ((BK.new (w := w) (cs := CS) (T := 27)).old (x := .cells #[.int .i64 a.w.1, .int .i64 a.w.2, .int .i64 a.t.1, .int .i64 a.t.2, .int .i64 a.h.1, .int .i64 a.h.2, .int .i64 a.v.1, .int .i64 a.v.2] 36))
  have X2 := Lib.hid (BK.newg (w := w.alloc (.cells CS 27)) (g := w.heap.size + 1) (cs := #[.int .i64 a.w.1, .int .i64 a.w.2, .int .i64 a.t.1, .int .i64 a.t.2, .int .i64 a.h.1, .int .i64 a.h.2, .int .i64 a.v.1, .int .i64 a.v.2]) (T := 36) (by simp))
  have HB := Lib.hid (show Below w.heap.size w ((w.alloc (.cells CS 27)).alloc (.cells #[.int .i64 a.w.1, .int .i64 a.w.2, .int .i64 a.t.1, .int .i64 a.t.2, .int .i64 a.h.1, .int .i64 a.h.2, .int .i64 a.v.1, .int .i64 a.v.2] 36)) by go_grown)
  clear rg hc h e1 e2 e3
  go_enter Try.func42, Try.ntmps42
  go_wp2_with (first
    | ((with_reducible refine ldR X1.out HSZ.out ?_ ?_); rfl)
    | (go_at_call 18; refine Calls.mono (HCK.out _ HB.out) ?_; rintro e w0 ⟨rfl, hb0⟩; have HB0 := Lib.hid (HB.out.trans (hb0.mono HB.out.size)); have K0 := X2.out.keep hb0; have c0 := K0.cell; have l0 := K0.lt; clear hb0)
    | (go_at_call_of 43 (Value.agg #[.int .i64 a.w.1, .int .i64 a.w.2]); refine Calls.mono (H1.out _) ?_; rintro e w1 ⟨rfl, hb1⟩; have HB1 := Lib.hid (HB0.out.trans (hb1.mono HB0.out.size)); have K1 := K0.keep hb1; have c1 := K1.cell; have l1 := K1.lt; clear hb1 c0 l0)
    | (go_at_call_of 43 (Value.agg #[.int .i64 a.t.1, .int .i64 a.t.2]); refine Calls.mono (H2.out _) ?_; rintro e w2 ⟨rfl, hb2⟩; have HB2 := Lib.hid (HB1.out.trans (hb2.mono HB1.out.size)); have K2 := K1.keep hb2; have c2 := K2.cell; have l2 := K2.lt; clear hb2 c1 l1)
    | (go_at_call_of 43 (Value.agg #[.int .i64 a.h.1, .int .i64 a.h.2]); refine Calls.mono (H3.out _) ?_; rintro e w3 ⟨rfl, hb3⟩; have HB3 := Lib.hid (HB2.out.trans (hb3.mono HB2.out.size)); have K3 := K2.keep hb3; have c3 := K3.cell; have l3 := K3.lt; clear hb3 c2 l2))
  go_ret
  exact ⟨rfl, HB3.out⟩
theorem cair_f4 (r : RO) (a : AI) (CS : Array Value) (w : World) (rg : RG w r) (hc : CS = #[.slice r.h.ax r.h.X.length r.h.cx, .slice r.h.ay r.h.Y.length r.h.cy, .slice r.h.av r.h.V.length r.h.cv, .slice r.g.ax r.g.X.length r.g.cx, .slice r.g.ay r.g.Y.length r.g.cy, .slice r.g.av r.g.V.length r.g.cv, .slice r.l.ax r.l.X.length r.l.cx, .slice r.l.ay r.l.Y.length r.l.cy, .slice r.l.av r.l.V.length r.l.cv, .slice r.p.ax r.p.X.length r.p.cx, .slice r.p.ay r.p.Y.length r.p.cy, .slice r.p.av r.p.V.length r.p.cv, .slice r.n.ax r.n.X.length r.n.cx, .slice r.n.ay r.n.Y.length r.n.cy, .slice r.n.av r.n.V.length r.n.cv, .slice r.a.ax r.a.X.length r.a.cx, .slice r.a.ay r.a.Y.length r.a.cy, .slice r.a.av r.a.V.length r.a.cv, .slice r.b.ax r.b.X.length r.b.cx, .slice r.b.ay r.b.Y.length r.b.cy, .slice r.b.av r.b.V.length r.b.cv, .slice r.d.ax r.d.X.length r.d.cx, .slice r.d.ay r.d.Y.length r.d.cy, .slice r.d.av r.d.V.length r.d.cv, .int .i64 r.cl, .int .i64 r.bu]) (h : r.ok = true) (e1 : vS a.w = true) (e2 : vS a.t = true) (e3 : vS a.h = true) (e4 : vS a.v = false) : Calls Try.prog 42 #[.agg CS, .agg #[.int .i64 a.w.1, .int .i64 a.w.2, .int .i64 a.t.1, .int .i64 a.t.2, .int .i64 a.h.1, .int .i64 a.h.2, .int .i64 a.v.1, .int .i64 a.v.2]] w fun e w' => e = .returned (.int .i64 21) ∧ Below w.heap.size w w' := by
  have HCK := Lib.hid (fun (W : World) (hW : Below w.heap.size w W) => show Calls Try.prog 18 #[.agg CS] W fun e w' => e = .returned (.int .i64 0) ∧ Below W.heap.size W w' by
    have := rrotcheck_any r W (rg.below hW)
    rw [show r.err = 0 by unfold RO.err; rw [h]; rfl, ← hc] at this
    exact this)
  have H1 := Lib.hid (fun (W : World) => rvalS_any a.w W)
  rw [e1] at H1
  have H2 := Lib.hid (fun (W : World) => rvalS_any a.t W)
  rw [e2] at H2
  have H3 := Lib.hid (fun (W : World) => rvalS_any a.h W)
  rw [e3] at H3
  have H4 := Lib.hid (fun (W : World) => rvalS_any a.v W)
  rw [e4] at H4
  have HSZ := Lib.hid (show CS.size = 26 by rw [hc]; rfl)
  have X1 := Lib.hid ((BK.new (w := w) (cs := CS) (T := 27)).old (x := .cells #[.int .i64 a.w.1, .int .i64 a.w.2, .int .i64 a.t.1, .int .i64 a.t.2, .int .i64 a.h.1, .int .i64 a.h.2, .int .i64 a.v.1, .int .i64 a.v.2] 36))
  have X2 := Lib.hid (BK.newg (w := w.alloc (.cells CS 27)) (g := w.heap.size + 1) (cs := #[.int .i64 a.w.1, .int .i64 a.w.2, .int .i64 a.t.1, .int .i64 a.t.2, .int .i64 a.h.1, .int .i64 a.h.2, .int .i64 a.v.1, .int .i64 a.v.2]) (T := 36) (by simp))
  have HB := Lib.hid (show Below w.heap.size w ((w.alloc (.cells CS 27)).alloc (.cells #[.int .i64 a.w.1, .int .i64 a.w.2, .int .i64 a.t.1, .int .i64 a.t.2, .int .i64 a.h.1, .int .i64 a.h.2, .int .i64 a.v.1, .int .i64 a.v.2] 36)) by go_grown)
  clear rg hc h e1 e2 e3 e4
  go_enter Try.func42, Try.ntmps42
  go_wp2_with (first
    | ((with_reducible refine ldR X1.out HSZ.out ?_ ?_); rfl)
    | (go_at_call 18; refine Calls.mono (HCK.out _ HB.out) ?_; rintro e w0 ⟨rfl, hb0⟩; have HB0 := Lib.hid (HB.out.trans (hb0.mono HB.out.size)); have K0 := X2.out.keep hb0; have c0 := K0.cell; have l0 := K0.lt; clear hb0)
    | (go_at_call_of 43 (Value.agg #[.int .i64 a.w.1, .int .i64 a.w.2]); refine Calls.mono (H1.out _) ?_; rintro e w1 ⟨rfl, hb1⟩; have HB1 := Lib.hid (HB0.out.trans (hb1.mono HB0.out.size)); have K1 := K0.keep hb1; have c1 := K1.cell; have l1 := K1.lt; clear hb1 c0 l0)
    | (go_at_call_of 43 (Value.agg #[.int .i64 a.t.1, .int .i64 a.t.2]); refine Calls.mono (H2.out _) ?_; rintro e w2 ⟨rfl, hb2⟩; have HB2 := Lib.hid (HB1.out.trans (hb2.mono HB1.out.size)); have K2 := K1.keep hb2; have c2 := K2.cell; have l2 := K2.lt; clear hb2 c1 l1)
    | (go_at_call_of 43 (Value.agg #[.int .i64 a.h.1, .int .i64 a.h.2]); refine Calls.mono (H3.out _) ?_; rintro e w3 ⟨rfl, hb3⟩; have HB3 := Lib.hid (HB2.out.trans (hb3.mono HB2.out.size)); have K3 := K2.keep hb3; have c3 := K3.cell; have l3 := K3.lt; clear hb3 c2 l2)
    | (go_at_call_of 43 (Value.agg #[.int .i64 a.v.1, .int .i64 a.v.2]); refine Calls.mono (H4.out _) ?_; rintro e w4 ⟨rfl, hb4⟩; have HB4 := Lib.hid (HB3.out.trans (hb4.mono HB3.out.size)); have K4 := K3.keep hb4; have c4 := K4.cell; have l4 := K4.lt; clear hb4 c3 l3))
  go_ret
  exact ⟨rfl, HB4.out⟩
theorem cair_ok (r : RO) (a : AI) (CS : Array Value) (w : World) (rg : RG w r) (hc : CS = #[.slice r.h.ax r.h.X.length r.h.cx, .slice r.h.ay r.h.Y.length r.h.cy, .slice r.h.av r.h.V.length r.h.cv, .slice r.g.ax r.g.X.length r.g.cx, .slice r.g.ay r.g.Y.length r.g.cy, .slice r.g.av r.g.V.length r.g.cv, .slice r.l.ax r.l.X.length r.l.cx, .slice r.l.ay r.l.Y.length r.l.cy, .slice r.l.av r.l.V.length r.l.cv, .slice r.p.ax r.p.X.length r.p.cx, .slice r.p.ay r.p.Y.length r.p.cy, .slice r.p.av r.p.V.length r.p.cv, .slice r.n.ax r.n.X.length r.n.cx, .slice r.n.ay r.n.Y.length r.n.cy, .slice r.n.av r.n.V.length r.n.cv, .slice r.a.ax r.a.X.length r.a.cx, .slice r.a.ay r.a.Y.length r.a.cy, .slice r.a.av r.a.V.length r.a.cv, .slice r.b.ax r.b.X.length r.b.cx, .slice r.b.ay r.b.Y.length r.b.cy, .slice r.b.av r.b.V.length r.b.cv, .slice r.d.ax r.d.X.length r.d.cx, .slice r.d.ay r.d.Y.length r.d.cy, .slice r.d.av r.d.V.length r.d.cv, .int .i64 r.cl, .int .i64 r.bu]) (h : r.ok = true) (e1 : vS a.w = true) (e2 : vS a.t = true) (e3 : vS a.h = true) (e4 : vS a.v = true) : Calls Try.prog 42 #[.agg CS, .agg #[.int .i64 a.w.1, .int .i64 a.w.2, .int .i64 a.t.1, .int .i64 a.t.2, .int .i64 a.h.1, .int .i64 a.h.2, .int .i64 a.v.1, .int .i64 a.v.2]] w fun e w' => e = .returned (.int .i64 0) ∧ Below w.heap.size w w' := by
  have HCK := Lib.hid (fun (W : World) (hW : Below w.heap.size w W) => show Calls Try.prog 18 #[.agg CS] W fun e w' => e = .returned (.int .i64 0) ∧ Below W.heap.size W w' by
    have := rrotcheck_any r W (rg.below hW)
    rw [show r.err = 0 by unfold RO.err; rw [h]; rfl, ← hc] at this
    exact this)
  have H1 := Lib.hid (fun (W : World) => rvalS_any a.w W)
  rw [e1] at H1
  have H2 := Lib.hid (fun (W : World) => rvalS_any a.t W)
  rw [e2] at H2
  have H3 := Lib.hid (fun (W : World) => rvalS_any a.h W)
  rw [e3] at H3
  have H4 := Lib.hid (fun (W : World) => rvalS_any a.v W)
  rw [e4] at H4
  have HSZ := Lib.hid (show CS.size = 26 by rw [hc]; rfl)
  have X1 := Lib.hid ((BK.new (w := w) (cs := CS) (T := 27)).old (x := .cells #[.int .i64 a.w.1, .int .i64 a.w.2, .int .i64 a.t.1, .int .i64 a.t.2, .int .i64 a.h.1, .int .i64 a.h.2, .int .i64 a.v.1, .int .i64 a.v.2] 36))
  have X2 := Lib.hid (BK.newg (w := w.alloc (.cells CS 27)) (g := w.heap.size + 1) (cs := #[.int .i64 a.w.1, .int .i64 a.w.2, .int .i64 a.t.1, .int .i64 a.t.2, .int .i64 a.h.1, .int .i64 a.h.2, .int .i64 a.v.1, .int .i64 a.v.2]) (T := 36) (by simp))
  have HB := Lib.hid (show Below w.heap.size w ((w.alloc (.cells CS 27)).alloc (.cells #[.int .i64 a.w.1, .int .i64 a.w.2, .int .i64 a.t.1, .int .i64 a.t.2, .int .i64 a.h.1, .int .i64 a.h.2, .int .i64 a.v.1, .int .i64 a.v.2] 36)) by go_grown)
  clear rg hc h e1 e2 e3 e4
  go_enter Try.func42, Try.ntmps42
  go_wp2_with (first
    | ((with_reducible refine ldR X1.out HSZ.out ?_ ?_); rfl)
    | (go_at_call 18; refine Calls.mono (HCK.out _ HB.out) ?_; rintro e w0 ⟨rfl, hb0⟩; have HB0 := Lib.hid (HB.out.trans (hb0.mono HB.out.size)); have K0 := X2.out.keep hb0; have c0 := K0.cell; have l0 := K0.lt; clear hb0)
    | (go_at_call_of 43 (Value.agg #[.int .i64 a.w.1, .int .i64 a.w.2]); refine Calls.mono (H1.out _) ?_; rintro e w1 ⟨rfl, hb1⟩; have HB1 := Lib.hid (HB0.out.trans (hb1.mono HB0.out.size)); have K1 := K0.keep hb1; have c1 := K1.cell; have l1 := K1.lt; clear hb1 c0 l0)
    | (go_at_call_of 43 (Value.agg #[.int .i64 a.t.1, .int .i64 a.t.2]); refine Calls.mono (H2.out _) ?_; rintro e w2 ⟨rfl, hb2⟩; have HB2 := Lib.hid (HB1.out.trans (hb2.mono HB1.out.size)); have K2 := K1.keep hb2; have c2 := K2.cell; have l2 := K2.lt; clear hb2 c1 l1)
    | (go_at_call_of 43 (Value.agg #[.int .i64 a.h.1, .int .i64 a.h.2]); refine Calls.mono (H3.out _) ?_; rintro e w3 ⟨rfl, hb3⟩; have HB3 := Lib.hid (HB2.out.trans (hb3.mono HB2.out.size)); have K3 := K2.keep hb3; have c3 := K3.cell; have l3 := K3.lt; clear hb3 c2 l2)
    | (go_at_call_of 43 (Value.agg #[.int .i64 a.v.1, .int .i64 a.v.2]); refine Calls.mono (H4.out _) ?_; rintro e w4 ⟨rfl, hb4⟩; have HB4 := Lib.hid (HB3.out.trans (hb4.mono HB3.out.size)); have K4 := K3.keep hb4; have c4 := K4.cell; have l4 := K4.lt; clear hb4 c3 l3))
  go_ret
  exact ⟨rfl, HB4.out⟩
theorem checkAir_any (r : RO) (a : AI) (CS : Array Value) (w : World) (rg : RG w r) (hc : CS = #[.slice r.h.ax r.h.X.length r.h.cx, .slice r.h.ay r.h.Y.length r.h.cy, .slice r.h.av r.h.V.length r.h.cv, .slice r.g.ax r.g.X.length r.g.cx, .slice r.g.ay r.g.Y.length r.g.cy, .slice r.g.av r.g.V.length r.g.cv, .slice r.l.ax r.l.X.length r.l.cx, .slice r.l.ay r.l.Y.length r.l.cy, .slice r.l.av r.l.V.length r.l.cv, .slice r.p.ax r.p.X.length r.p.cx, .slice r.p.ay r.p.Y.length r.p.cy, .slice r.p.av r.p.V.length r.p.cv, .slice r.n.ax r.n.X.length r.n.cx, .slice r.n.ay r.n.Y.length r.n.cy, .slice r.n.av r.n.V.length r.n.cv, .slice r.a.ax r.a.X.length r.a.cx, .slice r.a.ay r.a.Y.length r.a.cy, .slice r.a.av r.a.V.length r.a.cv, .slice r.b.ax r.b.X.length r.b.cx, .slice r.b.ay r.b.Y.length r.b.cy, .slice r.b.av r.b.V.length r.b.cv, .slice r.d.ax r.d.X.length r.d.cx, .slice r.d.ay r.d.Y.length r.d.cy, .slice r.d.av r.d.V.length r.d.cv, .int .i64 r.cl, .int .i64 r.bu]) : Calls Try.prog 42 #[.agg CS, .agg #[.int .i64 a.w.1, .int .i64 a.w.2, .int .i64 a.t.1, .int .i64 a.t.2, .int .i64 a.h.1, .int .i64 a.h.2, .int .i64 a.v.1, .int .i64 a.v.2]] w fun e w' => e = .returned (.int .i64 (airE r a)) ∧ Below w.heap.size w w' := by
  unfold airE AI.ok
  simp only [List.all_cons, List.all_nil, Bool.and_true]
  cases h : r.ok with
  | false => simpa using cair_f0 r a CS w rg hc h
  | true =>
  cases e1 : vS a.w with
  | false => simpa using cair_f1 r a CS w rg hc h e1
  | true =>
  cases e2 : vS a.t with
  | false => simpa using cair_f2 r a CS w rg hc h e1 e2
  | true =>
  cases e3 : vS a.h with
  | false => simpa using cair_f3 r a CS w rg hc h e1 e2 e3
  | true =>
  cases e4 : vS a.v with
  | false => simpa using cair_f4 r a CS w rg hc h e1 e2 e3 e4
  | true =>
  simpa using cair_ok r a CS w rg hc h e1 e2 e3 e4

/-- lies. -/
def lsB (t : TV) (x y : Int × Int) : Bool := vS x && (vS y && (osB t.X x && osB t.Y y))
theorem rlies_f1 (t : TV) (x y : Int × Int) (w : World) (_ht : TG w t) (_hx : 1 ≤ t.X.length ∧ t.X.length ≤ 1000000) (_hy : 1 ≤ t.Y.length ∧ t.Y.length ≤ 1000000) (e1 : vS x = false) : Calls Try.prog 63 #[.agg #[.slice t.ax t.X.length t.cx, .slice t.ay t.Y.length t.cy, .slice t.av t.V.length t.cv], .agg #[.int .i64 x.1, .int .i64 x.2], .agg #[.int .i64 y.1, .int .i64 y.2]] w fun e w' => e = .returned (.bool false) ∧ Below w.heap.size w w' := by
  have H1 := Lib.hid (fun (W : World) => rvalS_any x W)
  rw [e1] at H1
  have X1 := Lib.hid (((BK.new (w := w) (cs := #[.slice t.ax t.X.length t.cx, .slice t.ay t.Y.length t.cy, .slice t.av t.V.length t.cv]) (T := 25)).old (x := .cells #[.int .i64 x.1, .int .i64 x.2] 34)).old (x := .cells #[.int .i64 y.1, .int .i64 y.2] 34))
  have X2 := Lib.hid ((BK.newg (w := w.alloc (.cells #[.slice t.ax t.X.length t.cx, .slice t.ay t.Y.length t.cy, .slice t.av t.V.length t.cv] 25)) (g := w.heap.size + 1) (cs := #[.int .i64 x.1, .int .i64 x.2]) (T := 34) (by simp)).old (x := .cells #[.int .i64 y.1, .int .i64 y.2] 34))
  have X3 := Lib.hid (BK.newg (w := (w.alloc (.cells #[.slice t.ax t.X.length t.cx, .slice t.ay t.Y.length t.cy, .slice t.av t.V.length t.cv] 25)).alloc (.cells #[.int .i64 x.1, .int .i64 x.2] 34)) (g := w.heap.size + 1 + 1) (cs := #[.int .i64 y.1, .int .i64 y.2]) (T := 34) (by simp))
  have HB := Lib.hid (show Below w.heap.size w (((w.alloc (.cells #[.slice t.ax t.X.length t.cx, .slice t.ay t.Y.length t.cy, .slice t.av t.V.length t.cv] 25)).alloc (.cells #[.int .i64 x.1, .int .i64 x.2] 34)).alloc (.cells #[.int .i64 y.1, .int .i64 y.2] 34)) by go_grown)
  clear _ht _hx _hy e1
  go_enter Try.func63, Try.ntmps63
  go_wp2_with (first
    | (go_at_call_of 43 (Value.agg #[.int .i64 x.1, .int .i64 x.2]); refine Calls.mono (H1.out _) ?_; rintro e w1 ⟨rfl, hb1⟩; have HB1 := Lib.hid (HB.out.trans (hb1.mono HB.out.size)); have K1 := X1.out.keep hb1; have K2 := X2.out.keep hb1; have K3 := X3.out.keep hb1; have c1 := K1.cell; have c2 := K2.cell; have c3 := K3.cell; have l3 := K3.lt; clear hb1))
  go_ret
  exact ⟨rfl, HB1.out⟩
theorem rlies_f2 (t : TV) (x y : Int × Int) (w : World) (_ht : TG w t) (_hx : 1 ≤ t.X.length ∧ t.X.length ≤ 1000000) (_hy : 1 ≤ t.Y.length ∧ t.Y.length ≤ 1000000) (e1 : vS x = true) (e2 : vS y = false) : Calls Try.prog 63 #[.agg #[.slice t.ax t.X.length t.cx, .slice t.ay t.Y.length t.cy, .slice t.av t.V.length t.cv], .agg #[.int .i64 x.1, .int .i64 x.2], .agg #[.int .i64 y.1, .int .i64 y.2]] w fun e w' => e = .returned (.bool false) ∧ Below w.heap.size w w' := by
  have H1 := Lib.hid (fun (W : World) => rvalS_any x W)
  rw [e1] at H1
  have H2 := Lib.hid (fun (W : World) => rvalS_any y W)
  rw [e2] at H2
  have X1 := Lib.hid (((BK.new (w := w) (cs := #[.slice t.ax t.X.length t.cx, .slice t.ay t.Y.length t.cy, .slice t.av t.V.length t.cv]) (T := 25)).old (x := .cells #[.int .i64 x.1, .int .i64 x.2] 34)).old (x := .cells #[.int .i64 y.1, .int .i64 y.2] 34))
  have X2 := Lib.hid ((BK.newg (w := w.alloc (.cells #[.slice t.ax t.X.length t.cx, .slice t.ay t.Y.length t.cy, .slice t.av t.V.length t.cv] 25)) (g := w.heap.size + 1) (cs := #[.int .i64 x.1, .int .i64 x.2]) (T := 34) (by simp)).old (x := .cells #[.int .i64 y.1, .int .i64 y.2] 34))
  have X3 := Lib.hid (BK.newg (w := (w.alloc (.cells #[.slice t.ax t.X.length t.cx, .slice t.ay t.Y.length t.cy, .slice t.av t.V.length t.cv] 25)).alloc (.cells #[.int .i64 x.1, .int .i64 x.2] 34)) (g := w.heap.size + 1 + 1) (cs := #[.int .i64 y.1, .int .i64 y.2]) (T := 34) (by simp))
  have HB := Lib.hid (show Below w.heap.size w (((w.alloc (.cells #[.slice t.ax t.X.length t.cx, .slice t.ay t.Y.length t.cy, .slice t.av t.V.length t.cv] 25)).alloc (.cells #[.int .i64 x.1, .int .i64 x.2] 34)).alloc (.cells #[.int .i64 y.1, .int .i64 y.2] 34)) by go_grown)
  clear _ht _hx _hy e1 e2
  go_enter Try.func63, Try.ntmps63
  go_wp2_with (first
    | (go_at_call_of 43 (Value.agg #[.int .i64 x.1, .int .i64 x.2]); refine Calls.mono (H1.out _) ?_; rintro e w1 ⟨rfl, hb1⟩; have HB1 := Lib.hid (HB.out.trans (hb1.mono HB.out.size)); have K1 := X1.out.keep hb1; have K2 := X2.out.keep hb1; have K3 := X3.out.keep hb1; have c1 := K1.cell; have c2 := K2.cell; have c3 := K3.cell; have l3 := K3.lt; clear hb1)
    | (go_at_call_of 43 (Value.agg #[.int .i64 y.1, .int .i64 y.2]); refine Calls.mono (H2.out _) ?_; rintro e w2 ⟨rfl, hb2⟩; have HB2 := Lib.hid (HB1.out.trans (hb2.mono HB1.out.size)); have K1 := K1.keep hb2; have K2 := K2.keep hb2; have K3 := K3.keep hb2; clear c1 c2 c3 l3; have c1 := K1.cell; have c2 := K2.cell; have c3 := K3.cell; have l3 := K3.lt; clear hb2))
  go_ret
  exact ⟨rfl, HB2.out⟩
theorem rlies_f3 (t : TV) (x y : Int × Int) (w : World) (ht : TG w t) (hx : 1 ≤ t.X.length ∧ t.X.length ≤ 1000000) (_hy : 1 ≤ t.Y.length ∧ t.Y.length ≤ 1000000) (e1 : vS x = true) (e2 : vS y = true) (e3 : osB t.X x = false) : Calls Try.prog 63 #[.agg #[.slice t.ax t.X.length t.cx, .slice t.ay t.Y.length t.cy, .slice t.av t.V.length t.cv], .agg #[.int .i64 x.1, .int .i64 x.2], .agg #[.int .i64 y.1, .int .i64 y.2]] w fun e w' => e = .returned (.bool false) ∧ Below w.heap.size w w' := by
  have H1 := Lib.hid (fun (W : World) => rvalS_any x W)
  rw [e1] at H1
  have H2 := Lib.hid (fun (W : World) => rvalS_any y W)
  rw [e2] at H2
  have H3 := Lib.hid (fun (W : World) (hW : Below w.heap.size w W) => between_any t.ax _ t.cx W.heap.size t.X x.1 x.2 W rfl hx.2 hx.1 (Nat.le_refl _) (ht.below hW).tb.x)
  rw [btB_osB e1, e3] at H3
  have X1 := Lib.hid (((BK.new (w := w) (cs := #[.slice t.ax t.X.length t.cx, .slice t.ay t.Y.length t.cy, .slice t.av t.V.length t.cv]) (T := 25)).old (x := .cells #[.int .i64 x.1, .int .i64 x.2] 34)).old (x := .cells #[.int .i64 y.1, .int .i64 y.2] 34))
  have X2 := Lib.hid ((BK.newg (w := w.alloc (.cells #[.slice t.ax t.X.length t.cx, .slice t.ay t.Y.length t.cy, .slice t.av t.V.length t.cv] 25)) (g := w.heap.size + 1) (cs := #[.int .i64 x.1, .int .i64 x.2]) (T := 34) (by simp)).old (x := .cells #[.int .i64 y.1, .int .i64 y.2] 34))
  have X3 := Lib.hid (BK.newg (w := (w.alloc (.cells #[.slice t.ax t.X.length t.cx, .slice t.ay t.Y.length t.cy, .slice t.av t.V.length t.cv] 25)).alloc (.cells #[.int .i64 x.1, .int .i64 x.2] 34)) (g := w.heap.size + 1 + 1) (cs := #[.int .i64 y.1, .int .i64 y.2]) (T := 34) (by simp))
  have HB := Lib.hid (show Below w.heap.size w (((w.alloc (.cells #[.slice t.ax t.X.length t.cx, .slice t.ay t.Y.length t.cy, .slice t.av t.V.length t.cv] 25)).alloc (.cells #[.int .i64 x.1, .int .i64 x.2] 34)).alloc (.cells #[.int .i64 y.1, .int .i64 y.2] 34)) by go_grown)
  clear ht hx _hy e1 e2 e3
  go_enter Try.func63, Try.ntmps63
  go_wp2_with (first
    | (go_at_call_of 43 (Value.agg #[.int .i64 x.1, .int .i64 x.2]); refine Calls.mono (H1.out _) ?_; rintro e w1 ⟨rfl, hb1⟩; have HB1 := Lib.hid (HB.out.trans (hb1.mono HB.out.size)); have K1 := X1.out.keep hb1; have K2 := X2.out.keep hb1; have K3 := X3.out.keep hb1; have c1 := K1.cell; have c2 := K2.cell; have c3 := K3.cell; have l3 := K3.lt; clear hb1)
    | (go_at_call_of 43 (Value.agg #[.int .i64 y.1, .int .i64 y.2]); refine Calls.mono (H2.out _) ?_; rintro e w2 ⟨rfl, hb2⟩; have HB2 := Lib.hid (HB1.out.trans (hb2.mono HB1.out.size)); have K1 := K1.keep hb2; have K2 := K2.keep hb2; have K3 := K3.keep hb2; clear c1 c2 c3 l3; have c1 := K1.cell; have c2 := K2.cell; have c3 := K3.cell; have l3 := K3.lt; clear hb2)
    | (go_at_call_of 99 (Value.slice t.ax t.X.length t.cx); refine Calls.mono (H3.out _ HB2.out) ?_; rintro e w3 ⟨rfl, hb3⟩; have HB3 := Lib.hid (HB2.out.trans (hb3.mono HB2.out.size)); have K1 := K1.keep hb3; have K2 := K2.keep hb3; have K3 := K3.keep hb3; clear c1 c2 c3 l3; have c1 := K1.cell; have c2 := K2.cell; have c3 := K3.cell; have l3 := K3.lt; clear hb3))
  go_ret
  exact ⟨rfl, HB3.out⟩
theorem rlies_ok (t : TV) (x y : Int × Int) (w : World) (ht : TG w t) (hx : 1 ≤ t.X.length ∧ t.X.length ≤ 1000000) (hy : 1 ≤ t.Y.length ∧ t.Y.length ≤ 1000000) (e1 : vS x = true) (e2 : vS y = true) (e3 : osB t.X x = true) : Calls Try.prog 63 #[.agg #[.slice t.ax t.X.length t.cx, .slice t.ay t.Y.length t.cy, .slice t.av t.V.length t.cv], .agg #[.int .i64 x.1, .int .i64 x.2], .agg #[.int .i64 y.1, .int .i64 y.2]] w fun e w' => e = .returned (.bool (osB t.Y y)) ∧ Below w.heap.size w w' := by
  have H1 := Lib.hid (fun (W : World) => rvalS_any x W)
  rw [e1] at H1
  have H2 := Lib.hid (fun (W : World) => rvalS_any y W)
  rw [e2] at H2
  have H3 := Lib.hid (fun (W : World) (hW : Below w.heap.size w W) => between_any t.ax _ t.cx W.heap.size t.X x.1 x.2 W rfl hx.2 hx.1 (Nat.le_refl _) (ht.below hW).tb.x)
  rw [btB_osB e1, e3] at H3
  have H4 := Lib.hid (fun (W : World) (hW : Below w.heap.size w W) => between_any t.ay _ t.cy W.heap.size t.Y y.1 y.2 W rfl hy.2 hy.1 (Nat.le_refl _) (ht.below hW).tb.y)
  rw [btB_osB e2] at H4
  generalize osB t.Y y = v at *
  have X1 := Lib.hid (((BK.new (w := w) (cs := #[.slice t.ax t.X.length t.cx, .slice t.ay t.Y.length t.cy, .slice t.av t.V.length t.cv]) (T := 25)).old (x := .cells #[.int .i64 x.1, .int .i64 x.2] 34)).old (x := .cells #[.int .i64 y.1, .int .i64 y.2] 34))
  have X2 := Lib.hid ((BK.newg (w := w.alloc (.cells #[.slice t.ax t.X.length t.cx, .slice t.ay t.Y.length t.cy, .slice t.av t.V.length t.cv] 25)) (g := w.heap.size + 1) (cs := #[.int .i64 x.1, .int .i64 x.2]) (T := 34) (by simp)).old (x := .cells #[.int .i64 y.1, .int .i64 y.2] 34))
  have X3 := Lib.hid (BK.newg (w := (w.alloc (.cells #[.slice t.ax t.X.length t.cx, .slice t.ay t.Y.length t.cy, .slice t.av t.V.length t.cv] 25)).alloc (.cells #[.int .i64 x.1, .int .i64 x.2] 34)) (g := w.heap.size + 1 + 1) (cs := #[.int .i64 y.1, .int .i64 y.2]) (T := 34) (by simp))
  have HB := Lib.hid (show Below w.heap.size w (((w.alloc (.cells #[.slice t.ax t.X.length t.cx, .slice t.ay t.Y.length t.cy, .slice t.av t.V.length t.cv] 25)).alloc (.cells #[.int .i64 x.1, .int .i64 x.2] 34)).alloc (.cells #[.int .i64 y.1, .int .i64 y.2] 34)) by go_grown)
  clear ht hx hy e1 e2 e3
  go_enter Try.func63, Try.ntmps63
  go_wp2_with (first
    | (go_at_call_of 43 (Value.agg #[.int .i64 x.1, .int .i64 x.2]); refine Calls.mono (H1.out _) ?_; rintro e w1 ⟨rfl, hb1⟩; have HB1 := Lib.hid (HB.out.trans (hb1.mono HB.out.size)); have K1 := X1.out.keep hb1; have K2 := X2.out.keep hb1; have K3 := X3.out.keep hb1; have c1 := K1.cell; have c2 := K2.cell; have c3 := K3.cell; have l3 := K3.lt; clear hb1)
    | (go_at_call_of 43 (Value.agg #[.int .i64 y.1, .int .i64 y.2]); refine Calls.mono (H2.out _) ?_; rintro e w2 ⟨rfl, hb2⟩; have HB2 := Lib.hid (HB1.out.trans (hb2.mono HB1.out.size)); have K1 := K1.keep hb2; have K2 := K2.keep hb2; have K3 := K3.keep hb2; clear c1 c2 c3 l3; have c1 := K1.cell; have c2 := K2.cell; have c3 := K3.cell; have l3 := K3.lt; clear hb2)
    | (go_at_call_of 99 (Value.slice t.ax t.X.length t.cx); refine Calls.mono (H3.out _ HB2.out) ?_; rintro e w3 ⟨rfl, hb3⟩; have HB3 := Lib.hid (HB2.out.trans (hb3.mono HB2.out.size)); have K1 := K1.keep hb3; have K2 := K2.keep hb3; have K3 := K3.keep hb3; clear c1 c2 c3 l3; have c1 := K1.cell; have c2 := K2.cell; have c3 := K3.cell; have l3 := K3.lt; clear hb3)
    | (go_at_call_of 99 (Value.slice t.ay t.Y.length t.cy); refine Calls.mono (H4.out _ HB3.out) ?_; rintro e w4 ⟨rfl, hb4⟩; have HB4 := Lib.hid (HB3.out.trans (hb4.mono HB3.out.size)); have K1 := K1.keep hb4; have K2 := K2.keep hb4; have K3 := K3.keep hb4; clear c1 c2 c3 l3; have c1 := K1.cell; have c2 := K2.cell; have c3 := K3.cell; have l3 := K3.lt; clear hb4))
  go_ret
  exact ⟨rfl, HB4.out⟩
theorem rlies_any (t : TV) (x y : Int × Int) (w : World) (ht : TG w t) (hct : ctB t.X t.Y t.V = true) : Calls Try.prog 63 #[.agg #[.slice t.ax t.X.length t.cx, .slice t.ay t.Y.length t.cy, .slice t.av t.V.length t.cv], .agg #[.int .i64 x.1, .int .i64 x.2], .agg #[.int .i64 y.1, .int .i64 y.2]] w fun e w' => e = .returned (.bool (lsB t x y)) ∧ Below w.heap.size w w' := by
  obtain ⟨q1, q2, q3, q4⟩ := ctB_len hct
  have hx : 1 ≤ t.X.length ∧ t.X.length ≤ 1000000 := ⟨by omega, by omega⟩
  have hy : 1 ≤ t.Y.length ∧ t.Y.length ≤ 1000000 := ⟨by omega, by omega⟩
  unfold lsB
  cases e1 : vS x with
  | false => simpa using rlies_f1 t x y w ht hx hy e1
  | true =>
  cases e2 : vS y with
  | false => simpa using rlies_f2 t x y w ht hx hy e1 e2
  | true =>
  cases e3 : osB t.X x with
  | false => simpa using rlies_f3 t x y w ht hx hy e1 e2 e3
  | true => simpa using rlies_ok t x y w ht hx hy e1 e2 e3
theorem rbnd_any (l : LO) (w : World) (ht : TG w l.t) (hc : cbE l.t.X l.t.Y l.t.V l.x.1 l.x.2 l.y.1 l.y.2 = 0) : Calls Try.prog 68 #[.agg #[.slice l.t.ax l.t.X.length l.t.cx, .slice l.t.ay l.t.Y.length l.t.cy, .slice l.t.av l.t.V.length l.t.cv], .agg #[.int .i64 l.x.1, .int .i64 l.x.2], .agg #[.int .i64 l.y.1, .int .i64 l.y.2]] w fun e w' => e = .returned (.agg #[.int .i64 l.bn.1, .int .i64 l.bn.2]) ∧ Below w.heap.size w w' := by
  have HC := Lib.hid (fun (W : World) (hW : Below w.heap.size w W) => show Calls Try.prog 111 #[.agg #[.slice l.t.ax l.t.X.length l.t.cx, .slice l.t.ay l.t.Y.length l.t.cy, .slice l.t.av l.t.V.length l.t.cv], .agg #[.int .i64 l.x.1, .int .i64 l.x.2], .agg #[.int .i64 l.y.1, .int .i64 l.y.2]] W fun e w' => e = .returned (.tuple #[.agg #[.int .i64 l.bn.1, .int .i64 l.bn.2], .int .i64 0]) ∧ Below W.heap.size W w' by
    have := rBound_any l.t.ax l.t.ay l.t.av l.t.X.length l.t.cx l.t.Y.length l.t.cy l.t.V.length l.t.cv W.heap.size l.t.X l.t.Y l.t.V l.x.1 l.x.2 l.y.1 l.y.2 W rfl rfl rfl ht.hx ht.hy ht.hv ht.hr (Nat.le_refl _) (ht.below hW).tb
    unfold bndS at this
    rw [if_pos hc] at this
    exact this)
  clear ht hc
  generalize l.bn = p at *
  have X4 := Lib.hid (BK.newg (w := ((w.alloc (.cells #[.slice l.t.ax l.t.X.length l.t.cx, .slice l.t.ay l.t.Y.length l.t.cy, .slice l.t.av l.t.V.length l.t.cv] 25)).alloc (.cells #[.int .i64 l.x.1, .int .i64 l.x.2] 34)).alloc (.cells #[.int .i64 l.y.1, .int .i64 l.y.2] 34)) (g := w.heap.size + 1 + 1 + 1) (cs := #[.int .i64 0, .int .i64 0]) (T := 34) (by simp))
  go_enter Try.func68, Try.ntmps68
  go_wp2_with (first
    | (go_at_call 111; refine Calls.mono (HC.out _ (by go_grown)) ?_; rintro e w1 ⟨rfl, hb1⟩; have K := Lib.hid (X4.out.keep hb1); have HB1 := Lib.hid (Below.trans (show Below w.heap.size w _ by go_grown) (hb1.mono (by simp <;> omega))); clear hb1)
    | ((with_reducible refine stS (CS := ?_) (K.out.old) ?_ ?_ ?_ ?_ ?_ ?_); rotate_left; rfl; rfl; rfl; rfl; simp [Value.oneCell']))
  go_simp
  refine bodyPost_ret (v := .agg #[.int .i64 p.1, .int .i64 p.2]) (resS Try.results68 (by rfl) (K.out.old).row (by rfl)) rfl ?_
  exact ⟨rfl, below_setRow (HB1.out.alloc HB1.out.size _) (by omega) _⟩
theorem rup_any (a b : Int) (w : World) (h1 : 1 ≤ b) (h2 : b ≤ 1000000) (h3 : 0 ≤ a) (h4 : a ≤ 1000000000000) : Calls Try.prog 102 #[.int .i64 a, .int .i64 b] w fun e w' => e = .returned (.int .i64 (cl a b)) ∧ w = w' := by
  have hd := tdiv_bd (a := a + b - 1) (b := b) (M := 2000000000000) (by omega) (by omega)
  have HE := Lib.hid (up_cl h3 h1)
  go_enter Try.func102, Try.ntmps102
  go_wp2
  go_ret
  exact ⟨ret_int HE.out, rfl⟩
end Go.Proofs.Ythhokiigdgpmcaa

/- Level and Flow of both sides. -/
namespace Go.Proofs.Ythhokiigdgpmcaa
open Go.RowKit

set_option maxRecDepth 100000
theorem ready_lev (r : RO) (a : AI) (CS MS : Array Value) (s : Int × Int) (gs g : Nat) (W : World) (rg : RG W r) (hc : CS = #[.slice r.h.ax r.h.X.length r.h.cx, .slice r.h.ay r.h.Y.length r.h.cy, .slice r.h.av r.h.V.length r.h.cv, .slice r.g.ax r.g.X.length r.g.cx, .slice r.g.ay r.g.Y.length r.g.cy, .slice r.g.av r.g.V.length r.g.cv, .slice r.l.ax r.l.X.length r.l.cx, .slice r.l.ay r.l.Y.length r.l.cy, .slice r.l.av r.l.V.length r.l.cv, .slice r.p.ax r.p.X.length r.p.cx, .slice r.p.ay r.p.Y.length r.p.cy, .slice r.p.av r.p.V.length r.p.cv, .slice r.n.ax r.n.X.length r.n.cx, .slice r.n.ay r.n.Y.length r.n.cy, .slice r.n.av r.n.V.length r.n.cv, .slice r.a.ax r.a.X.length r.a.cx, .slice r.a.ay r.a.Y.length r.a.cy, .slice r.a.av r.a.V.length r.a.cv, .slice r.b.ax r.b.X.length r.b.cx, .slice r.b.ay r.b.Y.length r.b.cy, .slice r.b.av r.b.V.length r.b.cv, .slice r.d.ax r.d.X.length r.d.cx, .slice r.d.ay r.d.Y.length r.d.cy, .slice r.d.av r.d.V.length r.d.cv, .int .i64 r.cl, .int .i64 r.bu]) (hm : MS = #[.slice r.h.ax r.h.X.length r.h.cx, .slice r.h.ay r.h.Y.length r.h.cy, .slice r.h.av r.h.V.length r.h.cv, .slice r.g.ax r.g.X.length r.g.cx, .slice r.g.ay r.g.Y.length r.g.cy, .slice r.g.av r.g.V.length r.g.cv, .slice r.l.ax r.l.X.length r.l.cx, .slice r.l.ay r.l.Y.length r.l.cy, .slice r.l.av r.l.V.length r.l.cv, .slice r.p.ax r.p.X.length r.p.cx, .slice r.p.ay r.p.Y.length r.p.cy, .slice r.p.av r.p.V.length r.p.cv, .slice r.n.ax r.n.X.length r.n.cx, .slice r.n.ay r.n.Y.length r.n.cy, .slice r.n.av r.n.V.length r.n.cv, .slice r.a.ax r.a.X.length r.a.cx, .slice r.a.ay r.a.Y.length r.a.cy, .slice r.a.av r.a.V.length r.a.cv, .slice r.b.ax r.b.X.length r.b.cx, .slice r.b.ay r.b.Y.length r.b.cy, .slice r.b.av r.b.V.length r.b.cv, .slice r.d.ax r.d.X.length r.d.cx, .slice r.d.ay r.d.Y.length r.d.cy, .slice r.d.av r.d.V.length r.d.cv, .int .i64 r.cl, .int .i64 r.bu, .int .i64 a.w.1, .int .i64 a.w.2, .int .i64 a.t.1, .int .i64 a.t.2, .int .i64 a.h.1, .int .i64 a.h.2, .int .i64 a.v.1, .int .i64 a.v.2]) (h0 : W.cell? ⟨gs, 0, none⟩ = some (.int .i64 s.1)) (h1 : W.cell? ⟨gs, 1, none⟩ = some (.int .i64 s.2)) (hg : g < W.heap.size) (hF : RS W (g + 1) (some ⟨g, 0, none⟩) [s]) :
    Calls Try.prog 58 #[.agg CS, .agg #[.int .i64 a.w.1, .int .i64 a.w.2, .int .i64 a.t.1, .int .i64 a.t.2, .int .i64 a.h.1, .int .i64 a.h.2, .int .i64 a.v.1, .int .i64 a.v.2], .func (.func 79) #[] #[.pointer (some ⟨gs, 0, none⟩)], .slice (some ⟨g, 0, none⟩) 1 1] W fun e w' => e = .returned (.tuple #[.agg MS, .int .i64 (redE r a [loL r a s] [s])]) ∧ Below W.heap.size W w' := by
  refine ready_any 79 #[.pointer (some ⟨gs, 0, none⟩)] r a [loL r a s] [s] W (some ⟨g, 0, none⟩) 1 CS MS rg hc hm (hF.more hg) (le_maxLen (by simp)) (by simp) ?_ ?_ Try.call79 ?_
  · intro l hl
    simp at hl
    subst hl
    exact rg.l
  · intro h l hl
    have o := ok_of h
    simp at hl
    subst hl
    exact filB_ct o.l
  · intro _ W' hW
    refine (level1_any r a MS hm s gs W' (cell_keep hW h0) (cell_keep hW h1)).mono ?_
    rintro e w' ⟨v, rfl, ⟨A, c, rfl, h⟩, hb⟩
    exact ⟨A, c, rfl, h, hb⟩

def lvE (r : RO) (a : AI) (s : Int × Int) : Int := redE r a [loL r a s] [s]
def lvS (r : RO) (a : AI) (s : Int × Int) : (Int × Int) × Int := if lvE r a s = 0 then ((loL r a s).bn, 0) else ((0, 0), lvE r a s)
/-- What Level has looked up. -/
structure Lvl (r : RO) (a : AI) (s : Int × Int) : Prop where
  ro : r.ok = true
  ao : a.ok = true
  so : vS s = true
  l : LOk 0 100000 (loL r a s)
theorem lvl_of {r : RO} {a : AI} {s : Int × Int} (h : lvE r a s = 0) : Lvl r a s := by
  obtain ⟨h1, h2, h3, h4⟩ := rdy_of h
  obtain ⟨k1, k2, k3, k4⟩ := AI.ok_get h2
  have o := ok_of h1
  simp only [List.all_cons, List.all_nil, Bool.and_true] at h3 h4
  exact ⟨h1, h2, h3, ⟨o.l, h3, k1, h4⟩⟩
set_option maxHeartbeats 4000000 in
theorem level_call (r : RO) (a : AI) (CS : Array Value) (s : Int × Int) (w : World) (rg : RG w r) (hc : CS = #[.slice r.h.ax r.h.X.length r.h.cx, .slice r.h.ay r.h.Y.length r.h.cy, .slice r.h.av r.h.V.length r.h.cv, .slice r.g.ax r.g.X.length r.g.cx, .slice r.g.ay r.g.Y.length r.g.cy, .slice r.g.av r.g.V.length r.g.cv, .slice r.l.ax r.l.X.length r.l.cx, .slice r.l.ay r.l.Y.length r.l.cy, .slice r.l.av r.l.V.length r.l.cv, .slice r.p.ax r.p.X.length r.p.cx, .slice r.p.ay r.p.Y.length r.p.cy, .slice r.p.av r.p.V.length r.p.cv, .slice r.n.ax r.n.X.length r.n.cx, .slice r.n.ay r.n.Y.length r.n.cy, .slice r.n.av r.n.V.length r.n.cv, .slice r.a.ax r.a.X.length r.a.cx, .slice r.a.ay r.a.Y.length r.a.cy, .slice r.a.av r.a.V.length r.a.cv, .slice r.b.ax r.b.X.length r.b.cx, .slice r.b.ay r.b.Y.length r.b.cy, .slice r.b.av r.b.V.length r.b.cv, .slice r.d.ax r.d.X.length r.d.cx, .slice r.d.ay r.d.Y.length r.d.cy, .slice r.d.av r.d.V.length r.d.cv, .int .i64 r.cl, .int .i64 r.bu]) :
    Calls Try.prog 29 #[.agg CS, .agg #[.int .i64 a.w.1, .int .i64 a.w.2, .int .i64 a.t.1, .int .i64 a.t.2, .int .i64 a.h.1, .int .i64 a.h.2, .int .i64 a.v.1, .int .i64 a.v.2], .agg #[.int .i64 s.1, .int .i64 s.2]] w fun e w' => e = .returned (.tuple #[.agg #[.int .i64 (lvS r a s).1.1, .int .i64 (lvS r a s).1.2], .int .i64 (lvS r a s).2]) ∧ Below w.heap.size w w' := by
  obtain ⟨MS, hm⟩ : ∃ MS : Array Value, MS = #[.slice r.h.ax r.h.X.length r.h.cx, .slice r.h.ay r.h.Y.length r.h.cy, .slice r.h.av r.h.V.length r.h.cv, .slice r.g.ax r.g.X.length r.g.cx, .slice r.g.ay r.g.Y.length r.g.cy, .slice r.g.av r.g.V.length r.g.cv, .slice r.l.ax r.l.X.length r.l.cx, .slice r.l.ay r.l.Y.length r.l.cy, .slice r.l.av r.l.V.length r.l.cv, .slice r.p.ax r.p.X.length r.p.cx, .slice r.p.ay r.p.Y.length r.p.cy, .slice r.p.av r.p.V.length r.p.cv, .slice r.n.ax r.n.X.length r.n.cx, .slice r.n.ay r.n.Y.length r.n.cy, .slice r.n.av r.n.V.length r.n.cv, .slice r.a.ax r.a.X.length r.a.cx, .slice r.a.ay r.a.Y.length r.a.cy, .slice r.a.av r.a.V.length r.a.cv, .slice r.b.ax r.b.X.length r.b.cx, .slice r.b.ay r.b.Y.length r.b.cy, .slice r.b.av r.b.V.length r.b.cv, .slice r.d.ax r.d.X.length r.d.cx, .slice r.d.ay r.d.Y.length r.d.cy, .slice r.d.av r.d.V.length r.d.cv, .int .i64 r.cl, .int .i64 r.bu, .int .i64 a.w.1, .int .i64 a.w.2, .int .i64 a.t.1, .int .i64 a.t.2, .int .i64 a.h.1, .int .i64 a.h.2, .int .i64 a.v.1, .int .i64 a.v.2] := ⟨_, rfl⟩
  have HR := Lib.hid (fun (gs g : Nat) (W : World) (hW : Below w.heap.size w W) h0 h1 hg hF => ready_lev r a CS MS s gs g W (rg.below hW) hc hm h0 h1 hg hF)
  have HSZ := Lib.hid (show CS.size = 26 by rw [hc]; rfl)
  have HMZ := Lib.hid (show MS.size = 34 by rw [hm]; rfl)
  have HMO := Lib.hid (show MS.all (·.oneCell') = true by rw [hm]; simp [Value.oneCell'])
  have X1 := Lib.hid ((((BK.newg (w := w) (g := w.heap.size) (cs := CS) (T := 27) rfl).old (x := .cells #[.int .i64 a.w.1, .int .i64 a.w.2, .int .i64 a.t.1, .int .i64 a.t.2, .int .i64 a.h.1, .int .i64 a.h.2, .int .i64 a.v.1, .int .i64 a.v.2] 36)).old (x := .cells #[.int .i64 s.1, .int .i64 s.2] 34)).old (x := .cells #[.int .i64 0, .int .i64 0] 34))
  have X2 := Lib.hid (((BK.newg (w := (w.alloc (.cells CS 27))) (g := w.heap.size + 1) (cs := #[.int .i64 a.w.1, .int .i64 a.w.2, .int .i64 a.t.1, .int .i64 a.t.2, .int .i64 a.h.1, .int .i64 a.h.2, .int .i64 a.v.1, .int .i64 a.v.2]) (T := 36) (by simp)).old (x := .cells #[.int .i64 s.1, .int .i64 s.2] 34)).old (x := .cells #[.int .i64 0, .int .i64 0] 34))
  have X3 := Lib.hid ((BK.newg (w := ((w.alloc (.cells CS 27)).alloc (.cells #[.int .i64 a.w.1, .int .i64 a.w.2, .int .i64 a.t.1, .int .i64 a.t.2, .int .i64 a.h.1, .int .i64 a.h.2, .int .i64 a.v.1, .int .i64 a.v.2] 36))) (g := w.heap.size + 1 + 1) (cs := #[.int .i64 s.1, .int .i64 s.2]) (T := 34) (by simp)).old (x := .cells #[.int .i64 0, .int .i64 0] 34))
  have X4 := Lib.hid (BK.newg (w := (((w.alloc (.cells CS 27)).alloc (.cells #[.int .i64 a.w.1, .int .i64 a.w.2, .int .i64 a.t.1, .int .i64 a.t.2, .int .i64 a.h.1, .int .i64 a.h.2, .int .i64 a.v.1, .int .i64 a.v.2] 36)).alloc (.cells #[.int .i64 s.1, .int .i64 s.2] 34))) (g := w.heap.size + 1 + 1 + 1) (cs := #[.int .i64 0, .int .i64 0]) (T := 34) (by simp))
  have HB := Lib.hid (show Below w.heap.size w ((((w.alloc (.cells CS 27)).alloc (.cells #[.int .i64 a.w.1, .int .i64 a.w.2, .int .i64 a.t.1, .int .i64 a.t.2, .int .i64 a.h.1, .int .i64 a.h.2, .int .i64 a.v.1, .int .i64 a.v.2] 36)).alloc (.cells #[.int .i64 s.1, .int .i64 s.2] 34)).alloc (.cells #[.int .i64 0, .int .i64 0] 34)) by go_grown)
  have HE := Lib.hid (show redE r a [loL r a s] [s] = lvE r a s from rfl)
  unfold lvS
  by_cases hE : lvE r a s = 0
  · rw [if_pos hE]
    have hE' := hE
    unfold lvE at hE'
    have hv := lvl_of hE
    have HL := Lib.hid (fun (W : World) => show Calls Try.prog 80 #[.agg MS, .agg #[.int .i64 s.1, .int .i64 s.2]] W fun e w' => e = .returned (.agg #[.slice r.l.ax r.l.X.length r.l.cx, .slice r.l.ay r.l.Y.length r.l.cy, .slice r.l.av r.l.V.length r.l.cv, .int .i64 s.1, .int .i64 s.2, .int .i64 a.w.1, .int .i64 a.w.2]) ∧ Below W.heap.size W w' by rw [hm]; exact level_any r a s W)
    have HBL := Lib.hid (fun (W : World) (hW : Below w.heap.size w W) => show Calls Try.prog 67 #[.agg #[.slice r.l.ax r.l.X.length r.l.cx, .slice r.l.ay r.l.Y.length r.l.cy, .slice r.l.av r.l.V.length r.l.cv, .int .i64 s.1, .int .i64 s.2, .int .i64 a.w.1, .int .i64 a.w.2]] W fun e w' => e = .returned (.agg #[.int .i64 (loL r a s).bn.1, .int .i64 (loL r a s).bn.2]) ∧ Below W.heap.size W w' from lbound_any (loL r a s) W (rg.l.below hW) hv.l.cb)
    rw [hE'] at HR
    generalize (loL r a s).bn = p at *
    clear rg hc hm hE hE' HE hv
    go_enter Try.func29, Try.ntmps29
    go_upto_region 1 with fail
    generalize ((((w.alloc (.cells CS 27)).alloc (.cells #[.int .i64 a.w.1, .int .i64 a.w.2, .int .i64 a.t.1, .int .i64 a.t.2, .int .i64 a.h.1, .int .i64 a.h.2, .int .i64 a.v.1, .int .i64 a.v.2] 36)).alloc (.cells #[.int .i64 s.1, .int .i64 s.2] 34)).alloc (.cells #[.int .i64 0, .int .i64 0] 34)) = V1 at *
    have s0 : V1.cell? ⟨w.heap.size + 1 + 1, 0, none⟩ = some (.int .i64 s.1) := X3.out.cell 0
    have s1 : V1.cell? ⟨w.heap.size + 1 + 1, 1, none⟩ = some (.int .i64 s.2) := X3.out.cell 1
    have l3 := X4.out.lt
    go_wp2_with (first
      | ((with_reducible refine ldR X1.out HSZ.out ?_ ?_); rfl)
      | ((with_reducible refine ldA X2.out ?_ ?_ ?_); rfl; rfl)
      | (go_at_call 58; refine Calls.mono (HR.out _ _ _ (HB.out.alloc HB.out.size _) (cell_keep ((Below.refl _ _).alloc (Nat.le_refl _) _) s0) (cell_keep ((Below.refl _ _).alloc (Nat.le_refl _) _) s1) (by simp) (RS.new1 (by simp))) ?_; rintro e w1 ⟨rfl, hb1⟩; have X3 := Lib.hid (X3.out.old.keep hb1); have X4 := Lib.hid (X4.out.old.keep hb1); have KM := Lib.hid (BK.newg (w := w1) (g := w1.heap.size) (cs := #[.slice none 0 0, .slice none 0 0, .slice none 0 0, .slice none 0 0, .slice none 0 0, .slice none 0 0, .slice none 0 0, .slice none 0 0, .slice none 0 0, .slice none 0 0, .slice none 0 0, .slice none 0 0, .slice none 0 0, .slice none 0 0, .slice none 0 0, .slice none 0 0, .slice none 0 0, .slice none 0 0, .slice none 0 0, .slice none 0 0, .slice none 0 0, .slice none 0 0, .slice none 0 0, .slice none 0 0, .int .i64 0, .int .i64 0, .int .i64 0, .int .i64 0, .int .i64 0, .int .i64 0, .int .i64 0, .int .i64 0, .int .i64 0, .int .i64 0]) (T := 87) rfl); have HB1 := Lib.hid ((HB.out.alloc HB.out.size _).trans (hb1.mono (by simp; have := HB.out.size; omega))); clear hb1 s0 s1 l3)
      | ((with_reducible refine stM KM.out ?_ ?_ ?_ HMZ.out HMO.out ?_); rfl; rfl; rfl; (have KN := Lib.hid (KM.out.row (ds := MS))); (have HB2 := Lib.hid (below_setRow (HB1.out.alloc HB1.out.size (.cells #[.slice none 0 0, .slice none 0 0, .slice none 0 0, .slice none 0 0, .slice none 0 0, .slice none 0 0, .slice none 0 0, .slice none 0 0, .slice none 0 0, .slice none 0 0, .slice none 0 0, .slice none 0 0, .slice none 0 0, .slice none 0 0, .slice none 0 0, .slice none 0 0, .slice none 0 0, .slice none 0 0, .slice none 0 0, .slice none 0 0, .slice none 0 0, .slice none 0 0, .slice none 0 0, .slice none 0 0, .int .i64 0, .int .i64 0, .int .i64 0, .int .i64 0, .int .i64 0, .int .i64 0, .int .i64 0, .int .i64 0, .int .i64 0, .int .i64 0] 87)) (g := w1.heap.size) HB1.out.size MS)); (have hl3 := X3.out.lt); (have X3 := Lib.hid ((X3.out.old (x := .cells #[.slice none 0 0, .slice none 0 0, .slice none 0 0, .slice none 0 0, .slice none 0 0, .slice none 0 0, .slice none 0 0, .slice none 0 0, .slice none 0 0, .slice none 0 0, .slice none 0 0, .slice none 0 0, .slice none 0 0, .slice none 0 0, .slice none 0 0, .slice none 0 0, .slice none 0 0, .slice none 0 0, .slice none 0 0, .slice none 0 0, .slice none 0 0, .slice none 0 0, .slice none 0 0, .slice none 0 0, .int .i64 0, .int .i64 0, .int .i64 0, .int .i64 0, .int .i64 0, .int .i64 0, .int .i64 0, .int .i64 0, .int .i64 0, .int .i64 0] 87)).rowO (g := w1.heap.size) (ds := MS) (by omega))); (have hl4 := X4.out.lt); (have X4 := Lib.hid ((X4.out.old (x := .cells #[.slice none 0 0, .slice none 0 0, .slice none 0 0, .slice none 0 0, .slice none 0 0, .slice none 0 0, .slice none 0 0, .slice none 0 0, .slice none 0 0, .slice none 0 0, .slice none 0 0, .slice none 0 0, .slice none 0 0, .slice none 0 0, .slice none 0 0, .slice none 0 0, .slice none 0 0, .slice none 0 0, .slice none 0 0, .slice none 0 0, .slice none 0 0, .slice none 0 0, .slice none 0 0, .slice none 0 0, .int .i64 0, .int .i64 0, .int .i64 0, .int .i64 0, .int .i64 0, .int .i64 0, .int .i64 0, .int .i64 0, .int .i64 0, .int .i64 0] 87)).rowO (g := w1.heap.size) (ds := MS) (by omega))); clear KM; generalize (w1.alloc (.cells #[.slice none 0 0, .slice none 0 0, .slice none 0 0, .slice none 0 0, .slice none 0 0, .slice none 0 0, .slice none 0 0, .slice none 0 0, .slice none 0 0, .slice none 0 0, .slice none 0 0, .slice none 0 0, .slice none 0 0, .slice none 0 0, .slice none 0 0, .slice none 0 0, .slice none 0 0, .slice none 0 0, .slice none 0 0, .slice none 0 0, .slice none 0 0, .slice none 0 0, .slice none 0 0, .slice none 0 0, .int .i64 0, .int .i64 0, .int .i64 0, .int .i64 0, .int .i64 0, .int .i64 0, .int .i64 0, .int .i64 0, .int .i64 0, .int .i64 0] 87)).setRow w1.heap.size MS = V2 at *; (have c3 := X3.out.cell); (have l3 := X3.out.lt))
      | ((with_reducible refine ldM KN.out HMZ.out ?_ ?_); rfl)
      | (go_at_call 80; refine Calls.mono (HL.out _) ?_; rintro e w3 ⟨rfl, hb3⟩; have HB3 := Lib.hid (HB2.out.trans (hb3.mono HB2.out.size)); have X4 := Lib.hid (X4.out.keep hb3); clear hb3 c3 l3)
      | (go_at_call 67; refine Calls.mono (HBL.out _ HB3.out) ?_; rintro e w4 ⟨rfl, hb4⟩; have HB4 := Lib.hid (HB3.out.trans (hb4.mono HB3.out.size)); have X4 := Lib.hid (X4.out.keep hb4); clear hb4)
      | ((with_reducible refine stS (CS := ?_) X4.out ?_ ?_ ?_ ?_ ?_ ?_); rotate_left; rfl; rfl; rfl; rfl; simp [Value.oneCell']))
    go_simp
    refine bodyPost_ret (v := .tuple #[.agg #[.int .i64 p.1, .int .i64 p.2], .int .i64 0]) (revS Try.results29 (by rfl) (by rfl) X4.out.row (by rfl)) rfl ?_
    exact ⟨rfl, below_setRow HB4.out (by omega) _⟩
  · rw [if_neg hE]
    generalize lvE r a s = E at *
    rw [HE.out] at HR
    clear rg hc hm
    go_enter Try.func29, Try.ntmps29
    go_upto_region 1 with fail
    generalize ((((w.alloc (.cells CS 27)).alloc (.cells #[.int .i64 a.w.1, .int .i64 a.w.2, .int .i64 a.t.1, .int .i64 a.t.2, .int .i64 a.h.1, .int .i64 a.h.2, .int .i64 a.v.1, .int .i64 a.v.2] 36)).alloc (.cells #[.int .i64 s.1, .int .i64 s.2] 34)).alloc (.cells #[.int .i64 0, .int .i64 0] 34)) = V1 at *
    have s0 : V1.cell? ⟨w.heap.size + 1 + 1, 0, none⟩ = some (.int .i64 s.1) := X3.out.cell 0
    have s1 : V1.cell? ⟨w.heap.size + 1 + 1, 1, none⟩ = some (.int .i64 s.2) := X3.out.cell 1
    have l3 := X4.out.lt
    go_wp2_with (first
      | ((with_reducible refine ldR X1.out HSZ.out ?_ ?_); rfl)
      | ((with_reducible refine ldA X2.out ?_ ?_ ?_); rfl; rfl)
      | (go_at_call 58; refine Calls.mono (HR.out _ _ _ (HB.out.alloc HB.out.size _) (cell_keep ((Below.refl _ _).alloc (Nat.le_refl _) _) s0) (cell_keep ((Below.refl _ _).alloc (Nat.le_refl _) _) s1) (by simp) (RS.new1 (by simp))) ?_; rintro e w1 ⟨rfl, hb1⟩; have X4 := Lib.hid (X4.out.old.keep hb1); have KM := Lib.hid (BK.newg (w := w1) (g := w1.heap.size) (cs := #[.slice none 0 0, .slice none 0 0, .slice none 0 0, .slice none 0 0, .slice none 0 0, .slice none 0 0, .slice none 0 0, .slice none 0 0, .slice none 0 0, .slice none 0 0, .slice none 0 0, .slice none 0 0, .slice none 0 0, .slice none 0 0, .slice none 0 0, .slice none 0 0, .slice none 0 0, .slice none 0 0, .slice none 0 0, .slice none 0 0, .slice none 0 0, .slice none 0 0, .slice none 0 0, .slice none 0 0, .int .i64 0, .int .i64 0, .int .i64 0, .int .i64 0, .int .i64 0, .int .i64 0, .int .i64 0, .int .i64 0, .int .i64 0, .int .i64 0]) (T := 87) rfl); have HB1 := Lib.hid ((HB.out.alloc HB.out.size _).trans (hb1.mono (by simp; have := HB.out.size; omega))); clear hb1 s0 s1 l3)
      | ((with_reducible refine stM KM.out ?_ ?_ ?_ HMZ.out HMO.out ?_); rfl; rfl; rfl; (have KN := Lib.hid (KM.out.row (ds := MS))); (have HB2 := Lib.hid (below_setRow (HB1.out.alloc HB1.out.size (.cells #[.slice none 0 0, .slice none 0 0, .slice none 0 0, .slice none 0 0, .slice none 0 0, .slice none 0 0, .slice none 0 0, .slice none 0 0, .slice none 0 0, .slice none 0 0, .slice none 0 0, .slice none 0 0, .slice none 0 0, .slice none 0 0, .slice none 0 0, .slice none 0 0, .slice none 0 0, .slice none 0 0, .slice none 0 0, .slice none 0 0, .slice none 0 0, .slice none 0 0, .slice none 0 0, .slice none 0 0, .int .i64 0, .int .i64 0, .int .i64 0, .int .i64 0, .int .i64 0, .int .i64 0, .int .i64 0, .int .i64 0, .int .i64 0, .int .i64 0] 87)) (g := w1.heap.size) HB1.out.size MS)); (have hl4 := X4.out.lt); (have X4 := Lib.hid ((X4.out.old (x := .cells #[.slice none 0 0, .slice none 0 0, .slice none 0 0, .slice none 0 0, .slice none 0 0, .slice none 0 0, .slice none 0 0, .slice none 0 0, .slice none 0 0, .slice none 0 0, .slice none 0 0, .slice none 0 0, .slice none 0 0, .slice none 0 0, .slice none 0 0, .slice none 0 0, .slice none 0 0, .slice none 0 0, .slice none 0 0, .slice none 0 0, .slice none 0 0, .slice none 0 0, .slice none 0 0, .slice none 0 0, .int .i64 0, .int .i64 0, .int .i64 0, .int .i64 0, .int .i64 0, .int .i64 0, .int .i64 0, .int .i64 0, .int .i64 0, .int .i64 0] 87)).rowO (g := w1.heap.size) (ds := MS) (by omega))); clear KM; generalize (w1.alloc (.cells #[.slice none 0 0, .slice none 0 0, .slice none 0 0, .slice none 0 0, .slice none 0 0, .slice none 0 0, .slice none 0 0, .slice none 0 0, .slice none 0 0, .slice none 0 0, .slice none 0 0, .slice none 0 0, .slice none 0 0, .slice none 0 0, .slice none 0 0, .slice none 0 0, .slice none 0 0, .slice none 0 0, .slice none 0 0, .slice none 0 0, .slice none 0 0, .slice none 0 0, .slice none 0 0, .slice none 0 0, .int .i64 0, .int .i64 0, .int .i64 0, .int .i64 0, .int .i64 0, .int .i64 0, .int .i64 0, .int .i64 0, .int .i64 0, .int .i64 0] 87)).setRow w1.heap.size MS = V2 at *)
      | ((with_reducible refine stS (CS := ?_) X4.out ?_ ?_ ?_ ?_ ?_ ?_); rotate_left; rfl; rfl; rfl; rfl; simp [Value.oneCell']))
    go_simp
    refine bodyPost_ret (v := .tuple #[.agg #[.int .i64 0, .int .i64 0], .int .i64 E]) (revS Try.results29 (by rfl) (by rfl) X4.out.row (by rfl)) rfl ?_
    exact ⟨rfl, below_setRow HB2.out (by omega) _⟩
end Go.Proofs.Ythhokiigdgpmcaa

/- Level of layer 2's reference; Flow of both sides. -/
namespace Go.Proofs.Ythhokiigdgpmcaa
open Go.RowKit

set_option maxRecDepth 100000
theorem lvE_ref (r : RO) (a : AI) (s : Int × Int) : lvE r a s = if airE r a = 0 then (if lsB r.l s a.w then 0 else 1) else airE r a := by
  unfold lvE redE airE lsB
  cases h1 : r.ok with
  | false => rfl
  | true =>
    cases h2 : a.ok with
    | false => rfl
    | true =>
      obtain ⟨k1, _, _, _⟩ := AI.ok_get h2
      simp only [List.all_cons, List.all_nil, Bool.and_true, LO.on, loL, k1, Bool.true_and]
      cases h3 : vS s <;> simp
theorem airE_ok {r : RO} {a : AI} (h : airE r a = 0) : r.ok = true ∧ a.ok = true := by
  unfold airE at h
  cases h1 : r.ok with
  | false => rw [h1] at h; simp at h
  | true =>
    cases h2 : a.ok with
    | false => rw [h1, h2] at h; simp at h
    | true => exact ⟨rfl, rfl⟩
set_option maxHeartbeats 4000000 in
theorem rlevel_call (r : RO) (a : AI) (CS : Array Value) (s : Int × Int) (w : World) (rg : RG w r) (hc : CS = #[.slice r.h.ax r.h.X.length r.h.cx, .slice r.h.ay r.h.Y.length r.h.cy, .slice r.h.av r.h.V.length r.h.cv, .slice r.g.ax r.g.X.length r.g.cx, .slice r.g.ay r.g.Y.length r.g.cy, .slice r.g.av r.g.V.length r.g.cv, .slice r.l.ax r.l.X.length r.l.cx, .slice r.l.ay r.l.Y.length r.l.cy, .slice r.l.av r.l.V.length r.l.cv, .slice r.p.ax r.p.X.length r.p.cx, .slice r.p.ay r.p.Y.length r.p.cy, .slice r.p.av r.p.V.length r.p.cv, .slice r.n.ax r.n.X.length r.n.cx, .slice r.n.ay r.n.Y.length r.n.cy, .slice r.n.av r.n.V.length r.n.cv, .slice r.a.ax r.a.X.length r.a.cx, .slice r.a.ay r.a.Y.length r.a.cy, .slice r.a.av r.a.V.length r.a.cv, .slice r.b.ax r.b.X.length r.b.cx, .slice r.b.ay r.b.Y.length r.b.cy, .slice r.b.av r.b.V.length r.b.cv, .slice r.d.ax r.d.X.length r.d.cx, .slice r.d.ay r.d.Y.length r.d.cy, .slice r.d.av r.d.V.length r.d.cv, .int .i64 r.cl, .int .i64 r.bu]) :
    Calls Try.prog 30 #[.agg CS, .agg #[.int .i64 a.w.1, .int .i64 a.w.2, .int .i64 a.t.1, .int .i64 a.t.2, .int .i64 a.h.1, .int .i64 a.h.2, .int .i64 a.v.1, .int .i64 a.v.2], .agg #[.int .i64 s.1, .int .i64 s.2]] w fun e w' => e = .returned (.tuple #[.agg #[.int .i64 (lvS r a s).1.1, .int .i64 (lvS r a s).1.2], .int .i64 (lvS r a s).2]) ∧ Below w.heap.size w w' := by
  have HCA := Lib.hid (fun (W : World) (hW : Below w.heap.size w W) => checkAir_any r a CS W (rg.below hW) hc)
  have HSZ := Lib.hid (show CS.size = 26 by rw [hc]; rfl)
  have HC := Lib.hid hc
  have X1 := Lib.hid ((((BK.newg (w := w) (g := w.heap.size) (cs := CS) (T := 27) rfl).old (x := .cells #[.int .i64 a.w.1, .int .i64 a.w.2, .int .i64 a.t.1, .int .i64 a.t.2, .int .i64 a.h.1, .int .i64 a.h.2, .int .i64 a.v.1, .int .i64 a.v.2] 36)).old (x := .cells #[.int .i64 s.1, .int .i64 s.2] 34)).old (x := .cells #[.int .i64 0, .int .i64 0] 34))
  have X2 := Lib.hid (((BK.newg (w := (w.alloc (.cells CS 27))) (g := w.heap.size + 1) (cs := #[.int .i64 a.w.1, .int .i64 a.w.2, .int .i64 a.t.1, .int .i64 a.t.2, .int .i64 a.h.1, .int .i64 a.h.2, .int .i64 a.v.1, .int .i64 a.v.2]) (T := 36) (by simp)).old (x := .cells #[.int .i64 s.1, .int .i64 s.2] 34)).old (x := .cells #[.int .i64 0, .int .i64 0] 34))
  have X3 := Lib.hid ((BK.newg (w := ((w.alloc (.cells CS 27)).alloc (.cells #[.int .i64 a.w.1, .int .i64 a.w.2, .int .i64 a.t.1, .int .i64 a.t.2, .int .i64 a.h.1, .int .i64 a.h.2, .int .i64 a.v.1, .int .i64 a.v.2] 36))) (g := w.heap.size + 1 + 1) (cs := #[.int .i64 s.1, .int .i64 s.2]) (T := 34) (by simp)).old (x := .cells #[.int .i64 0, .int .i64 0] 34))
  have X4 := Lib.hid (BK.newg (w := (((w.alloc (.cells CS 27)).alloc (.cells #[.int .i64 a.w.1, .int .i64 a.w.2, .int .i64 a.t.1, .int .i64 a.t.2, .int .i64 a.h.1, .int .i64 a.h.2, .int .i64 a.v.1, .int .i64 a.v.2] 36)).alloc (.cells #[.int .i64 s.1, .int .i64 s.2] 34))) (g := w.heap.size + 1 + 1 + 1) (cs := #[.int .i64 0, .int .i64 0]) (T := 34) (by simp))
  have HB := Lib.hid (show Below w.heap.size w ((((w.alloc (.cells CS 27)).alloc (.cells #[.int .i64 a.w.1, .int .i64 a.w.2, .int .i64 a.t.1, .int .i64 a.t.2, .int .i64 a.h.1, .int .i64 a.h.2, .int .i64 a.v.1, .int .i64 a.v.2] 36)).alloc (.cells #[.int .i64 s.1, .int .i64 s.2] 34)).alloc (.cells #[.int .i64 0, .int .i64 0] 34)) by go_grown)
  by_cases h0 : airE r a = 0
  · obtain ⟨ho, ha⟩ := airE_ok h0
    have hct := filB_ct (ok_of ho).l
    have HLS := Lib.hid (fun (W : World) (hW : Below w.heap.size w W) => rlies_any r.l s a.w W (rg.l.below hW) hct)
    rw [h0] at HCA
    have hE := lvE_ref r a s
    rw [if_pos h0] at hE
    cases hl : lsB r.l s a.w with
    | false =>
      rw [hl] at HLS hE
      rw [show lvS r a s = ((0, 0), 1) by unfold lvS; rw [hE]; rfl]
      clear rg hc h0 ho ha hct hE hl
      go_enter Try.func30, Try.ntmps30
      go_upto_region 1 with fail
      generalize ((((w.alloc (.cells CS 27)).alloc (.cells #[.int .i64 a.w.1, .int .i64 a.w.2, .int .i64 a.t.1, .int .i64 a.t.2, .int .i64 a.h.1, .int .i64 a.h.2, .int .i64 a.v.1, .int .i64 a.v.2] 36)).alloc (.cells #[.int .i64 s.1, .int .i64 s.2] 34)).alloc (.cells #[.int .i64 0, .int .i64 0] 34)) = V1 at *
      go_wp2_with (first
      | ((with_reducible refine ldR X1.out HSZ.out ?_ ?_); rfl)
      | ((with_reducible refine ldA X2.out ?_ ?_ ?_); rfl; rfl)
      | (go_at_call 42; refine Calls.mono (HCA.out _ HB.out) ?_; rintro e w1 ⟨rfl, hb1⟩; have HB1 := Lib.hid (HB.out.trans (hb1.mono HB.out.size)); have X4 := Lib.hid (X4.out.keep hb1); have K1 := X1.out.keep hb1; have K2 := X2.out.keep hb1; have K3 := X3.out.keep hb1; have f0 : w1.cell? ⟨w.heap.size, 6, none⟩ = some (.slice r.l.ax r.l.X.length r.l.cx) := (K1.cell 6).trans (by rw [HC.out]; rfl); have f1 : w1.cell? ⟨w.heap.size, 7, none⟩ = some (.slice r.l.ay r.l.Y.length r.l.cy) := (K1.cell 7).trans (by rw [HC.out]; rfl); have f2 : w1.cell? ⟨w.heap.size, 8, none⟩ = some (.slice r.l.av r.l.V.length r.l.cv) := (K1.cell 8).trans (by rw [HC.out]; rfl); have c2 := K2.cell; have c3 := K3.cell; have l3 := K3.lt; clear hb1)
      | (go_at_call 63; refine Calls.mono (HLS.out _ HB1.out) ?_; rintro e w2 ⟨rfl, hb2⟩; have HB2 := Lib.hid (HB1.out.trans (hb2.mono HB1.out.size)); have X4 := Lib.hid (X4.out.keep hb2); clear hb2 c2 c3 l3 f0 f1 f2)
      | ((with_reducible refine stS (CS := ?_) X4.out ?_ ?_ ?_ ?_ ?_ ?_); rotate_left; rfl; rfl; rfl; rfl; simp [Value.oneCell']))
      go_simp
      refine bodyPost_ret (v := .tuple #[.agg #[.int .i64 0, .int .i64 0], .int .i64 1]) (revS Try.results30 (by rfl) (by rfl) X4.out.row (by rfl)) rfl ?_
      exact ⟨rfl, below_setRow HB2.out (by omega) _⟩
    | true =>
      rw [hl] at HLS hE
      have hE0 : lvE r a s = 0 := hE
      have hv := lvl_of hE0
      have HBN := Lib.hid (fun (W : World) (hW : Below w.heap.size w W) => show Calls Try.prog 68 #[.agg #[.slice r.l.ax r.l.X.length r.l.cx, .slice r.l.ay r.l.Y.length r.l.cy, .slice r.l.av r.l.V.length r.l.cv], .agg #[.int .i64 s.1, .int .i64 s.2], .agg #[.int .i64 a.w.1, .int .i64 a.w.2]] W fun e w' => e = .returned (.agg #[.int .i64 (loL r a s).bn.1, .int .i64 (loL r a s).bn.2]) ∧ Below W.heap.size W w' from rbnd_any (loL r a s) W (rg.l.below hW) hv.l.cb)
      rw [show lvS r a s = ((loL r a s).bn, 0) by unfold lvS; rw [if_pos hE0]]
      generalize (loL r a s).bn = p at *
      clear rg hc h0 ho ha hct hE hE0 hl hv
      go_enter Try.func30, Try.ntmps30
      go_upto_region 1 with fail
      generalize ((((w.alloc (.cells CS 27)).alloc (.cells #[.int .i64 a.w.1, .int .i64 a.w.2, .int .i64 a.t.1, .int .i64 a.t.2, .int .i64 a.h.1, .int .i64 a.h.2, .int .i64 a.v.1, .int .i64 a.v.2] 36)).alloc (.cells #[.int .i64 s.1, .int .i64 s.2] 34)).alloc (.cells #[.int .i64 0, .int .i64 0] 34)) = V1 at *
      go_wp2_with (first
      | ((with_reducible refine ldR X1.out HSZ.out ?_ ?_); rfl)
      | ((with_reducible refine ldA X2.out ?_ ?_ ?_); rfl; rfl)
      | (go_at_call 42; refine Calls.mono (HCA.out _ HB.out) ?_; rintro e w1 ⟨rfl, hb1⟩; have HB1 := Lib.hid (HB.out.trans (hb1.mono HB.out.size)); have X4 := Lib.hid (X4.out.keep hb1); have K1 := X1.out.keep hb1; have K2 := X2.out.keep hb1; have K3 := X3.out.keep hb1; have f0 : w1.cell? ⟨w.heap.size, 6, none⟩ = some (.slice r.l.ax r.l.X.length r.l.cx) := (K1.cell 6).trans (by rw [HC.out]; rfl); have f1 : w1.cell? ⟨w.heap.size, 7, none⟩ = some (.slice r.l.ay r.l.Y.length r.l.cy) := (K1.cell 7).trans (by rw [HC.out]; rfl); have f2 : w1.cell? ⟨w.heap.size, 8, none⟩ = some (.slice r.l.av r.l.V.length r.l.cv) := (K1.cell 8).trans (by rw [HC.out]; rfl); have c2 := K2.cell; have c3 := K3.cell; have l3 := K3.lt; clear hb1)
      | (go_at_call 63; refine Calls.mono (HLS.out _ HB1.out) ?_; rintro e w2 ⟨rfl, hb2⟩; have HB2 := Lib.hid (HB1.out.trans (hb2.mono HB1.out.size)); have X4 := Lib.hid (X4.out.keep hb2); clear c2 c3 l3 f0 f1 f2; have K1 := K1.keep hb2; have K2 := K2.keep hb2; have K3 := K3.keep hb2; have f0 : w2.cell? ⟨w.heap.size, 6, none⟩ = some (.slice r.l.ax r.l.X.length r.l.cx) := (K1.cell 6).trans (by rw [HC.out]; rfl); have f1 : w2.cell? ⟨w.heap.size, 7, none⟩ = some (.slice r.l.ay r.l.Y.length r.l.cy) := (K1.cell 7).trans (by rw [HC.out]; rfl); have f2 : w2.cell? ⟨w.heap.size, 8, none⟩ = some (.slice r.l.av r.l.V.length r.l.cv) := (K1.cell 8).trans (by rw [HC.out]; rfl); have c2 := K2.cell; have c3 := K3.cell; have l3 := K3.lt; clear hb2)
      | (go_at_call 68; refine Calls.mono (HBN.out _ HB2.out) ?_; rintro e w3 ⟨rfl, hb3⟩; have HB3 := Lib.hid (HB2.out.trans (hb3.mono HB2.out.size)); have X4 := Lib.hid (X4.out.keep hb3); clear hb3 c2 c3 l3 f0 f1 f2)
      | ((with_reducible refine stS (CS := ?_) X4.out ?_ ?_ ?_ ?_ ?_ ?_); rotate_left; rfl; rfl; rfl; rfl; simp [Value.oneCell']))
      go_simp
      refine bodyPost_ret (v := .tuple #[.agg #[.int .i64 p.1, .int .i64 p.2], .int .i64 0]) (revS Try.results30 (by rfl) (by rfl) X4.out.row (by rfl)) rfl ?_
      exact ⟨rfl, below_setRow HB3.out (by omega) _⟩
  · have hE := lvE_ref r a s
    rw [if_neg h0] at hE
    rw [show lvS r a s = ((0, 0), airE r a) by unfold lvS; rw [hE, if_neg h0]]
    clear hE
    generalize airE r a = E at *
    clear rg hc
    go_enter Try.func30, Try.ntmps30
    go_upto_region 1 with fail
    generalize ((((w.alloc (.cells CS 27)).alloc (.cells #[.int .i64 a.w.1, .int .i64 a.w.2, .int .i64 a.t.1, .int .i64 a.t.2, .int .i64 a.h.1, .int .i64 a.h.2, .int .i64 a.v.1, .int .i64 a.v.2] 36)).alloc (.cells #[.int .i64 s.1, .int .i64 s.2] 34)).alloc (.cells #[.int .i64 0, .int .i64 0] 34)) = V1 at *
    go_wp2_with (first
      | ((with_reducible refine ldR X1.out HSZ.out ?_ ?_); rfl)
      | ((with_reducible refine ldA X2.out ?_ ?_ ?_); rfl; rfl)
      | (go_at_call 42; refine Calls.mono (HCA.out _ HB.out) ?_; rintro e w1 ⟨rfl, hb1⟩; have HB1 := Lib.hid (HB.out.trans (hb1.mono HB.out.size)); have X4 := Lib.hid (X4.out.keep hb1); clear hb1)
      | ((with_reducible refine stS (CS := ?_) X4.out ?_ ?_ ?_ ?_ ?_ ?_); rotate_left; rfl; rfl; rfl; rfl; simp [Value.oneCell']))
    go_simp
    refine bodyPost_ret (v := .tuple #[.agg #[.int .i64 0, .int .i64 0], .int .i64 E]) (revS Try.results30 (by rfl) (by rfl) X4.out.row (by rfl)) rfl ?_
    exact ⟨rfl, below_setRow HB1.out (by omega) _⟩

def flS (r : RO) (a : AI) (s : Int × Int) : (Int × Int) × Int := if lvE r a s = 0 then partS (loL r a s).bn.1 (loL r a s).bn.2 r.bu 1000 else ((0, 0), lvE r a s)
set_option maxHeartbeats 4000000 in
theorem flow_call (r : RO) (a : AI) (CS : Array Value) (s : Int × Int) (w : World) (rg : RG w r) (hc : CS = #[.slice r.h.ax r.h.X.length r.h.cx, .slice r.h.ay r.h.Y.length r.h.cy, .slice r.h.av r.h.V.length r.h.cv, .slice r.g.ax r.g.X.length r.g.cx, .slice r.g.ay r.g.Y.length r.g.cy, .slice r.g.av r.g.V.length r.g.cv, .slice r.l.ax r.l.X.length r.l.cx, .slice r.l.ay r.l.Y.length r.l.cy, .slice r.l.av r.l.V.length r.l.cv, .slice r.p.ax r.p.X.length r.p.cx, .slice r.p.ay r.p.Y.length r.p.cy, .slice r.p.av r.p.V.length r.p.cv, .slice r.n.ax r.n.X.length r.n.cx, .slice r.n.ay r.n.Y.length r.n.cy, .slice r.n.av r.n.V.length r.n.cv, .slice r.a.ax r.a.X.length r.a.cx, .slice r.a.ay r.a.Y.length r.a.cy, .slice r.a.av r.a.V.length r.a.cv, .slice r.b.ax r.b.X.length r.b.cx, .slice r.b.ay r.b.Y.length r.b.cy, .slice r.b.av r.b.V.length r.b.cv, .slice r.d.ax r.d.X.length r.d.cx, .slice r.d.ay r.d.Y.length r.d.cy, .slice r.d.av r.d.V.length r.d.cv, .int .i64 r.cl, .int .i64 r.bu]) :
    Calls Try.prog 31 #[.agg CS, .agg #[.int .i64 a.w.1, .int .i64 a.w.2, .int .i64 a.t.1, .int .i64 a.t.2, .int .i64 a.h.1, .int .i64 a.h.2, .int .i64 a.v.1, .int .i64 a.v.2], .agg #[.int .i64 s.1, .int .i64 s.2]] w fun e w' => e = .returned (.tuple #[.agg #[.int .i64 (flS r a s).1.1, .int .i64 (flS r a s).1.2], .int .i64 (flS r a s).2]) ∧ Below w.heap.size w w' := by
  have HSZ := Lib.hid (show CS.size = 26 by rw [hc]; rfl)
  have HC := Lib.hid hc
  have X1 := Lib.hid ((((BK.newg (w := w) (g := w.heap.size) (cs := CS) (T := 27) rfl).old (x := .cells #[.int .i64 a.w.1, .int .i64 a.w.2, .int .i64 a.t.1, .int .i64 a.t.2, .int .i64 a.h.1, .int .i64 a.h.2, .int .i64 a.v.1, .int .i64 a.v.2] 36)).old (x := .cells #[.int .i64 s.1, .int .i64 s.2] 34)).old (x := .cells #[.int .i64 0, .int .i64 0] 34))
  have X2 := Lib.hid (((BK.newg (w := (w.alloc (.cells CS 27))) (g := w.heap.size + 1) (cs := #[.int .i64 a.w.1, .int .i64 a.w.2, .int .i64 a.t.1, .int .i64 a.t.2, .int .i64 a.h.1, .int .i64 a.h.2, .int .i64 a.v.1, .int .i64 a.v.2]) (T := 36) (by simp)).old (x := .cells #[.int .i64 s.1, .int .i64 s.2] 34)).old (x := .cells #[.int .i64 0, .int .i64 0] 34))
  have X3 := Lib.hid ((BK.newg (w := ((w.alloc (.cells CS 27)).alloc (.cells #[.int .i64 a.w.1, .int .i64 a.w.2, .int .i64 a.t.1, .int .i64 a.t.2, .int .i64 a.h.1, .int .i64 a.h.2, .int .i64 a.v.1, .int .i64 a.v.2] 36))) (g := w.heap.size + 1 + 1) (cs := #[.int .i64 s.1, .int .i64 s.2]) (T := 34) (by simp)).old (x := .cells #[.int .i64 0, .int .i64 0] 34))
  have X4 := Lib.hid (BK.newg (w := (((w.alloc (.cells CS 27)).alloc (.cells #[.int .i64 a.w.1, .int .i64 a.w.2, .int .i64 a.t.1, .int .i64 a.t.2, .int .i64 a.h.1, .int .i64 a.h.2, .int .i64 a.v.1, .int .i64 a.v.2] 36)).alloc (.cells #[.int .i64 s.1, .int .i64 s.2] 34))) (g := w.heap.size + 1 + 1 + 1) (cs := #[.int .i64 0, .int .i64 0]) (T := 34) (by simp))
  have HB := Lib.hid (show Below w.heap.size w ((((w.alloc (.cells CS 27)).alloc (.cells #[.int .i64 a.w.1, .int .i64 a.w.2, .int .i64 a.t.1, .int .i64 a.t.2, .int .i64 a.h.1, .int .i64 a.h.2, .int .i64 a.v.1, .int .i64 a.v.2] 36)).alloc (.cells #[.int .i64 s.1, .int .i64 s.2] 34)).alloc (.cells #[.int .i64 0, .int .i64 0] 34)) by go_grown)
  by_cases hE : lvE r a s = 0
  · have HL := Lib.hid (fun (W : World) (hW : Below w.heap.size w W) => show Calls Try.prog 29 #[.agg CS, .agg #[.int .i64 a.w.1, .int .i64 a.w.2, .int .i64 a.t.1, .int .i64 a.t.2, .int .i64 a.h.1, .int .i64 a.h.2, .int .i64 a.v.1, .int .i64 a.v.2], .agg #[.int .i64 s.1, .int .i64 s.2]] W fun e w' => e = .returned (.tuple #[.agg #[.int .i64 (loL r a s).bn.1, .int .i64 (loL r a s).bn.2], .int .i64 0]) ∧ Below W.heap.size W w' by
      have := level_call r a CS s W (rg.below hW) hc
      rw [show lvS r a s = ((loL r a s).bn, 0) by unfold lvS; rw [if_pos hE]] at this
      exact this)
    have HP := Lib.hid (fun (W : World) => part_span_any (loL r a s).bn.1 (loL r a s).bn.2 r.bu 1000 W)
    rw [show flS r a s = partS (loL r a s).bn.1 (loL r a s).bn.2 r.bu 1000 by unfold flS; rw [if_pos hE]]
    generalize partS (loL r a s).bn.1 (loL r a s).bn.2 r.bu 1000 = q at *
    obtain ⟨⟨q1, q2⟩, q3⟩ := q
    dsimp only at HP ⊢
    generalize (loL r a s).bn.1 = p1 at *
    generalize (loL r a s).bn.2 = p2 at *
    clear rg hc hE
    go_enter Try.func31, Try.ntmps31
    go_upto_region 1 with fail
    generalize ((((w.alloc (.cells CS 27)).alloc (.cells #[.int .i64 a.w.1, .int .i64 a.w.2, .int .i64 a.t.1, .int .i64 a.t.2, .int .i64 a.h.1, .int .i64 a.h.2, .int .i64 a.v.1, .int .i64 a.v.2] 36)).alloc (.cells #[.int .i64 s.1, .int .i64 s.2] 34)).alloc (.cells #[.int .i64 0, .int .i64 0] 34)) = V1 at *
    have c3 := X3.out.cell
    have l3 := X3.out.lt
    go_wp2_with (first
      | ((with_reducible refine ldR X1.out HSZ.out ?_ ?_); rfl)
      | ((with_reducible refine ldA X2.out ?_ ?_ ?_); rfl; rfl)
      | (go_at_call 29; refine Calls.mono (HL.out _ HB.out) ?_; rintro e w1 ⟨rfl, hb1⟩; have HB1 := Lib.hid (HB.out.trans (hb1.mono HB.out.size)); have X4 := Lib.hid (X4.out.keep hb1); have K1 := X1.out.keep hb1; have l1 := K1.lt; have f0 : w1.cell? ⟨w.heap.size, 25, none⟩ = some (.int .i64 r.bu) := (K1.cell 25).trans (by rw [HC.out]; rfl); clear hb1 c3 l3)
      | (go_at_call 33; refine Calls.mono (HP.out _) ?_; rintro e w2 ⟨rfl, hb2⟩; have X4 := Lib.hid (X4.out.old.keep hb2); have HB2 := Lib.hid ((HB1.out.alloc HB1.out.size _).trans (hb2.mono (by simp; have := HB1.out.size; omega))); clear hb2 f0)
      | ((with_reducible refine stS (CS := ?_) X4.out ?_ ?_ ?_ ?_ ?_ ?_); rotate_left; rfl; rfl; rfl; rfl; simp [Value.oneCell']))
    go_simp
    refine bodyPost_ret (v := .tuple #[.agg #[.int .i64 q1, .int .i64 q2], .int .i64 q3]) (revS Try.results31 (by rfl) (by rfl) X4.out.row (by rfl)) rfl ?_
    exact ⟨rfl, below_setRow HB2.out (by omega) _⟩
  · have HL := Lib.hid (fun (W : World) (hW : Below w.heap.size w W) => show Calls Try.prog 29 #[.agg CS, .agg #[.int .i64 a.w.1, .int .i64 a.w.2, .int .i64 a.t.1, .int .i64 a.t.2, .int .i64 a.h.1, .int .i64 a.h.2, .int .i64 a.v.1, .int .i64 a.v.2], .agg #[.int .i64 s.1, .int .i64 s.2]] W fun e w' => e = .returned (.tuple #[.agg #[.int .i64 0, .int .i64 0], .int .i64 (lvE r a s)]) ∧ Below W.heap.size W w' by
      have := level_call r a CS s W (rg.below hW) hc
      rw [show lvS r a s = ((0, 0), lvE r a s) by unfold lvS; rw [if_neg hE]] at this
      exact this)
    rw [show flS r a s = ((0, 0), lvE r a s) by unfold flS; rw [if_neg hE]]
    generalize lvE r a s = E at *
    clear rg hc
    go_enter Try.func31, Try.ntmps31
    go_upto_region 1 with fail
    generalize ((((w.alloc (.cells CS 27)).alloc (.cells #[.int .i64 a.w.1, .int .i64 a.w.2, .int .i64 a.t.1, .int .i64 a.t.2, .int .i64 a.h.1, .int .i64 a.h.2, .int .i64 a.v.1, .int .i64 a.v.2] 36)).alloc (.cells #[.int .i64 s.1, .int .i64 s.2] 34)).alloc (.cells #[.int .i64 0, .int .i64 0] 34)) = V1 at *
    have c3 := X3.out.cell
    have l3 := X3.out.lt
    go_wp2_with (first
      | ((with_reducible refine ldR X1.out HSZ.out ?_ ?_); rfl)
      | ((with_reducible refine ldA X2.out ?_ ?_ ?_); rfl; rfl)
      | (go_at_call 29; refine Calls.mono (HL.out _ HB.out) ?_; rintro e w1 ⟨rfl, hb1⟩; have HB1 := Lib.hid (HB.out.trans (hb1.mono HB.out.size)); have X4 := Lib.hid (X4.out.keep hb1); clear hb1 c3 l3)
      | ((with_reducible refine stS (CS := ?_) (X4.out.old) ?_ ?_ ?_ ?_ ?_ ?_); rotate_left; rfl; rfl; rfl; rfl; simp [Value.oneCell']))
    go_simp
    refine bodyPost_ret (v := .tuple #[.agg #[.int .i64 0, .int .i64 0], .int .i64 E]) (revS Try.results31 (by rfl) (by rfl) (X4.out.old).row (by rfl)) rfl ?_
    exact ⟨rfl, below_setRow (HB1.out.alloc HB1.out.size _) (by omega) _⟩
set_option maxHeartbeats 4000000 in
theorem rflow_call (r : RO) (a : AI) (CS : Array Value) (s : Int × Int) (w : World) (rg : RG w r) (hc : CS = #[.slice r.h.ax r.h.X.length r.h.cx, .slice r.h.ay r.h.Y.length r.h.cy, .slice r.h.av r.h.V.length r.h.cv, .slice r.g.ax r.g.X.length r.g.cx, .slice r.g.ay r.g.Y.length r.g.cy, .slice r.g.av r.g.V.length r.g.cv, .slice r.l.ax r.l.X.length r.l.cx, .slice r.l.ay r.l.Y.length r.l.cy, .slice r.l.av r.l.V.length r.l.cv, .slice r.p.ax r.p.X.length r.p.cx, .slice r.p.ay r.p.Y.length r.p.cy, .slice r.p.av r.p.V.length r.p.cv, .slice r.n.ax r.n.X.length r.n.cx, .slice r.n.ay r.n.Y.length r.n.cy, .slice r.n.av r.n.V.length r.n.cv, .slice r.a.ax r.a.X.length r.a.cx, .slice r.a.ay r.a.Y.length r.a.cy, .slice r.a.av r.a.V.length r.a.cv, .slice r.b.ax r.b.X.length r.b.cx, .slice r.b.ay r.b.Y.length r.b.cy, .slice r.b.av r.b.V.length r.b.cv, .slice r.d.ax r.d.X.length r.d.cx, .slice r.d.ay r.d.Y.length r.d.cy, .slice r.d.av r.d.V.length r.d.cv, .int .i64 r.cl, .int .i64 r.bu]) :
    Calls Try.prog 32 #[.agg CS, .agg #[.int .i64 a.w.1, .int .i64 a.w.2, .int .i64 a.t.1, .int .i64 a.t.2, .int .i64 a.h.1, .int .i64 a.h.2, .int .i64 a.v.1, .int .i64 a.v.2], .agg #[.int .i64 s.1, .int .i64 s.2]] w fun e w' => e = .returned (.tuple #[.agg #[.int .i64 (flS r a s).1.1, .int .i64 (flS r a s).1.2], .int .i64 (flS r a s).2]) ∧ Below w.heap.size w w' := by
  have HSZ := Lib.hid (show CS.size = 26 by rw [hc]; rfl)
  have HC := Lib.hid hc
  have X1 := Lib.hid ((((BK.newg (w := w) (g := w.heap.size) (cs := CS) (T := 27) rfl).old (x := .cells #[.int .i64 a.w.1, .int .i64 a.w.2, .int .i64 a.t.1, .int .i64 a.t.2, .int .i64 a.h.1, .int .i64 a.h.2, .int .i64 a.v.1, .int .i64 a.v.2] 36)).old (x := .cells #[.int .i64 s.1, .int .i64 s.2] 34)).old (x := .cells #[.int .i64 0, .int .i64 0] 34))
  have X2 := Lib.hid (((BK.newg (w := (w.alloc (.cells CS 27))) (g := w.heap.size + 1) (cs := #[.int .i64 a.w.1, .int .i64 a.w.2, .int .i64 a.t.1, .int .i64 a.t.2, .int .i64 a.h.1, .int .i64 a.h.2, .int .i64 a.v.1, .int .i64 a.v.2]) (T := 36) (by simp)).old (x := .cells #[.int .i64 s.1, .int .i64 s.2] 34)).old (x := .cells #[.int .i64 0, .int .i64 0] 34))
  have X3 := Lib.hid ((BK.newg (w := ((w.alloc (.cells CS 27)).alloc (.cells #[.int .i64 a.w.1, .int .i64 a.w.2, .int .i64 a.t.1, .int .i64 a.t.2, .int .i64 a.h.1, .int .i64 a.h.2, .int .i64 a.v.1, .int .i64 a.v.2] 36))) (g := w.heap.size + 1 + 1) (cs := #[.int .i64 s.1, .int .i64 s.2]) (T := 34) (by simp)).old (x := .cells #[.int .i64 0, .int .i64 0] 34))
  have X4 := Lib.hid (BK.newg (w := (((w.alloc (.cells CS 27)).alloc (.cells #[.int .i64 a.w.1, .int .i64 a.w.2, .int .i64 a.t.1, .int .i64 a.t.2, .int .i64 a.h.1, .int .i64 a.h.2, .int .i64 a.v.1, .int .i64 a.v.2] 36)).alloc (.cells #[.int .i64 s.1, .int .i64 s.2] 34))) (g := w.heap.size + 1 + 1 + 1) (cs := #[.int .i64 0, .int .i64 0]) (T := 34) (by simp))
  have HB := Lib.hid (show Below w.heap.size w ((((w.alloc (.cells CS 27)).alloc (.cells #[.int .i64 a.w.1, .int .i64 a.w.2, .int .i64 a.t.1, .int .i64 a.t.2, .int .i64 a.h.1, .int .i64 a.h.2, .int .i64 a.v.1, .int .i64 a.v.2] 36)).alloc (.cells #[.int .i64 s.1, .int .i64 s.2] 34)).alloc (.cells #[.int .i64 0, .int .i64 0] 34)) by go_grown)
  by_cases hE : lvE r a s = 0
  · have HL := Lib.hid (fun (W : World) (hW : Below w.heap.size w W) => show Calls Try.prog 30 #[.agg CS, .agg #[.int .i64 a.w.1, .int .i64 a.w.2, .int .i64 a.t.1, .int .i64 a.t.2, .int .i64 a.h.1, .int .i64 a.h.2, .int .i64 a.v.1, .int .i64 a.v.2], .agg #[.int .i64 s.1, .int .i64 s.2]] W fun e w' => e = .returned (.tuple #[.agg #[.int .i64 (loL r a s).bn.1, .int .i64 (loL r a s).bn.2], .int .i64 0]) ∧ Below W.heap.size W w' by
      have := rlevel_call r a CS s W (rg.below hW) hc
      rw [show lvS r a s = ((loL r a s).bn, 0) by unfold lvS; rw [if_pos hE]] at this
      exact this)
    have HP := Lib.hid (fun (W : World) => rpart_any (loL r a s).bn.1 (loL r a s).bn.2 r.bu 1000 W)
    rw [show flS r a s = partS (loL r a s).bn.1 (loL r a s).bn.2 r.bu 1000 by unfold flS; rw [if_pos hE]]
    generalize partS (loL r a s).bn.1 (loL r a s).bn.2 r.bu 1000 = q at *
    obtain ⟨⟨q1, q2⟩, q3⟩ := q
    dsimp only at HP ⊢
    generalize (loL r a s).bn.1 = p1 at *
    generalize (loL r a s).bn.2 = p2 at *
    clear rg hc hE
    go_enter Try.func32, Try.ntmps32
    go_upto_region 1 with fail
    generalize ((((w.alloc (.cells CS 27)).alloc (.cells #[.int .i64 a.w.1, .int .i64 a.w.2, .int .i64 a.t.1, .int .i64 a.t.2, .int .i64 a.h.1, .int .i64 a.h.2, .int .i64 a.v.1, .int .i64 a.v.2] 36)).alloc (.cells #[.int .i64 s.1, .int .i64 s.2] 34)).alloc (.cells #[.int .i64 0, .int .i64 0] 34)) = V1 at *
    have c3 := X3.out.cell
    have l3 := X3.out.lt
    go_wp2_with (first
      | ((with_reducible refine ldR X1.out HSZ.out ?_ ?_); rfl)
      | ((with_reducible refine ldA X2.out ?_ ?_ ?_); rfl; rfl)
      | (go_at_call 30; refine Calls.mono (HL.out _ HB.out) ?_; rintro e w1 ⟨rfl, hb1⟩; have HB1 := Lib.hid (HB.out.trans (hb1.mono HB.out.size)); have X4 := Lib.hid (X4.out.keep hb1); have K1 := X1.out.keep hb1; have l1 := K1.lt; have f0 : w1.cell? ⟨w.heap.size, 25, none⟩ = some (.int .i64 r.bu) := (K1.cell 25).trans (by rw [HC.out]; rfl); clear hb1 c3 l3)
      | (go_at_call 81; refine Calls.mono (HP.out _) ?_; rintro e w2 ⟨rfl, hb2⟩; have X4 := Lib.hid (X4.out.old.keep hb2); have HB2 := Lib.hid ((HB1.out.alloc HB1.out.size _).trans (hb2.mono (by simp; have := HB1.out.size; omega))); clear hb2 f0)
      | ((with_reducible refine stS (CS := ?_) X4.out ?_ ?_ ?_ ?_ ?_ ?_); rotate_left; rfl; rfl; rfl; rfl; simp [Value.oneCell']))
    go_simp
    refine bodyPost_ret (v := .tuple #[.agg #[.int .i64 q1, .int .i64 q2], .int .i64 q3]) (revS Try.results32 (by rfl) (by rfl) X4.out.row (by rfl)) rfl ?_
    exact ⟨rfl, below_setRow HB2.out (by omega) _⟩
  · have HL := Lib.hid (fun (W : World) (hW : Below w.heap.size w W) => show Calls Try.prog 30 #[.agg CS, .agg #[.int .i64 a.w.1, .int .i64 a.w.2, .int .i64 a.t.1, .int .i64 a.t.2, .int .i64 a.h.1, .int .i64 a.h.2, .int .i64 a.v.1, .int .i64 a.v.2], .agg #[.int .i64 s.1, .int .i64 s.2]] W fun e w' => e = .returned (.tuple #[.agg #[.int .i64 0, .int .i64 0], .int .i64 (lvE r a s)]) ∧ Below W.heap.size W w' by
      have := rlevel_call r a CS s W (rg.below hW) hc
      rw [show lvS r a s = ((0, 0), lvE r a s) by unfold lvS; rw [if_neg hE]] at this
      exact this)
    rw [show flS r a s = ((0, 0), lvE r a s) by unfold flS; rw [if_neg hE]]
    generalize lvE r a s = E at *
    clear rg hc
    go_enter Try.func32, Try.ntmps32
    go_upto_region 1 with fail
    generalize ((((w.alloc (.cells CS 27)).alloc (.cells #[.int .i64 a.w.1, .int .i64 a.w.2, .int .i64 a.t.1, .int .i64 a.t.2, .int .i64 a.h.1, .int .i64 a.h.2, .int .i64 a.v.1, .int .i64 a.v.2] 36)).alloc (.cells #[.int .i64 s.1, .int .i64 s.2] 34)).alloc (.cells #[.int .i64 0, .int .i64 0] 34)) = V1 at *
    have c3 := X3.out.cell
    have l3 := X3.out.lt
    go_wp2_with (first
      | ((with_reducible refine ldR X1.out HSZ.out ?_ ?_); rfl)
      | ((with_reducible refine ldA X2.out ?_ ?_ ?_); rfl; rfl)
      | (go_at_call 30; refine Calls.mono (HL.out _ HB.out) ?_; rintro e w1 ⟨rfl, hb1⟩; have HB1 := Lib.hid (HB.out.trans (hb1.mono HB.out.size)); have X4 := Lib.hid (X4.out.keep hb1); clear hb1 c3 l3)
      | ((with_reducible refine stS (CS := ?_) (X4.out.old) ?_ ?_ ?_ ?_ ?_ ?_); rotate_left; rfl; rfl; rfl; rfl; simp [Value.oneCell']))
    go_simp
    refine bodyPost_ret (v := .tuple #[.agg #[.int .i64 0, .int .i64 0], .int .i64 E]) (revS Try.results32 (by rfl) (by rfl) (X4.out.old).row (by rfl)) rfl ?_
    exact ⟨rfl, below_setRow (HB1.out.alloc HB1.out.size _) (by omega) _⟩
end Go.Proofs.Ythhokiigdgpmcaa

/- Needs and Has of both sides; Margin of the reference. -/
namespace Go.Proofs.Ythhokiigdgpmcaa
open Go.RowKit

set_option maxRecDepth 100000
theorem ready_nd (r : RO) (a : AI) (CS MS : Array Value) (s : Int × Int) (gs g : Nat) (W : World) (rg : RG W r) (hc : CS = #[.slice r.h.ax r.h.X.length r.h.cx, .slice r.h.ay r.h.Y.length r.h.cy, .slice r.h.av r.h.V.length r.h.cv, .slice r.g.ax r.g.X.length r.g.cx, .slice r.g.ay r.g.Y.length r.g.cy, .slice r.g.av r.g.V.length r.g.cv, .slice r.l.ax r.l.X.length r.l.cx, .slice r.l.ay r.l.Y.length r.l.cy, .slice r.l.av r.l.V.length r.l.cv, .slice r.p.ax r.p.X.length r.p.cx, .slice r.p.ay r.p.Y.length r.p.cy, .slice r.p.av r.p.V.length r.p.cv, .slice r.n.ax r.n.X.length r.n.cx, .slice r.n.ay r.n.Y.length r.n.cy, .slice r.n.av r.n.V.length r.n.cv, .slice r.a.ax r.a.X.length r.a.cx, .slice r.a.ay r.a.Y.length r.a.cy, .slice r.a.av r.a.V.length r.a.cv, .slice r.b.ax r.b.X.length r.b.cx, .slice r.b.ay r.b.Y.length r.b.cy, .slice r.b.av r.b.V.length r.b.cv, .slice r.d.ax r.d.X.length r.d.cx, .slice r.d.ay r.d.Y.length r.d.cy, .slice r.d.av r.d.V.length r.d.cv, .int .i64 r.cl, .int .i64 r.bu]) (hm : MS = #[.slice r.h.ax r.h.X.length r.h.cx, .slice r.h.ay r.h.Y.length r.h.cy, .slice r.h.av r.h.V.length r.h.cv, .slice r.g.ax r.g.X.length r.g.cx, .slice r.g.ay r.g.Y.length r.g.cy, .slice r.g.av r.g.V.length r.g.cv, .slice r.l.ax r.l.X.length r.l.cx, .slice r.l.ay r.l.Y.length r.l.cy, .slice r.l.av r.l.V.length r.l.cv, .slice r.p.ax r.p.X.length r.p.cx, .slice r.p.ay r.p.Y.length r.p.cy, .slice r.p.av r.p.V.length r.p.cv, .slice r.n.ax r.n.X.length r.n.cx, .slice r.n.ay r.n.Y.length r.n.cy, .slice r.n.av r.n.V.length r.n.cv, .slice r.a.ax r.a.X.length r.a.cx, .slice r.a.ay r.a.Y.length r.a.cy, .slice r.a.av r.a.V.length r.a.cv, .slice r.b.ax r.b.X.length r.b.cx, .slice r.b.ay r.b.Y.length r.b.cy, .slice r.b.av r.b.V.length r.b.cv, .slice r.d.ax r.d.X.length r.d.cx, .slice r.d.ay r.d.Y.length r.d.cy, .slice r.d.av r.d.V.length r.d.cv, .int .i64 r.cl, .int .i64 r.bu, .int .i64 a.w.1, .int .i64 a.w.2, .int .i64 a.t.1, .int .i64 a.t.2, .int .i64 a.h.1, .int .i64 a.h.2, .int .i64 a.v.1, .int .i64 a.v.2]) (h0 : W.cell? ⟨gs, 0, none⟩ = some (.int .i64 s.1)) (h1 : W.cell? ⟨gs, 1, none⟩ = some (.int .i64 s.2)) (hg : g < W.heap.size) (hF : RS W (g + 1) (some ⟨g, 0, none⟩) [s]) :
    Calls Try.prog 58 #[.agg CS, .agg #[.int .i64 a.w.1, .int .i64 a.w.2, .int .i64 a.t.1, .int .i64 a.t.2, .int .i64 a.h.1, .int .i64 a.h.2, .int .i64 a.v.1, .int .i64 a.v.2], .func (.func 59) #[] #[.pointer (some ⟨gs, 0, none⟩)], .slice (some ⟨g, 0, none⟩) 1 1] W fun e w' => e = .returned (.tuple #[.agg MS, .int .i64 (redE r a [loH r a, loG r a s] [s])]) ∧ Below W.heap.size W w' := by
  refine ready_any 59 #[.pointer (some ⟨gs, 0, none⟩)] r a [loH r a, loG r a s] [s] W (some ⟨g, 0, none⟩) 1 CS MS rg hc hm (hF.more hg) (le_maxLen (by simp)) (by simp) ?_ ?_ Try.call59 ?_
  · intro l hl
    simp at hl
    rcases hl with rfl | rfl
    · exact rg.h
    · exact rg.g
  · intro h l hl
    have o := ok_of h
    simp at hl
    rcases hl with rfl | rfl
    · exact filB_ct o.h
    · exact filB_ct o.g
  · intro _ W' hW
    refine (needs1_any r a MS hm s gs W' (cell_keep hW h0) (cell_keep hW h1)).mono ?_
    rintro e w' ⟨v, rfl, ⟨A, c, rfl, h⟩, hb⟩
    exact ⟨A, c, rfl, h, hb⟩
theorem ready_has (r : RO) (a : AI) (CS MS : Array Value) (W : World) (rg : RG W r) (hc : CS = #[.slice r.h.ax r.h.X.length r.h.cx, .slice r.h.ay r.h.Y.length r.h.cy, .slice r.h.av r.h.V.length r.h.cv, .slice r.g.ax r.g.X.length r.g.cx, .slice r.g.ay r.g.Y.length r.g.cy, .slice r.g.av r.g.V.length r.g.cv, .slice r.l.ax r.l.X.length r.l.cx, .slice r.l.ay r.l.Y.length r.l.cy, .slice r.l.av r.l.V.length r.l.cv, .slice r.p.ax r.p.X.length r.p.cx, .slice r.p.ay r.p.Y.length r.p.cy, .slice r.p.av r.p.V.length r.p.cv, .slice r.n.ax r.n.X.length r.n.cx, .slice r.n.ay r.n.Y.length r.n.cy, .slice r.n.av r.n.V.length r.n.cv, .slice r.a.ax r.a.X.length r.a.cx, .slice r.a.ay r.a.Y.length r.a.cy, .slice r.a.av r.a.V.length r.a.cv, .slice r.b.ax r.b.X.length r.b.cx, .slice r.b.ay r.b.Y.length r.b.cy, .slice r.b.av r.b.V.length r.b.cv, .slice r.d.ax r.d.X.length r.d.cx, .slice r.d.ay r.d.Y.length r.d.cy, .slice r.d.av r.d.V.length r.d.cv, .int .i64 r.cl, .int .i64 r.bu]) (hm : MS = #[.slice r.h.ax r.h.X.length r.h.cx, .slice r.h.ay r.h.Y.length r.h.cy, .slice r.h.av r.h.V.length r.h.cv, .slice r.g.ax r.g.X.length r.g.cx, .slice r.g.ay r.g.Y.length r.g.cy, .slice r.g.av r.g.V.length r.g.cv, .slice r.l.ax r.l.X.length r.l.cx, .slice r.l.ay r.l.Y.length r.l.cy, .slice r.l.av r.l.V.length r.l.cv, .slice r.p.ax r.p.X.length r.p.cx, .slice r.p.ay r.p.Y.length r.p.cy, .slice r.p.av r.p.V.length r.p.cv, .slice r.n.ax r.n.X.length r.n.cx, .slice r.n.ay r.n.Y.length r.n.cy, .slice r.n.av r.n.V.length r.n.cv, .slice r.a.ax r.a.X.length r.a.cx, .slice r.a.ay r.a.Y.length r.a.cy, .slice r.a.av r.a.V.length r.a.cv, .slice r.b.ax r.b.X.length r.b.cx, .slice r.b.ay r.b.Y.length r.b.cy, .slice r.b.av r.b.V.length r.b.cv, .slice r.d.ax r.d.X.length r.d.cx, .slice r.d.ay r.d.Y.length r.d.cy, .slice r.d.av r.d.V.length r.d.cv, .int .i64 r.cl, .int .i64 r.bu, .int .i64 a.w.1, .int .i64 a.w.2, .int .i64 a.t.1, .int .i64 a.t.2, .int .i64 a.h.1, .int .i64 a.h.2, .int .i64 a.v.1, .int .i64 a.v.2]) :
    Calls Try.prog 58 #[.agg CS, .agg #[.int .i64 a.w.1, .int .i64 a.w.2, .int .i64 a.t.1, .int .i64 a.t.2, .int .i64 a.h.1, .int .i64 a.h.2, .int .i64 a.v.1, .int .i64 a.v.2], .func (.func 65) #[] #[], .slice none 0 0] W fun e w' => e = .returned (.tuple #[.agg MS, .int .i64 (redE r a [loP r a] [])]) ∧ Below W.heap.size W w' := by
  refine ready_any 65 #[] r a [loP r a] [] W none 0 CS MS rg hc hm (fun h => absurd h (by simp)) (le_maxLen (by simp)) (by simp) ?_ ?_ Try.call65 ?_
  · intro l hl
    simp at hl
    subst hl
    exact rg.p
  · intro h l hl
    have o := ok_of h
    simp at hl
    subst hl
    exact filB_ct o.p
  · intro _ W' hW
    refine (has1_any r a MS hm W').mono ?_
    rintro e w' ⟨v, rfl, ⟨A, c, rfl, h⟩, hb⟩
    exact ⟨A, c, rfl, h, hb⟩
def ndE (r : RO) (a : AI) (s : Int × Int) : Int := redE r a [loH r a, loG r a s] [s]
def ndS (r : RO) (a : AI) (s : Int × Int) : (Int × Int) × Int := if ndE r a s = 0 then (ndN r a s, 0) else ((0, 0), ndE r a s)
def hsE (r : RO) (a : AI) : Int := redE r a [loP r a] []
def hsS (r : RO) (a : AI) : (Int × Int) × Int := if hsE r a = 0 then ((loP r a).bn, 0) else ((0, 0), hsE r a)
theorem hov_of {r : RO} {a : AI} {s : Int × Int} (h : ndE r a s = 0) : Hov r a s := by
  obtain ⟨h1, h2, h3, h4⟩ := rdy_of h
  obtain ⟨k1, k2, k3, k4⟩ := AI.ok_get h2
  have o := ok_of h1
  simp only [List.all_cons, List.all_nil, Bool.and_eq_true, Bool.and_true] at h3 h4
  exact ⟨⟨o.h, k1, k2, h4.1⟩, ⟨o.g, h3, k4, h4.2⟩⟩
theorem pow_of {r : RO} {a : AI} (h : hsE r a = 0) : LOk 0 100000 (loP r a) := by
  obtain ⟨h1, h2, h3, h4⟩ := rdy_of h
  obtain ⟨k1, k2, k3, k4⟩ := AI.ok_get h2
  have o := ok_of h1
  simp only [List.all_cons, List.all_nil, Bool.and_true] at h4
  exact ⟨o.p, k2, k3, h4⟩
theorem ndE_ref (r : RO) (a : AI) (s : Int × Int) : ndE r a s = if airE r a = 0 then (if lsB r.h a.w a.t then (if lsB r.g s a.v then 0 else 1) else 1) else airE r a := by
  unfold ndE redE airE lsB
  cases h1 : r.ok with
  | false => rfl
  | true =>
    cases h2 : a.ok with
    | false => rfl
    | true =>
      obtain ⟨k1, k2, _, k4⟩ := AI.ok_get h2
      simp only [List.all_cons, List.all_nil, Bool.and_true, LO.on, loH, loG, k1, k2, k4, Bool.true_and]
      cases h3 : vS s <;> cases (osB r.h.X a.w && osB r.h.Y a.t) <;> simp
theorem hsE_ref (r : RO) (a : AI) : hsE r a = if airE r a = 0 then (if lsB r.p a.t a.h then 0 else 1) else airE r a := by
  unfold hsE redE airE lsB
  cases h1 : r.ok with
  | false => rfl
  | true =>
    cases h2 : a.ok with
    | false => rfl
    | true =>
      obtain ⟨_, k2, k3, _⟩ := AI.ok_get h2
      simp only [List.all_cons, List.all_nil, Bool.and_true, LO.on, loP, k2, k3, Bool.true_and]
      simp
theorem mgE_ref (r : RO) (a : AI) (s : Int × Int) : redE r a [loH r a, loG r a s, loP r a] [s] = if ndE r a s = 0 then hsE r a else ndE r a s := by
  unfold ndE hsE redE
  cases r.ok <;> cases a.ok <;> simp
  cases vS s <;> cases (loH r a).on <;> cases (loG r a s).on <;> simp
set_option maxHeartbeats 4000000 in
theorem needs_call (r : RO) (a : AI) (CS : Array Value) (s : Int × Int) (w : World) (rg : RG w r) (hc : CS = #[.slice r.h.ax r.h.X.length r.h.cx, .slice r.h.ay r.h.Y.length r.h.cy, .slice r.h.av r.h.V.length r.h.cv, .slice r.g.ax r.g.X.length r.g.cx, .slice r.g.ay r.g.Y.length r.g.cy, .slice r.g.av r.g.V.length r.g.cv, .slice r.l.ax r.l.X.length r.l.cx, .slice r.l.ay r.l.Y.length r.l.cy, .slice r.l.av r.l.V.length r.l.cv, .slice r.p.ax r.p.X.length r.p.cx, .slice r.p.ay r.p.Y.length r.p.cy, .slice r.p.av r.p.V.length r.p.cv, .slice r.n.ax r.n.X.length r.n.cx, .slice r.n.ay r.n.Y.length r.n.cy, .slice r.n.av r.n.V.length r.n.cv, .slice r.a.ax r.a.X.length r.a.cx, .slice r.a.ay r.a.Y.length r.a.cy, .slice r.a.av r.a.V.length r.a.cv, .slice r.b.ax r.b.X.length r.b.cx, .slice r.b.ay r.b.Y.length r.b.cy, .slice r.b.av r.b.V.length r.b.cv, .slice r.d.ax r.d.X.length r.d.cx, .slice r.d.ay r.d.Y.length r.d.cy, .slice r.d.av r.d.V.length r.d.cv, .int .i64 r.cl, .int .i64 r.bu]) :
    Calls Try.prog 19 #[.agg CS, .agg #[.int .i64 a.w.1, .int .i64 a.w.2, .int .i64 a.t.1, .int .i64 a.t.2, .int .i64 a.h.1, .int .i64 a.h.2, .int .i64 a.v.1, .int .i64 a.v.2], .agg #[.int .i64 s.1, .int .i64 s.2]] w fun e w' => e = .returned (.tuple #[.agg #[.int .i64 (ndS r a s).1.1, .int .i64 (ndS r a s).1.2], .int .i64 (ndS r a s).2]) ∧ Below w.heap.size w w' := by
  obtain ⟨MS, hm⟩ : ∃ MS : Array Value, MS = #[.slice r.h.ax r.h.X.length r.h.cx, .slice r.h.ay r.h.Y.length r.h.cy, .slice r.h.av r.h.V.length r.h.cv, .slice r.g.ax r.g.X.length r.g.cx, .slice r.g.ay r.g.Y.length r.g.cy, .slice r.g.av r.g.V.length r.g.cv, .slice r.l.ax r.l.X.length r.l.cx, .slice r.l.ay r.l.Y.length r.l.cy, .slice r.l.av r.l.V.length r.l.cv, .slice r.p.ax r.p.X.length r.p.cx, .slice r.p.ay r.p.Y.length r.p.cy, .slice r.p.av r.p.V.length r.p.cv, .slice r.n.ax r.n.X.length r.n.cx, .slice r.n.ay r.n.Y.length r.n.cy, .slice r.n.av r.n.V.length r.n.cv, .slice r.a.ax r.a.X.length r.a.cx, .slice r.a.ay r.a.Y.length r.a.cy, .slice r.a.av r.a.V.length r.a.cv, .slice r.b.ax r.b.X.length r.b.cx, .slice r.b.ay r.b.Y.length r.b.cy, .slice r.b.av r.b.V.length r.b.cv, .slice r.d.ax r.d.X.length r.d.cx, .slice r.d.ay r.d.Y.length r.d.cy, .slice r.d.av r.d.V.length r.d.cv, .int .i64 r.cl, .int .i64 r.bu, .int .i64 a.w.1, .int .i64 a.w.2, .int .i64 a.t.1, .int .i64 a.t.2, .int .i64 a.h.1, .int .i64 a.h.2, .int .i64 a.v.1, .int .i64 a.v.2] := ⟨_, rfl⟩
  have HR := Lib.hid (fun (gs g : Nat) (W : World) (hW : Below w.heap.size w W) h0 h1 hg hF => ready_nd r a CS MS s gs g W (rg.below hW) hc hm h0 h1 hg hF)
  have HSZ := Lib.hid (show CS.size = 26 by rw [hc]; rfl)
  have HMZ := Lib.hid (show MS.size = 34 by rw [hm]; rfl)
  have HMO := Lib.hid (show MS.all (·.oneCell') = true by rw [hm]; simp [Value.oneCell'])
  have X1 := Lib.hid ((((BK.newg (w := w) (g := w.heap.size) (cs := CS) (T := 27) rfl).old (x := .cells #[.int .i64 a.w.1, .int .i64 a.w.2, .int .i64 a.t.1, .int .i64 a.t.2, .int .i64 a.h.1, .int .i64 a.h.2, .int .i64 a.v.1, .int .i64 a.v.2] 36)).old (x := .cells #[.int .i64 s.1, .int .i64 s.2] 34)).old (x := .cells #[.int .i64 0, .int .i64 0] 34))
  have X2 := Lib.hid (((BK.newg (w := (w.alloc (.cells CS 27))) (g := w.heap.size + 1) (cs := #[.int .i64 a.w.1, .int .i64 a.w.2, .int .i64 a.t.1, .int .i64 a.t.2, .int .i64 a.h.1, .int .i64 a.h.2, .int .i64 a.v.1, .int .i64 a.v.2]) (T := 36) (by simp)).old (x := .cells #[.int .i64 s.1, .int .i64 s.2] 34)).old (x := .cells #[.int .i64 0, .int .i64 0] 34))
  have X3 := Lib.hid ((BK.newg (w := ((w.alloc (.cells CS 27)).alloc (.cells #[.int .i64 a.w.1, .int .i64 a.w.2, .int .i64 a.t.1, .int .i64 a.t.2, .int .i64 a.h.1, .int .i64 a.h.2, .int .i64 a.v.1, .int .i64 a.v.2] 36))) (g := w.heap.size + 1 + 1) (cs := #[.int .i64 s.1, .int .i64 s.2]) (T := 34) (by simp)).old (x := .cells #[.int .i64 0, .int .i64 0] 34))
  have X4 := Lib.hid (BK.newg (w := (((w.alloc (.cells CS 27)).alloc (.cells #[.int .i64 a.w.1, .int .i64 a.w.2, .int .i64 a.t.1, .int .i64 a.t.2, .int .i64 a.h.1, .int .i64 a.h.2, .int .i64 a.v.1, .int .i64 a.v.2] 36)).alloc (.cells #[.int .i64 s.1, .int .i64 s.2] 34))) (g := w.heap.size + 1 + 1 + 1) (cs := #[.int .i64 0, .int .i64 0]) (T := 34) (by simp))
  have HB := Lib.hid (show Below w.heap.size w ((((w.alloc (.cells CS 27)).alloc (.cells #[.int .i64 a.w.1, .int .i64 a.w.2, .int .i64 a.t.1, .int .i64 a.t.2, .int .i64 a.h.1, .int .i64 a.h.2, .int .i64 a.v.1, .int .i64 a.v.2] 36)).alloc (.cells #[.int .i64 s.1, .int .i64 s.2] 34)).alloc (.cells #[.int .i64 0, .int .i64 0] 34)) by go_grown)
  have HE := Lib.hid (show redE r a [loH r a, loG r a s] [s] = ndE r a s from rfl)
  unfold ndS
  by_cases hE : ndE r a s = 0
  · rw [if_pos hE]
    have hE' := hE
    unfold ndE at hE'
    have hv := hov_of hE
    have HNN := Lib.hid (fun (W : World) (hW : Below w.heap.size w W) => mneeds_any r a MS hm s W (rg.below hW) hv)
    rw [hE'] at HR
    generalize ndN r a s = p at *
    clear rg hc hm hE hE' HE hv
    go_enter Try.func19, Try.ntmps19
    go_upto_region 1 with fail
    generalize ((((w.alloc (.cells CS 27)).alloc (.cells #[.int .i64 a.w.1, .int .i64 a.w.2, .int .i64 a.t.1, .int .i64 a.t.2, .int .i64 a.h.1, .int .i64 a.h.2, .int .i64 a.v.1, .int .i64 a.v.2] 36)).alloc (.cells #[.int .i64 s.1, .int .i64 s.2] 34)).alloc (.cells #[.int .i64 0, .int .i64 0] 34)) = V1 at *
    have s0 : V1.cell? ⟨w.heap.size + 1 + 1, 0, none⟩ = some (.int .i64 s.1) := X3.out.cell 0
    have s1 : V1.cell? ⟨w.heap.size + 1 + 1, 1, none⟩ = some (.int .i64 s.2) := X3.out.cell 1
    have l3 := X4.out.lt
    go_wp2_with (first
      | ((with_reducible refine ldR X1.out HSZ.out ?_ ?_); rfl)
      | ((with_reducible refine ldA X2.out ?_ ?_ ?_); rfl; rfl)
      | (go_at_call 58; refine Calls.mono (HR.out _ _ _ (HB.out.alloc HB.out.size _) (cell_keep ((Below.refl _ _).alloc (Nat.le_refl _) _) s0) (cell_keep ((Below.refl _ _).alloc (Nat.le_refl _) _) s1) (by simp) (RS.new1 (by simp))) ?_; rintro e w1 ⟨rfl, hb1⟩; have X3 := Lib.hid (X3.out.old.keep hb1); have X4 := Lib.hid (X4.out.old.keep hb1); have KM := Lib.hid (BK.newg (w := w1) (g := w1.heap.size) (cs := #[.slice none 0 0, .slice none 0 0, .slice none 0 0, .slice none 0 0, .slice none 0 0, .slice none 0 0, .slice none 0 0, .slice none 0 0, .slice none 0 0, .slice none 0 0, .slice none 0 0, .slice none 0 0, .slice none 0 0, .slice none 0 0, .slice none 0 0, .slice none 0 0, .slice none 0 0, .slice none 0 0, .slice none 0 0, .slice none 0 0, .slice none 0 0, .slice none 0 0, .slice none 0 0, .slice none 0 0, .int .i64 0, .int .i64 0, .int .i64 0, .int .i64 0, .int .i64 0, .int .i64 0, .int .i64 0, .int .i64 0, .int .i64 0, .int .i64 0]) (T := 87) rfl); have HB1 := Lib.hid ((HB.out.alloc HB.out.size _).trans (hb1.mono (by simp; have := HB.out.size; omega))); clear hb1 s0 s1 l3)
      | ((with_reducible refine stM KM.out ?_ ?_ ?_ HMZ.out HMO.out ?_); rfl; rfl; rfl; (have KN := Lib.hid (KM.out.row (ds := MS))); (have HB2 := Lib.hid (below_setRow (HB1.out.alloc HB1.out.size (.cells #[.slice none 0 0, .slice none 0 0, .slice none 0 0, .slice none 0 0, .slice none 0 0, .slice none 0 0, .slice none 0 0, .slice none 0 0, .slice none 0 0, .slice none 0 0, .slice none 0 0, .slice none 0 0, .slice none 0 0, .slice none 0 0, .slice none 0 0, .slice none 0 0, .slice none 0 0, .slice none 0 0, .slice none 0 0, .slice none 0 0, .slice none 0 0, .slice none 0 0, .slice none 0 0, .slice none 0 0, .int .i64 0, .int .i64 0, .int .i64 0, .int .i64 0, .int .i64 0, .int .i64 0, .int .i64 0, .int .i64 0, .int .i64 0, .int .i64 0] 87)) (g := w1.heap.size) HB1.out.size MS)); (have hl3 := X3.out.lt); (have X3 := Lib.hid ((X3.out.old (x := .cells #[.slice none 0 0, .slice none 0 0, .slice none 0 0, .slice none 0 0, .slice none 0 0, .slice none 0 0, .slice none 0 0, .slice none 0 0, .slice none 0 0, .slice none 0 0, .slice none 0 0, .slice none 0 0, .slice none 0 0, .slice none 0 0, .slice none 0 0, .slice none 0 0, .slice none 0 0, .slice none 0 0, .slice none 0 0, .slice none 0 0, .slice none 0 0, .slice none 0 0, .slice none 0 0, .slice none 0 0, .int .i64 0, .int .i64 0, .int .i64 0, .int .i64 0, .int .i64 0, .int .i64 0, .int .i64 0, .int .i64 0, .int .i64 0, .int .i64 0] 87)).rowO (g := w1.heap.size) (ds := MS) (by omega))); (have hl4 := X4.out.lt); (have X4 := Lib.hid ((X4.out.old (x := .cells #[.slice none 0 0, .slice none 0 0, .slice none 0 0, .slice none 0 0, .slice none 0 0, .slice none 0 0, .slice none 0 0, .slice none 0 0, .slice none 0 0, .slice none 0 0, .slice none 0 0, .slice none 0 0, .slice none 0 0, .slice none 0 0, .slice none 0 0, .slice none 0 0, .slice none 0 0, .slice none 0 0, .slice none 0 0, .slice none 0 0, .slice none 0 0, .slice none 0 0, .slice none 0 0, .slice none 0 0, .int .i64 0, .int .i64 0, .int .i64 0, .int .i64 0, .int .i64 0, .int .i64 0, .int .i64 0, .int .i64 0, .int .i64 0, .int .i64 0] 87)).rowO (g := w1.heap.size) (ds := MS) (by omega))); clear KM; generalize (w1.alloc (.cells #[.slice none 0 0, .slice none 0 0, .slice none 0 0, .slice none 0 0, .slice none 0 0, .slice none 0 0, .slice none 0 0, .slice none 0 0, .slice none 0 0, .slice none 0 0, .slice none 0 0, .slice none 0 0, .slice none 0 0, .slice none 0 0, .slice none 0 0, .slice none 0 0, .slice none 0 0, .slice none 0 0, .slice none 0 0, .slice none 0 0, .slice none 0 0, .slice none 0 0, .slice none 0 0, .slice none 0 0, .int .i64 0, .int .i64 0, .int .i64 0, .int .i64 0, .int .i64 0, .int .i64 0, .int .i64 0, .int .i64 0, .int .i64 0, .int .i64 0] 87)).setRow w1.heap.size MS = V2 at *; (have c3 := X3.out.cell); (have l3 := X3.out.lt))
      | ((with_reducible refine ldM KN.out HMZ.out ?_ ?_); rfl)
      | (go_at_call 62; refine Calls.mono (HNN.out _ HB2.out) ?_; rintro e w4 ⟨rfl, hb4⟩; have HB4 := Lib.hid (HB2.out.trans (hb4.mono HB2.out.size)); have X4 := Lib.hid (X4.out.keep hb4); clear hb4 c3 l3)
      | ((with_reducible refine stS (CS := ?_) X4.out ?_ ?_ ?_ ?_ ?_ ?_); rotate_left; rfl; rfl; rfl; rfl; simp [Value.oneCell']))
    go_simp
    refine bodyPost_ret (v := .tuple #[.agg #[.int .i64 p.1, .int .i64 p.2], .int .i64 0]) (revS Try.results19 (by rfl) (by rfl) X4.out.row (by rfl)) rfl ?_
    exact ⟨rfl, below_setRow HB4.out (by omega) _⟩
  · rw [if_neg hE]
    generalize ndE r a s = E at *
    rw [HE.out] at HR
    clear rg hc hm
    go_enter Try.func19, Try.ntmps19
    go_upto_region 1 with fail
    generalize ((((w.alloc (.cells CS 27)).alloc (.cells #[.int .i64 a.w.1, .int .i64 a.w.2, .int .i64 a.t.1, .int .i64 a.t.2, .int .i64 a.h.1, .int .i64 a.h.2, .int .i64 a.v.1, .int .i64 a.v.2] 36)).alloc (.cells #[.int .i64 s.1, .int .i64 s.2] 34)).alloc (.cells #[.int .i64 0, .int .i64 0] 34)) = V1 at *
    have s0 : V1.cell? ⟨w.heap.size + 1 + 1, 0, none⟩ = some (.int .i64 s.1) := X3.out.cell 0
    have s1 : V1.cell? ⟨w.heap.size + 1 + 1, 1, none⟩ = some (.int .i64 s.2) := X3.out.cell 1
    have l3 := X4.out.lt
    go_wp2_with (first
      | ((with_reducible refine ldR X1.out HSZ.out ?_ ?_); rfl)
      | ((with_reducible refine ldA X2.out ?_ ?_ ?_); rfl; rfl)
      | (go_at_call 58; refine Calls.mono (HR.out _ _ _ (HB.out.alloc HB.out.size _) (cell_keep ((Below.refl _ _).alloc (Nat.le_refl _) _) s0) (cell_keep ((Below.refl _ _).alloc (Nat.le_refl _) _) s1) (by simp) (RS.new1 (by simp))) ?_; rintro e w1 ⟨rfl, hb1⟩; have X3 := Lib.hid (X3.out.old.keep hb1); have X4 := Lib.hid (X4.out.old.keep hb1); have KM := Lib.hid (BK.newg (w := w1) (g := w1.heap.size) (cs := #[.slice none 0 0, .slice none 0 0, .slice none 0 0, .slice none 0 0, .slice none 0 0, .slice none 0 0, .slice none 0 0, .slice none 0 0, .slice none 0 0, .slice none 0 0, .slice none 0 0, .slice none 0 0, .slice none 0 0, .slice none 0 0, .slice none 0 0, .slice none 0 0, .slice none 0 0, .slice none 0 0, .slice none 0 0, .slice none 0 0, .slice none 0 0, .slice none 0 0, .slice none 0 0, .slice none 0 0, .int .i64 0, .int .i64 0, .int .i64 0, .int .i64 0, .int .i64 0, .int .i64 0, .int .i64 0, .int .i64 0, .int .i64 0, .int .i64 0]) (T := 87) rfl); have HB1 := Lib.hid ((HB.out.alloc HB.out.size _).trans (hb1.mono (by simp; have := HB.out.size; omega))); clear hb1 s0 s1 l3)
      | ((with_reducible refine stM KM.out ?_ ?_ ?_ HMZ.out HMO.out ?_); rfl; rfl; rfl; (have KN := Lib.hid (KM.out.row (ds := MS))); (have HB2 := Lib.hid (below_setRow (HB1.out.alloc HB1.out.size (.cells #[.slice none 0 0, .slice none 0 0, .slice none 0 0, .slice none 0 0, .slice none 0 0, .slice none 0 0, .slice none 0 0, .slice none 0 0, .slice none 0 0, .slice none 0 0, .slice none 0 0, .slice none 0 0, .slice none 0 0, .slice none 0 0, .slice none 0 0, .slice none 0 0, .slice none 0 0, .slice none 0 0, .slice none 0 0, .slice none 0 0, .slice none 0 0, .slice none 0 0, .slice none 0 0, .slice none 0 0, .int .i64 0, .int .i64 0, .int .i64 0, .int .i64 0, .int .i64 0, .int .i64 0, .int .i64 0, .int .i64 0, .int .i64 0, .int .i64 0] 87)) (g := w1.heap.size) HB1.out.size MS)); (have hl3 := X3.out.lt); (have X3 := Lib.hid ((X3.out.old (x := .cells #[.slice none 0 0, .slice none 0 0, .slice none 0 0, .slice none 0 0, .slice none 0 0, .slice none 0 0, .slice none 0 0, .slice none 0 0, .slice none 0 0, .slice none 0 0, .slice none 0 0, .slice none 0 0, .slice none 0 0, .slice none 0 0, .slice none 0 0, .slice none 0 0, .slice none 0 0, .slice none 0 0, .slice none 0 0, .slice none 0 0, .slice none 0 0, .slice none 0 0, .slice none 0 0, .slice none 0 0, .int .i64 0, .int .i64 0, .int .i64 0, .int .i64 0, .int .i64 0, .int .i64 0, .int .i64 0, .int .i64 0, .int .i64 0, .int .i64 0] 87)).rowO (g := w1.heap.size) (ds := MS) (by omega))); (have hl4 := X4.out.lt); (have X4 := Lib.hid ((X4.out.old (x := .cells #[.slice none 0 0, .slice none 0 0, .slice none 0 0, .slice none 0 0, .slice none 0 0, .slice none 0 0, .slice none 0 0, .slice none 0 0, .slice none 0 0, .slice none 0 0, .slice none 0 0, .slice none 0 0, .slice none 0 0, .slice none 0 0, .slice none 0 0, .slice none 0 0, .slice none 0 0, .slice none 0 0, .slice none 0 0, .slice none 0 0, .slice none 0 0, .slice none 0 0, .slice none 0 0, .slice none 0 0, .int .i64 0, .int .i64 0, .int .i64 0, .int .i64 0, .int .i64 0, .int .i64 0, .int .i64 0, .int .i64 0, .int .i64 0, .int .i64 0] 87)).rowO (g := w1.heap.size) (ds := MS) (by omega))); clear KM; generalize (w1.alloc (.cells #[.slice none 0 0, .slice none 0 0, .slice none 0 0, .slice none 0 0, .slice none 0 0, .slice none 0 0, .slice none 0 0, .slice none 0 0, .slice none 0 0, .slice none 0 0, .slice none 0 0, .slice none 0 0, .slice none 0 0, .slice none 0 0, .slice none 0 0, .slice none 0 0, .slice none 0 0, .slice none 0 0, .slice none 0 0, .slice none 0 0, .slice none 0 0, .slice none 0 0, .slice none 0 0, .slice none 0 0, .int .i64 0, .int .i64 0, .int .i64 0, .int .i64 0, .int .i64 0, .int .i64 0, .int .i64 0, .int .i64 0, .int .i64 0, .int .i64 0] 87)).setRow w1.heap.size MS = V2 at *)
      | ((with_reducible refine stS (CS := ?_) X4.out ?_ ?_ ?_ ?_ ?_ ?_); rotate_left; rfl; rfl; rfl; rfl; simp [Value.oneCell']))
    go_simp
    refine bodyPost_ret (v := .tuple #[.agg #[.int .i64 0, .int .i64 0], .int .i64 E]) (revS Try.results19 (by rfl) (by rfl) X4.out.row (by rfl)) rfl ?_
    exact ⟨rfl, below_setRow HB2.out (by omega) _⟩
set_option maxHeartbeats 4000000 in
theorem has_call (r : RO) (a : AI) (CS : Array Value) (w : World) (rg : RG w r) (hc : CS = #[.slice r.h.ax r.h.X.length r.h.cx, .slice r.h.ay r.h.Y.length r.h.cy, .slice r.h.av r.h.V.length r.h.cv, .slice r.g.ax r.g.X.length r.g.cx, .slice r.g.ay r.g.Y.length r.g.cy, .slice r.g.av r.g.V.length r.g.cv, .slice r.l.ax r.l.X.length r.l.cx, .slice r.l.ay r.l.Y.length r.l.cy, .slice r.l.av r.l.V.length r.l.cv, .slice r.p.ax r.p.X.length r.p.cx, .slice r.p.ay r.p.Y.length r.p.cy, .slice r.p.av r.p.V.length r.p.cv, .slice r.n.ax r.n.X.length r.n.cx, .slice r.n.ay r.n.Y.length r.n.cy, .slice r.n.av r.n.V.length r.n.cv, .slice r.a.ax r.a.X.length r.a.cx, .slice r.a.ay r.a.Y.length r.a.cy, .slice r.a.av r.a.V.length r.a.cv, .slice r.b.ax r.b.X.length r.b.cx, .slice r.b.ay r.b.Y.length r.b.cy, .slice r.b.av r.b.V.length r.b.cv, .slice r.d.ax r.d.X.length r.d.cx, .slice r.d.ay r.d.Y.length r.d.cy, .slice r.d.av r.d.V.length r.d.cv, .int .i64 r.cl, .int .i64 r.bu]) :
    Calls Try.prog 21 #[.agg CS, .agg #[.int .i64 a.w.1, .int .i64 a.w.2, .int .i64 a.t.1, .int .i64 a.t.2, .int .i64 a.h.1, .int .i64 a.h.2, .int .i64 a.v.1, .int .i64 a.v.2]] w fun e w' => e = .returned (.tuple #[.agg #[.int .i64 (hsS r a).1.1, .int .i64 (hsS r a).1.2], .int .i64 (hsS r a).2]) ∧ Below w.heap.size w w' := by
  obtain ⟨MS, hm⟩ : ∃ MS : Array Value, MS = #[.slice r.h.ax r.h.X.length r.h.cx, .slice r.h.ay r.h.Y.length r.h.cy, .slice r.h.av r.h.V.length r.h.cv, .slice r.g.ax r.g.X.length r.g.cx, .slice r.g.ay r.g.Y.length r.g.cy, .slice r.g.av r.g.V.length r.g.cv, .slice r.l.ax r.l.X.length r.l.cx, .slice r.l.ay r.l.Y.length r.l.cy, .slice r.l.av r.l.V.length r.l.cv, .slice r.p.ax r.p.X.length r.p.cx, .slice r.p.ay r.p.Y.length r.p.cy, .slice r.p.av r.p.V.length r.p.cv, .slice r.n.ax r.n.X.length r.n.cx, .slice r.n.ay r.n.Y.length r.n.cy, .slice r.n.av r.n.V.length r.n.cv, .slice r.a.ax r.a.X.length r.a.cx, .slice r.a.ay r.a.Y.length r.a.cy, .slice r.a.av r.a.V.length r.a.cv, .slice r.b.ax r.b.X.length r.b.cx, .slice r.b.ay r.b.Y.length r.b.cy, .slice r.b.av r.b.V.length r.b.cv, .slice r.d.ax r.d.X.length r.d.cx, .slice r.d.ay r.d.Y.length r.d.cy, .slice r.d.av r.d.V.length r.d.cv, .int .i64 r.cl, .int .i64 r.bu, .int .i64 a.w.1, .int .i64 a.w.2, .int .i64 a.t.1, .int .i64 a.t.2, .int .i64 a.h.1, .int .i64 a.h.2, .int .i64 a.v.1, .int .i64 a.v.2] := ⟨_, rfl⟩
  have HR := Lib.hid (fun (W : World) (hW : Below w.heap.size w W) => ready_has r a CS MS W (rg.below hW) hc hm)
  have HSZ := Lib.hid (show CS.size = 26 by rw [hc]; rfl)
  have HMZ := Lib.hid (show MS.size = 34 by rw [hm]; rfl)
  have HMO := Lib.hid (show MS.all (·.oneCell') = true by rw [hm]; simp [Value.oneCell'])
  have X1 := Lib.hid (((BK.newg (w := w) (g := w.heap.size) (cs := CS) (T := 27) rfl).old (x := .cells #[.int .i64 a.w.1, .int .i64 a.w.2, .int .i64 a.t.1, .int .i64 a.t.2, .int .i64 a.h.1, .int .i64 a.h.2, .int .i64 a.v.1, .int .i64 a.v.2] 36)).old (x := .cells #[.int .i64 0, .int .i64 0] 34))
  have X2 := Lib.hid ((BK.newg (w := (w.alloc (.cells CS 27))) (g := w.heap.size + 1) (cs := #[.int .i64 a.w.1, .int .i64 a.w.2, .int .i64 a.t.1, .int .i64 a.t.2, .int .i64 a.h.1, .int .i64 a.h.2, .int .i64 a.v.1, .int .i64 a.v.2]) (T := 36) (by simp)).old (x := .cells #[.int .i64 0, .int .i64 0] 34))
  have X3 := Lib.hid (BK.newg (w := ((w.alloc (.cells CS 27)).alloc (.cells #[.int .i64 a.w.1, .int .i64 a.w.2, .int .i64 a.t.1, .int .i64 a.t.2, .int .i64 a.h.1, .int .i64 a.h.2, .int .i64 a.v.1, .int .i64 a.v.2] 36))) (g := w.heap.size + 1 + 1) (cs := #[.int .i64 0, .int .i64 0]) (T := 34) (by simp))
  have HB := Lib.hid (show Below w.heap.size w (((w.alloc (.cells CS 27)).alloc (.cells #[.int .i64 a.w.1, .int .i64 a.w.2, .int .i64 a.t.1, .int .i64 a.t.2, .int .i64 a.h.1, .int .i64 a.h.2, .int .i64 a.v.1, .int .i64 a.v.2] 36)).alloc (.cells #[.int .i64 0, .int .i64 0] 34)) by go_grown)
  have HE := Lib.hid (show redE r a [loP r a] [] = hsE r a from rfl)
  unfold hsS
  by_cases hE : hsE r a = 0
  · rw [if_pos hE]
    have hE' := hE
    unfold hsE at hE'
    have hv := pow_of hE
    have HPO := Lib.hid (fun (W : World) => show Calls Try.prog 66 #[.agg MS] W fun e w' => e = .returned (.agg #[.slice r.p.ax r.p.X.length r.p.cx, .slice r.p.ay r.p.Y.length r.p.cy, .slice r.p.av r.p.V.length r.p.cv, .int .i64 a.t.1, .int .i64 a.t.2, .int .i64 a.h.1, .int .i64 a.h.2]) ∧ Below W.heap.size W w' by rw [hm]; exact power_any r a W)
    have HBP := Lib.hid (fun (W : World) (hW : Below w.heap.size w W) => show Calls Try.prog 67 #[.agg #[.slice r.p.ax r.p.X.length r.p.cx, .slice r.p.ay r.p.Y.length r.p.cy, .slice r.p.av r.p.V.length r.p.cv, .int .i64 a.t.1, .int .i64 a.t.2, .int .i64 a.h.1, .int .i64 a.h.2]] W fun e w' => e = .returned (.agg #[.int .i64 (loP r a).bn.1, .int .i64 (loP r a).bn.2]) ∧ Below W.heap.size W w' from lbound_any (loP r a) W (rg.p.below hW) hv.cb)
    rw [hE'] at HR
    generalize (loP r a).bn = p at *
    clear rg hc hm hE hE' HE hv
    go_enter Try.func21, Try.ntmps21
    go_upto_region 1 with fail
    generalize (((w.alloc (.cells CS 27)).alloc (.cells #[.int .i64 a.w.1, .int .i64 a.w.2, .int .i64 a.t.1, .int .i64 a.t.2, .int .i64 a.h.1, .int .i64 a.h.2, .int .i64 a.v.1, .int .i64 a.v.2] 36)).alloc (.cells #[.int .i64 0, .int .i64 0] 34)) = V1 at *
    go_wp2_with (first
      | ((with_reducible refine ldR X1.out HSZ.out ?_ ?_); rfl)
      | ((with_reducible refine ldA X2.out ?_ ?_ ?_); rfl; rfl)
      | (go_at_call 58; refine Calls.mono (HR.out _ HB.out) ?_; rintro e w1 ⟨rfl, hb1⟩; have X3 := Lib.hid (X3.out.keep hb1); have KM := Lib.hid (BK.newg (w := w1) (g := w1.heap.size) (cs := #[.slice none 0 0, .slice none 0 0, .slice none 0 0, .slice none 0 0, .slice none 0 0, .slice none 0 0, .slice none 0 0, .slice none 0 0, .slice none 0 0, .slice none 0 0, .slice none 0 0, .slice none 0 0, .slice none 0 0, .slice none 0 0, .slice none 0 0, .slice none 0 0, .slice none 0 0, .slice none 0 0, .slice none 0 0, .slice none 0 0, .slice none 0 0, .slice none 0 0, .slice none 0 0, .slice none 0 0, .int .i64 0, .int .i64 0, .int .i64 0, .int .i64 0, .int .i64 0, .int .i64 0, .int .i64 0, .int .i64 0, .int .i64 0, .int .i64 0]) (T := 87) rfl); have HB1 := Lib.hid (HB.out.trans (hb1.mono HB.out.size)); clear hb1)
      | ((with_reducible refine stM KM.out ?_ ?_ ?_ HMZ.out HMO.out ?_); rfl; rfl; rfl; (have KN := Lib.hid (KM.out.row (ds := MS))); (have HB2 := Lib.hid (below_setRow (HB1.out.alloc HB1.out.size (.cells #[.slice none 0 0, .slice none 0 0, .slice none 0 0, .slice none 0 0, .slice none 0 0, .slice none 0 0, .slice none 0 0, .slice none 0 0, .slice none 0 0, .slice none 0 0, .slice none 0 0, .slice none 0 0, .slice none 0 0, .slice none 0 0, .slice none 0 0, .slice none 0 0, .slice none 0 0, .slice none 0 0, .slice none 0 0, .slice none 0 0, .slice none 0 0, .slice none 0 0, .slice none 0 0, .slice none 0 0, .int .i64 0, .int .i64 0, .int .i64 0, .int .i64 0, .int .i64 0, .int .i64 0, .int .i64 0, .int .i64 0, .int .i64 0, .int .i64 0] 87)) (g := w1.heap.size) HB1.out.size MS)); (have hl3 := X3.out.lt); (have X3 := Lib.hid ((X3.out.old (x := .cells #[.slice none 0 0, .slice none 0 0, .slice none 0 0, .slice none 0 0, .slice none 0 0, .slice none 0 0, .slice none 0 0, .slice none 0 0, .slice none 0 0, .slice none 0 0, .slice none 0 0, .slice none 0 0, .slice none 0 0, .slice none 0 0, .slice none 0 0, .slice none 0 0, .slice none 0 0, .slice none 0 0, .slice none 0 0, .slice none 0 0, .slice none 0 0, .slice none 0 0, .slice none 0 0, .slice none 0 0, .int .i64 0, .int .i64 0, .int .i64 0, .int .i64 0, .int .i64 0, .int .i64 0, .int .i64 0, .int .i64 0, .int .i64 0, .int .i64 0] 87)).rowO (g := w1.heap.size) (ds := MS) (by omega))); clear KM; generalize (w1.alloc (.cells #[.slice none 0 0, .slice none 0 0, .slice none 0 0, .slice none 0 0, .slice none 0 0, .slice none 0 0, .slice none 0 0, .slice none 0 0, .slice none 0 0, .slice none 0 0, .slice none 0 0, .slice none 0 0, .slice none 0 0, .slice none 0 0, .slice none 0 0, .slice none 0 0, .slice none 0 0, .slice none 0 0, .slice none 0 0, .slice none 0 0, .slice none 0 0, .slice none 0 0, .slice none 0 0, .slice none 0 0, .int .i64 0, .int .i64 0, .int .i64 0, .int .i64 0, .int .i64 0, .int .i64 0, .int .i64 0, .int .i64 0, .int .i64 0, .int .i64 0] 87)).setRow w1.heap.size MS = V2 at *)
      | ((with_reducible refine ldM KN.out HMZ.out ?_ ?_); rfl)
      | (go_at_call 66; refine Calls.mono (HPO.out _) ?_; rintro e w3 ⟨rfl, hb3⟩; have HB3 := Lib.hid (HB2.out.trans (hb3.mono HB2.out.size)); have X3 := Lib.hid (X3.out.keep hb3); clear hb3)
      | (go_at_call 67; refine Calls.mono (HBP.out _ HB3.out) ?_; rintro e w4 ⟨rfl, hb4⟩; have HB4 := Lib.hid (HB3.out.trans (hb4.mono HB3.out.size)); have X3 := Lib.hid (X3.out.keep hb4); clear hb4)
      | ((with_reducible refine stS (CS := ?_) X3.out ?_ ?_ ?_ ?_ ?_ ?_); rotate_left; rfl; rfl; rfl; rfl; simp [Value.oneCell']))
    go_simp
    refine bodyPost_ret (v := .tuple #[.agg #[.int .i64 p.1, .int .i64 p.2], .int .i64 0]) (revS Try.results21 (by rfl) (by rfl) X3.out.row (by rfl)) rfl ?_
    exact ⟨rfl, below_setRow HB4.out (by omega) _⟩
  · rw [if_neg hE]
    generalize hsE r a = E at *
    rw [HE.out] at HR
    clear rg hc hm
    go_enter Try.func21, Try.ntmps21
    go_upto_region 1 with fail
    generalize (((w.alloc (.cells CS 27)).alloc (.cells #[.int .i64 a.w.1, .int .i64 a.w.2, .int .i64 a.t.1, .int .i64 a.t.2, .int .i64 a.h.1, .int .i64 a.h.2, .int .i64 a.v.1, .int .i64 a.v.2] 36)).alloc (.cells #[.int .i64 0, .int .i64 0] 34)) = V1 at *
    go_wp2_with (first
      | ((with_reducible refine ldR X1.out HSZ.out ?_ ?_); rfl)
      | ((with_reducible refine ldA X2.out ?_ ?_ ?_); rfl; rfl)
      | (go_at_call 58; refine Calls.mono (HR.out _ HB.out) ?_; rintro e w1 ⟨rfl, hb1⟩; have X3 := Lib.hid (X3.out.keep hb1); have KM := Lib.hid (BK.newg (w := w1) (g := w1.heap.size) (cs := #[.slice none 0 0, .slice none 0 0, .slice none 0 0, .slice none 0 0, .slice none 0 0, .slice none 0 0, .slice none 0 0, .slice none 0 0, .slice none 0 0, .slice none 0 0, .slice none 0 0, .slice none 0 0, .slice none 0 0, .slice none 0 0, .slice none 0 0, .slice none 0 0, .slice none 0 0, .slice none 0 0, .slice none 0 0, .slice none 0 0, .slice none 0 0, .slice none 0 0, .slice none 0 0, .slice none 0 0, .int .i64 0, .int .i64 0, .int .i64 0, .int .i64 0, .int .i64 0, .int .i64 0, .int .i64 0, .int .i64 0, .int .i64 0, .int .i64 0]) (T := 87) rfl); have HB1 := Lib.hid (HB.out.trans (hb1.mono HB.out.size)); clear hb1)
      | ((with_reducible refine stM KM.out ?_ ?_ ?_ HMZ.out HMO.out ?_); rfl; rfl; rfl; (have KN := Lib.hid (KM.out.row (ds := MS))); (have HB2 := Lib.hid (below_setRow (HB1.out.alloc HB1.out.size (.cells #[.slice none 0 0, .slice none 0 0, .slice none 0 0, .slice none 0 0, .slice none 0 0, .slice none 0 0, .slice none 0 0, .slice none 0 0, .slice none 0 0, .slice none 0 0, .slice none 0 0, .slice none 0 0, .slice none 0 0, .slice none 0 0, .slice none 0 0, .slice none 0 0, .slice none 0 0, .slice none 0 0, .slice none 0 0, .slice none 0 0, .slice none 0 0, .slice none 0 0, .slice none 0 0, .slice none 0 0, .int .i64 0, .int .i64 0, .int .i64 0, .int .i64 0, .int .i64 0, .int .i64 0, .int .i64 0, .int .i64 0, .int .i64 0, .int .i64 0] 87)) (g := w1.heap.size) HB1.out.size MS)); (have hl3 := X3.out.lt); (have X3 := Lib.hid ((X3.out.old (x := .cells #[.slice none 0 0, .slice none 0 0, .slice none 0 0, .slice none 0 0, .slice none 0 0, .slice none 0 0, .slice none 0 0, .slice none 0 0, .slice none 0 0, .slice none 0 0, .slice none 0 0, .slice none 0 0, .slice none 0 0, .slice none 0 0, .slice none 0 0, .slice none 0 0, .slice none 0 0, .slice none 0 0, .slice none 0 0, .slice none 0 0, .slice none 0 0, .slice none 0 0, .slice none 0 0, .slice none 0 0, .int .i64 0, .int .i64 0, .int .i64 0, .int .i64 0, .int .i64 0, .int .i64 0, .int .i64 0, .int .i64 0, .int .i64 0, .int .i64 0] 87)).rowO (g := w1.heap.size) (ds := MS) (by omega))); clear KM; generalize (w1.alloc (.cells #[.slice none 0 0, .slice none 0 0, .slice none 0 0, .slice none 0 0, .slice none 0 0, .slice none 0 0, .slice none 0 0, .slice none 0 0, .slice none 0 0, .slice none 0 0, .slice none 0 0, .slice none 0 0, .slice none 0 0, .slice none 0 0, .slice none 0 0, .slice none 0 0, .slice none 0 0, .slice none 0 0, .slice none 0 0, .slice none 0 0, .slice none 0 0, .slice none 0 0, .slice none 0 0, .slice none 0 0, .int .i64 0, .int .i64 0, .int .i64 0, .int .i64 0, .int .i64 0, .int .i64 0, .int .i64 0, .int .i64 0, .int .i64 0, .int .i64 0] 87)).setRow w1.heap.size MS = V2 at *)
      | ((with_reducible refine stS (CS := ?_) X3.out ?_ ?_ ?_ ?_ ?_ ?_); rotate_left; rfl; rfl; rfl; rfl; simp [Value.oneCell']))
    go_simp
    refine bodyPost_ret (v := .tuple #[.agg #[.int .i64 0, .int .i64 0], .int .i64 E]) (revS Try.results21 (by rfl) (by rfl) X3.out.row (by rfl)) rfl ?_
    exact ⟨rfl, below_setRow HB2.out (by omega) _⟩
end Go.Proofs.Ythhokiigdgpmcaa

/- needs, Needs, Has, Margin of the reference. -/
namespace Go.Proofs.Ythhokiigdgpmcaa
open Go.RowKit

set_option maxRecDepth 100000
set_option maxHeartbeats 4000000 in
theorem rneeds_any (r : RO) (a : AI) (CS : Array Value) (s : Int × Int) (w : World) (rg : RG w r) (hc : CS = #[.slice r.h.ax r.h.X.length r.h.cx, .slice r.h.ay r.h.Y.length r.h.cy, .slice r.h.av r.h.V.length r.h.cv, .slice r.g.ax r.g.X.length r.g.cx, .slice r.g.ay r.g.Y.length r.g.cy, .slice r.g.av r.g.V.length r.g.cv, .slice r.l.ax r.l.X.length r.l.cx, .slice r.l.ay r.l.Y.length r.l.cy, .slice r.l.av r.l.V.length r.l.cv, .slice r.p.ax r.p.X.length r.p.cx, .slice r.p.ay r.p.Y.length r.p.cy, .slice r.p.av r.p.V.length r.p.cv, .slice r.n.ax r.n.X.length r.n.cx, .slice r.n.ay r.n.Y.length r.n.cy, .slice r.n.av r.n.V.length r.n.cv, .slice r.a.ax r.a.X.length r.a.cx, .slice r.a.ay r.a.Y.length r.a.cy, .slice r.a.av r.a.V.length r.a.cv, .slice r.b.ax r.b.X.length r.b.cx, .slice r.b.ay r.b.Y.length r.b.cy, .slice r.b.av r.b.V.length r.b.cv, .slice r.d.ax r.d.X.length r.d.cx, .slice r.d.ay r.d.Y.length r.d.cy, .slice r.d.av r.d.V.length r.d.cv, .int .i64 r.cl, .int .i64 r.bu]) (hv : Hov r a s) :
    Calls Try.prog 64 #[.agg CS, .agg #[.int .i64 a.w.1, .int .i64 a.w.2, .int .i64 a.t.1, .int .i64 a.t.2, .int .i64 a.h.1, .int .i64 a.h.2, .int .i64 a.v.1, .int .i64 a.v.2], .agg #[.int .i64 s.1, .int .i64 s.2]] w fun e w' => e = .returned (.agg #[.int .i64 (ndN r a s).1, .int .i64 (ndN r a s).2]) ∧ Below w.heap.size w w' := by
  have HBH := Lib.hid (fun (W : World) (hW : Below w.heap.size w W) => show Calls Try.prog 68 #[.agg #[.slice r.h.ax r.h.X.length r.h.cx, .slice r.h.ay r.h.Y.length r.h.cy, .slice r.h.av r.h.V.length r.h.cv], .agg #[.int .i64 a.w.1, .int .i64 a.w.2], .agg #[.int .i64 a.t.1, .int .i64 a.t.2]] W fun e w' => e = .returned (.agg #[.int .i64 (loH r a).bn.1, .int .i64 (loH r a).bn.2]) ∧ Below W.heap.size W w' from rbnd_any (loH r a) W (rg.h.below hW) hv.h.cb)
  have HBG := Lib.hid (fun (W : World) (hW : Below w.heap.size w W) => show Calls Try.prog 68 #[.agg #[.slice r.g.ax r.g.X.length r.g.cx, .slice r.g.ay r.g.Y.length r.g.cy, .slice r.g.av r.g.V.length r.g.cv], .agg #[.int .i64 s.1, .int .i64 s.2], .agg #[.int .i64 a.v.1, .int .i64 a.v.2]] W fun e w' => e = .returned (.agg #[.int .i64 (loG r a s).bn.1, .int .i64 (loG r a s).bn.2]) ∧ Below W.heap.size W w' from rbnd_any (loG r a s) W (rg.g.below hW) hv.g.cb)
  have b1 := hv.h.bd (by omega) (by omega)
  have b2 := hv.g.bd (by omega) (by omega)
  have b3 := hv.h.le
  have b4 := hv.g.le
  unfold ndN
  generalize (loH r a).bn.1 = p1 at *
  generalize (loH r a).bn.2 = p2 at *
  generalize (loG r a s).bn.1 = q1 at *
  generalize (loG r a s).bn.2 = q2 at *
  have m1 := mul_mono (a := 0) (b := 0) (c := p1) (d := q1) (by omega) (by omega) (by omega) (by omega)
  have m2 := mul_mono (a := p1) (b := q1) (c := 100000) (d := 100) (by omega) (by omega) (by omega) (by omega)
  have m3 := mul_mono (a := 0) (b := 0) (c := p2) (d := q2) (by omega) (by omega) (by omega) (by omega)
  have m4 := mul_mono (a := p2) (b := q2) (c := 100000) (d := 100) (by omega) (by omega) (by omega) (by omega)
  have HU := Lib.hid (fun (W : World) => rup_any (p2 * q2) 100 W (by omega) (by omega) (by omega) (by omega))
  have hw1 : IntKind.i64.wrap (p1 * q1) = p1 * q1 := IntWalk.i64_in _ (by omega)
  have hw2 : IntKind.i64.wrap (p2 * q2) = p2 * q2 := IntWalk.i64_in _ (by omega)
  have hd1 : (p1 * q1).tdiv 100 = fl (p1 * q1) 100 := down_fl (by omega)
  have hbf : 0 ≤ fl (p1 * q1) 100 ∧ fl (p1 * q1) 100 ≤ 100000 := by unfold fl; omega
  have hw3 : IntKind.i64.wrap (fl (p1 * q1) 100) = fl (p1 * q1) 100 := IntWalk.i64_in _ (by omega)
  clear m1 m2 m3 m4 b1 b2 b3 b4 hbf
  generalize hx1 : p1 * q1 = x1 at *
  generalize hx2 : p2 * q2 = x2 at *
  generalize hf1 : fl x1 100 = f1 at *
  generalize cl x2 100 = f2 at *
  clear hf1
  have HC := Lib.hid hc
  have X1 := Lib.hid ((((BK.newg (w := w) (g := w.heap.size) (cs := CS) (T := 27) rfl).old (x := .cells #[.int .i64 a.w.1, .int .i64 a.w.2, .int .i64 a.t.1, .int .i64 a.t.2, .int .i64 a.h.1, .int .i64 a.h.2, .int .i64 a.v.1, .int .i64 a.v.2] 36)).old (x := .cells #[.int .i64 s.1, .int .i64 s.2] 34)).old (x := .cells #[.int .i64 0, .int .i64 0] 34))
  have X2 := Lib.hid (((BK.newg (w := (w.alloc (.cells CS 27))) (g := w.heap.size + 1) (cs := #[.int .i64 a.w.1, .int .i64 a.w.2, .int .i64 a.t.1, .int .i64 a.t.2, .int .i64 a.h.1, .int .i64 a.h.2, .int .i64 a.v.1, .int .i64 a.v.2]) (T := 36) (by simp)).old (x := .cells #[.int .i64 s.1, .int .i64 s.2] 34)).old (x := .cells #[.int .i64 0, .int .i64 0] 34))
  have X3 := Lib.hid ((BK.newg (w := ((w.alloc (.cells CS 27)).alloc (.cells #[.int .i64 a.w.1, .int .i64 a.w.2, .int .i64 a.t.1, .int .i64 a.t.2, .int .i64 a.h.1, .int .i64 a.h.2, .int .i64 a.v.1, .int .i64 a.v.2] 36))) (g := w.heap.size + 1 + 1) (cs := #[.int .i64 s.1, .int .i64 s.2]) (T := 34) (by simp)).old (x := .cells #[.int .i64 0, .int .i64 0] 34))
  have X4 := Lib.hid (BK.newg (w := (((w.alloc (.cells CS 27)).alloc (.cells #[.int .i64 a.w.1, .int .i64 a.w.2, .int .i64 a.t.1, .int .i64 a.t.2, .int .i64 a.h.1, .int .i64 a.h.2, .int .i64 a.v.1, .int .i64 a.v.2] 36)).alloc (.cells #[.int .i64 s.1, .int .i64 s.2] 34))) (g := w.heap.size + 1 + 1 + 1) (cs := #[.int .i64 0, .int .i64 0]) (T := 34) (by simp))
  have HB := Lib.hid (show Below w.heap.size w ((((w.alloc (.cells CS 27)).alloc (.cells #[.int .i64 a.w.1, .int .i64 a.w.2, .int .i64 a.t.1, .int .i64 a.t.2, .int .i64 a.h.1, .int .i64 a.h.2, .int .i64 a.v.1, .int .i64 a.v.2] 36)).alloc (.cells #[.int .i64 s.1, .int .i64 s.2] 34)).alloc (.cells #[.int .i64 0, .int .i64 0] 34)) by go_grown)
  clear hc hv rg
  go_enter Try.func64, Try.ntmps64
  go_upto_region 1 with fail
  generalize ((((w.alloc (.cells CS 27)).alloc (.cells #[.int .i64 a.w.1, .int .i64 a.w.2, .int .i64 a.t.1, .int .i64 a.t.2, .int .i64 a.h.1, .int .i64 a.h.2, .int .i64 a.v.1, .int .i64 a.v.2] 36)).alloc (.cells #[.int .i64 s.1, .int .i64 s.2] 34)).alloc (.cells #[.int .i64 0, .int .i64 0] 34)) = W1 at *
  have f0 : W1.cell? ⟨w.heap.size, 0, none⟩ = some (.slice r.h.ax r.h.X.length r.h.cx) := (X1.out.cell 0).trans (by rw [HC.out]; rfl)
  have f1 : W1.cell? ⟨w.heap.size, 1, none⟩ = some (.slice r.h.ay r.h.Y.length r.h.cy) := (X1.out.cell 1).trans (by rw [HC.out]; rfl)
  have f2 : W1.cell? ⟨w.heap.size, 2, none⟩ = some (.slice r.h.av r.h.V.length r.h.cv) := (X1.out.cell 2).trans (by rw [HC.out]; rfl)
  have f3 : W1.cell? ⟨w.heap.size, 3, none⟩ = some (.slice r.g.ax r.g.X.length r.g.cx) := (X1.out.cell 3).trans (by rw [HC.out]; rfl)
  have f4 : W1.cell? ⟨w.heap.size, 4, none⟩ = some (.slice r.g.ay r.g.Y.length r.g.cy) := (X1.out.cell 4).trans (by rw [HC.out]; rfl)
  have f5 : W1.cell? ⟨w.heap.size, 5, none⟩ = some (.slice r.g.av r.g.V.length r.g.cv) := (X1.out.cell 5).trans (by rw [HC.out]; rfl)
  have a0 : W1.cell? ⟨w.heap.size + 1, 0, none⟩ = some (.int .i64 a.w.1) := X2.out.cell 0
  have a1 : W1.cell? ⟨w.heap.size + 1, 1, none⟩ = some (.int .i64 a.w.2) := X2.out.cell 1
  have a2 : W1.cell? ⟨w.heap.size + 1, 2, none⟩ = some (.int .i64 a.t.1) := X2.out.cell 2
  have a3 : W1.cell? ⟨w.heap.size + 1, 3, none⟩ = some (.int .i64 a.t.2) := X2.out.cell 3
  have a4 : W1.cell? ⟨w.heap.size + 1, 4, none⟩ = some (.int .i64 a.h.1) := X2.out.cell 4
  have a5 : W1.cell? ⟨w.heap.size + 1, 5, none⟩ = some (.int .i64 a.h.2) := X2.out.cell 5
  have a6 : W1.cell? ⟨w.heap.size + 1, 6, none⟩ = some (.int .i64 a.v.1) := X2.out.cell 6
  have a7 : W1.cell? ⟨w.heap.size + 1, 7, none⟩ = some (.int .i64 a.v.2) := X2.out.cell 7
  have s0 : W1.cell? ⟨w.heap.size + 1 + 1, 0, none⟩ = some (.int .i64 s.1) := X3.out.cell 0
  have s1 : W1.cell? ⟨w.heap.size + 1 + 1, 1, none⟩ = some (.int .i64 s.2) := X3.out.cell 1
  obtain ⟨Qa, hQa⟩ : ∃ q9 : Nat → Value → World → Prop, q9 = QG [some (.pointer (some ⟨w.heap.size, 0, none⟩)), some (.agg #[.slice r.h.ax r.h.X.length r.h.cx, .slice r.h.ay r.h.Y.length r.h.cy, .slice r.h.av r.h.V.length r.h.cv]), some (.pointer (some ⟨w.heap.size + 1, 0, none⟩)), some (.agg #[.int .i64 a.w.1, .int .i64 a.w.2]), some (.pointer (some ⟨w.heap.size + 1, 2, none⟩)), some (.agg #[.int .i64 a.t.1, .int .i64 a.t.2]), some (.agg #[.int .i64 p1, .int .i64 p2]), some (.pointer (some ⟨w.heap.size, 3, none⟩)), some (.agg #[.slice r.g.ax r.g.X.length r.g.cx, .slice r.g.ay r.g.Y.length r.g.cy, .slice r.g.av r.g.V.length r.g.cv]), some (.agg #[.int .i64 s.1, .int .i64 s.2]), some (.pointer (some ⟨w.heap.size + 1, 6, none⟩)), some (.agg #[.int .i64 a.v.1, .int .i64 a.v.2]), some (.agg #[.int .i64 q1, .int .i64 q2]), none, none, none, none] (fun _ _ _ => True) := ⟨_, rfl⟩
  have hSt : Still Qa := by rw [hQa]; exact QG.still
  have HQa := Lib.hid hQa
  clear hQa
  refine wpIn_wide.1 (region_inv2 (n := 9) (by kernel_rfl) (RBB Qa W1 13 14 15 16 #[.int .i64 0, .int .i64 0] #[.int .i64 p1, .int .i64 p2] #[.int .i64 q1, .int .i64 q2] 34) (by kernel_rfl) rfl (RBB.start _ _ _ _ _ _ _ _ _ _ _) ?hstepa ?henda)
  case hstepa =>
    intro i' o ho val L b' x9 hF hR hpre hl
    match i', ho with
    | 0, ho =>
      simp at ho; subst ho; refine step_plain rfl ?_; have e3 := hF.was 3 (by kernel_rfl) rfl; have hgoal := hR.go hSt HQa 0 rfl (by decide) (by decide) (by decide) (by decide); clear hF hpre hl hR; go_simp; exact ⟨_, rfl, hgoal _ rfl⟩
    | 1, ho =>
      simp at ho; subst ho; refine step_plain rfl ?_; have e9 := hF.gvs hR.2.1 HQa 0 (by decide) (by decide) rfl (hpre ⟨0, .data⟩ (by simp) rfl) rfl; have hgoal := hR.go hSt HQa 1 rfl (by decide) (by decide) (by decide) (by decide); have q0 := cell_keep hR.1 f0; have q1 := cell_keep hR.1 f1; have q2 := cell_keep hR.1 f2; clear hF hpre hl hR; go_simp; exact ⟨_, rfl, hgoal _ rfl⟩
    | 2, ho =>
      simp at ho; subst ho; refine step_plain rfl ?_; have e4 := hF.was 4 (by kernel_rfl) rfl; have hgoal := hR.go hSt HQa 2 rfl (by decide) (by decide) (by decide) (by decide); clear hF hpre hl hR; go_simp; exact ⟨_, rfl, hgoal _ rfl⟩
    | 3, ho =>
      simp at ho; subst ho; refine step_plain rfl ?_; have e11 := hF.gvs hR.2.1 HQa 2 (by decide) (by decide) rfl (hpre ⟨2, .data⟩ (by simp) rfl) rfl; have hgoal := hR.go hSt HQa 3 rfl (by decide) (by decide) (by decide) (by decide); have q0 := cell_keep hR.1 a0; have q1 := cell_keep hR.1 a1; clear hF hpre hl hR; go_simp; exact ⟨_, rfl, hgoal _ rfl⟩
    | 4, ho =>
      simp at ho; subst ho; refine step_plain rfl ?_; have e4 := hF.was 4 (by kernel_rfl) rfl; have hgoal := hR.go hSt HQa 4 rfl (by decide) (by decide) (by decide) (by decide); clear hF hpre hl hR; go_simp; exact ⟨_, rfl, hgoal _ rfl⟩
    | 5, ho =>
      simp at ho; subst ho; refine step_plain rfl ?_; have e13 := hF.gvs hR.2.1 HQa 4 (by decide) (by decide) rfl (hpre ⟨4, .data⟩ (by simp) rfl) rfl; have hgoal := hR.go hSt HQa 5 rfl (by decide) (by decide) (by decide) (by decide); have q0 := cell_keep hR.1 a2; have q1 := cell_keep hR.1 a3; clear hF hpre hl hR; go_simp; exact ⟨_, rfl, hgoal _ rfl⟩
    | 6, ho =>
      simp at ho; subst ho; refine step_plain rfl ?_; have e10 := hF.gvs hR.2.1 HQa 1 (by decide) (by decide) rfl (hpre ⟨1, .data⟩ (by simp) rfl) rfl; have e12 := hF.gvs hR.2.1 HQa 3 (by decide) (by decide) rfl (hpre ⟨3, .data⟩ (by simp) rfl) rfl; have e14 := hF.gvs hR.2.1 HQa 5 (by decide) (by decide) rfl (hpre ⟨5, .data⟩ (by simp) rfl) rfl; have hgoal := hR.goB hSt HQa 6 rfl (by decide) (by decide) (by decide) (by decide)
      have hM := Lib.hid hR.1
      clear hF hpre hl hR; go_simp
      refine ⟨trivial, ?_⟩
      refine CallsIn.mono (callsIn_wide.2 (HBH.out _ (HB.out.trans (hM.out.mono HB.out.size)))) ?_
      rintro e w9 ⟨rfl, hb9⟩
      exact ⟨_, rfl, hgoal _ _ hb9 rfl⟩
    | 7, ho =>
      simp at ho; subst ho; refine step_plain rfl ?_; have e3 := hF.was 3 (by kernel_rfl) rfl; have hgoal := hR.go hSt HQa 7 rfl (by decide) (by decide) (by decide) (by decide); clear hF hpre hl hR; go_simp; exact ⟨_, rfl, hgoal _ rfl⟩
    | 8, ho =>
      simp at ho; subst ho; refine step_plain rfl ?_; have e16 := hF.gvs hR.2.1 HQa 7 (by decide) (by decide) rfl (hpre ⟨7, .data⟩ (by simp) rfl) rfl; have hgoal := hR.go hSt HQa 8 rfl (by decide) (by decide) (by decide) (by decide); have q0 := cell_keep hR.1 f3; have q1 := cell_keep hR.1 f4; have q2 := cell_keep hR.1 f5; clear hF hpre hl hR; go_simp; exact ⟨_, rfl, hgoal _ rfl⟩
    | 9, ho =>
      simp at ho; subst ho; refine step_plain rfl ?_; have e5 := hF.was 5 (by kernel_rfl) rfl; have hgoal := hR.go hSt HQa 9 rfl (by decide) (by decide) (by decide) (by decide); have q0 := cell_keep hR.1 s0; have q1 := cell_keep hR.1 s1; clear hF hpre hl hR; go_simp; exact ⟨_, rfl, hgoal _ rfl⟩
    | 10, ho =>
      simp at ho; subst ho; refine step_plain rfl ?_; have e4 := hF.was 4 (by kernel_rfl) rfl; have hgoal := hR.go hSt HQa 10 rfl (by decide) (by decide) (by decide) (by decide); clear hF hpre hl hR; go_simp; exact ⟨_, rfl, hgoal _ rfl⟩
    | 11, ho =>
      simp at ho; subst ho; refine step_plain rfl ?_; have e19 := hF.gvs hR.2.1 HQa 10 (by decide) (by decide) rfl (hpre ⟨10, .data⟩ (by simp) rfl) rfl; have hgoal := hR.go hSt HQa 11 rfl (by decide) (by decide) (by decide) (by decide); have q0 := cell_keep hR.1 a6; have q1 := cell_keep hR.1 a7; clear hF hpre hl hR; go_simp; exact ⟨_, rfl, hgoal _ rfl⟩
    | 12, ho =>
      simp at ho; subst ho; refine step_plain rfl ?_; have e17 := hF.gvs hR.2.1 HQa 8 (by decide) (by decide) rfl (hpre ⟨8, .data⟩ (by simp) rfl) rfl; have e18 := hF.gvs hR.2.1 HQa 9 (by decide) (by decide) rfl (hpre ⟨9, .data⟩ (by simp) rfl) rfl; have e20 := hF.gvs hR.2.1 HQa 11 (by decide) (by decide) rfl (hpre ⟨11, .data⟩ (by simp) rfl) rfl; have hgoal := hR.goB hSt HQa 12 rfl (by decide) (by decide) (by decide) (by decide)
      have hM := Lib.hid hR.1
      clear hF hpre hl hR; go_simp
      refine ⟨trivial, ?_⟩
      refine CallsIn.mono (callsIn_wide.2 (HBG.out _ (HB.out.trans (hM.out.mono HB.out.size)))) ?_
      rintro e w9 ⟨rfl, hb9⟩
      exact ⟨_, rfl, hgoal _ _ hb9 rfl⟩
    | 13, ho =>
      simp at ho; subst ho; refine step_plain rfl ?_; have hN := hF.later hl 15 rfl (e := ⟨13, .data⟩) (by simp) rfl rfl; have hgoal := RBB.made1 hR hSt hN (by decide) (by decide) (by decide); clear hF hpre hl hR hN; go_simp; exact ⟨_, rfl, hgoal⟩
    | 14, ho =>
      simp at ho; subst ho; refine step_plain rfl ?_; have hN := hF.later hl 16 rfl (e := ⟨14, .data⟩) (by simp) rfl rfl; have hgoal := RBB.made2 hR hSt hN (by decide) (by decide) (by decide); clear hF hpre hl hR hN; go_simp; exact ⟨_, rfl, hgoal⟩
    | 15, ho =>
      simp at ho; subst ho; refine step_plain rfl ?_; have e7 := hF.gave 13 rfl (hpre ⟨13, .data⟩ (by simp) rfl) rfl; have e15 := hF.gvs hR.2.1 HQa 6 (by decide) (by decide) rfl (hpre ⟨6, .data⟩ (by simp) rfl) rfl
      have hls : 15 < L.size := by rw [hF.lsize]; decide
      have hN0 : L.getD 15 false = false := by rw [← getD_same hls]; exact hl
      have hal := hpre ⟨13, .data⟩ (by simp) rfl
      obtain ⟨q, qe, qM, qb⟩ := hR.2.2.1 hal
      rw [hN0] at qb
      simp only [Bool.false_eq_true, if_false] at qb
      rw [qe] at e7
      have g0 := cellOf (o := 0) qb rfl; have f0 := freeOf (o := 0) qb; have g1 := cellOf (o := 1) qb rfl; have f1 := freeOf (o := 1) qb; have hgoal := RBB.filled1 (v := undef) hR hSt (QG.none HQa 15 rfl (fun _ _ => trivial) _ _) hal qe qM hls ((hR.1.setCell (p := ⟨q, 0, none⟩) qM (.int .i64 p1)).setCell (p := ⟨q, 1, none⟩) qM (.int .i64 p2)) (fun b9 hb9 => ((Below.heap_setCell _ ⟨q, 1, none⟩ _ b9 hb9).trans (Below.heap_setCell _ ⟨q, 0, none⟩ _ b9 hb9))) ((block_setCell (o := 1) (.int .i64 p2) (block_setCell (o := 0) (.int .i64 p1) qb)).trans (by rfl)) (by decide) (by decide) (by decide)
      have hq := lt_of_block qb
      have HG := Lib.hid hgoal
      clear hF hpre hl hR hls hN0 hal qe qb hgoal; go_simp
      exact ⟨undef, HG.out⟩
    | 16, ho =>
      simp at ho; subst ho; refine step_plain rfl ?_; have e8 := hF.gave 14 rfl (hpre ⟨14, .data⟩ (by simp) rfl) rfl; have e21 := hF.gvs hR.2.1 HQa 12 (by decide) (by decide) rfl (hpre ⟨12, .data⟩ (by simp) rfl) rfl
      have hls : 16 < L.size := by rw [hF.lsize]; decide
      have hN0 : L.getD 16 false = false := by rw [← getD_same hls]; exact hl
      have hal := hpre ⟨14, .data⟩ (by simp) rfl
      obtain ⟨q, qe, qM, qb⟩ := hR.2.2.2.1 hal
      rw [hN0] at qb
      simp only [Bool.false_eq_true, if_false] at qb
      rw [qe] at e8
      have g0 := cellOf (o := 0) qb rfl; have f0 := freeOf (o := 0) qb; have g1 := cellOf (o := 1) qb rfl; have f1 := freeOf (o := 1) qb; have hgoal := RBB.filled2 (v := undef) hR hSt (QG.none HQa 16 rfl (fun _ _ => trivial) _ _) hal qe qM hls ((hR.1.setCell (p := ⟨q, 0, none⟩) qM (.int .i64 q1)).setCell (p := ⟨q, 1, none⟩) qM (.int .i64 q2)) (fun b9 hb9 => ((Below.heap_setCell _ ⟨q, 1, none⟩ _ b9 hb9).trans (Below.heap_setCell _ ⟨q, 0, none⟩ _ b9 hb9))) ((block_setCell (o := 1) (.int .i64 q2) (block_setCell (o := 0) (.int .i64 q1) qb)).trans (by rfl)) (by decide) (by decide) (by decide)
      have hq := lt_of_block qb
      have HG := Lib.hid hgoal
      clear hF hpre hl hR hls hN0 hal qe qb hgoal; go_simp
      exact ⟨undef, HG.out⟩
    | i + 17, ho => simp at ho
  case henda =>
    intro val L b' x9 hF hall hR
    have e := hF.all (by kernel_rfl) hall
    obtain ⟨q1a, p1a, M1a, bk1a⟩ := hR.2.2.1 (hall 13 (by decide))
    rw [hall 15 (by decide)] at bk1a
    simp only [if_true] at bk1a
    obtain ⟨q2a, p2a, M2a, bk2a⟩ := hR.2.2.2.1 (hall 14 (by decide))
    rw [hall 16 (by decide)] at bk2a
    simp only [if_true] at bk2a
    have nea : q1a ≠ q2a := fun e9 => hR.2.2.2.2 (hall 13 (by decide)) (hall 14 (by decide)) (by rw [p1a, p2a, e9])
    have hBa := Lib.hid hR.1
    clear hF hall hR hSt HQa
    subst e
    simp [final, dstOf, List.range, List.range.loop]
    rw [p1a, p2a]
    have y0 : x9.cell? ⟨q1a, 0, none⟩ = some (.int .i64 p1) := cellOf (o := 0) bk1a rfl
    have y1 : x9.cell? ⟨q1a, 1, none⟩ = some (.int .i64 p2) := cellOf (o := 1) bk1a rfl
    have y2 : x9.cell? ⟨q2a, 0, none⟩ = some (.int .i64 q1) := cellOf (o := 0) bk2a rfl
    have y3 : x9.cell? ⟨q2a, 1, none⟩ = some (.int .i64 q2) := cellOf (o := 1) bk2a rfl
    have bz := X4.out.keep hBa.out
    have HB9 := Lib.hid (HB.out.trans (hBa.out.mono HB.out.size))
    unfold BK at bz
    clear bk1a bk2a hBa X1 X2 X3 X4 s0 s1 HB f0 f1 f2 f3 f4 f5 a0 a1 a2 a3 a4 a5 a6 a7
    go_upto_region 2 with fail
    obtain ⟨Qb, hQb⟩ : ∃ q9 : Nat → Value → World → Prop, q9 = QG [some (.pointer (some ⟨q1a, 0, none⟩)), some (.int .i64 p1), some (.pointer (some ⟨q2a, 0, none⟩)), some (.int .i64 q1), some (.int .i64 x1), some (.int .i64 f1), some (.pointer (some ⟨q1a, 1, none⟩)), some (.int .i64 p2), some (.pointer (some ⟨q2a, 1, none⟩)), some (.int .i64 q2), some (.int .i64 x2), some (.int .i64 f2), some (.agg #[.int .i64 f1, .int .i64 f2]), none] (fun _ _ _ => True) := ⟨_, rfl⟩
    have hst : Stays Qb := by rw [hQb]; exact QG.stays (fun _ _ _ _ _ _ => trivial)
    have HQb := Lib.hid hQb
    clear hQb
    obtain ⟨fbX, hfbX⟩ : ∃ f9 : World → World, f9 = (fun y => ((y.setCell ⟨w.heap.size + 1 + 1 + 1, 0, none⟩ (.int .i64 f1)).setCell ⟨w.heap.size + 1 + 1 + 1, 1, none⟩ (.int .i64 f2))) := ⟨_, rfl⟩
    have HfbX := Lib.hid hfbX
    clear hfbX
    refine wpIn_wide.1 (region_inv2 (n := 9) (by kernel_rfl) (RT Qb x9 13 fbX) (by kernel_rfl) rfl (RT.start _ _ _ _ _) ?hstepb ?hendb)
    case hstepb =>
      intro i' o ho val L b' x hF hR hpre hl
      match i', ho with
      | 0, ho =>
        simp at ho; subst ho; refine step_plain rfl ?_; have hN := hF.later hl 13 rfl (e := ⟨0, .phase⟩) (by simp) rfl rfl
        have hR := hR.1 hN
        have e7 := hF.was 7 (by kernel_rfl) rfl; have hgoal := RT.go (f := fbX) hR hst HQb 0 rfl (by decide) hN; clear hF hpre hl hR hN; go_simp; exact ⟨_, rfl, hgoal _ _ (Below.refl _ _) rfl⟩
      | 1, ho =>
        simp at ho; subst ho; refine step_plain rfl ?_; have hN := hF.later hl 13 rfl (e := ⟨1, .phase⟩) (by simp) rfl rfl
        have hR := hR.1 hN
        have e22 := hF.gv hR.2 HQb 0 rfl (hpre ⟨0, .data⟩ (by simp) rfl) rfl; have hgoal := RT.go (f := fbX) hR hst HQb 1 rfl (by decide) hN; have q0 := cell_keep hR.1 y0; clear hF hpre hl hR hN; go_simp; exact ⟨_, rfl, hgoal _ _ (Below.refl _ _) rfl⟩
      | 2, ho =>
        simp at ho; subst ho; refine step_plain rfl ?_; have hN := hF.later hl 13 rfl (e := ⟨2, .phase⟩) (by simp) rfl rfl
        have hR := hR.1 hN
        have e8 := hF.was 8 (by kernel_rfl) rfl; have hgoal := RT.go (f := fbX) hR hst HQb 2 rfl (by decide) hN; clear hF hpre hl hR hN; go_simp; exact ⟨_, rfl, hgoal _ _ (Below.refl _ _) rfl⟩
      | 3, ho =>
        simp at ho; subst ho; refine step_plain rfl ?_; have hN := hF.later hl 13 rfl (e := ⟨3, .phase⟩) (by simp) rfl rfl
        have hR := hR.1 hN
        have e24 := hF.gv hR.2 HQb 2 rfl (hpre ⟨2, .data⟩ (by simp) rfl) rfl; have hgoal := RT.go (f := fbX) hR hst HQb 3 rfl (by decide) hN; have q0 := cell_keep hR.1 y2; clear hF hpre hl hR hN; go_simp; exact ⟨_, rfl, hgoal _ _ (Below.refl _ _) rfl⟩
      | 4, ho =>
        simp at ho; subst ho; refine step_plain rfl ?_; have hN := hF.later hl 13 rfl (e := ⟨4, .phase⟩) (by simp) rfl rfl
        have hR := hR.1 hN
        have e23 := hF.gv hR.2 HQb 1 rfl (hpre ⟨1, .data⟩ (by simp) rfl) rfl; have e25 := hF.gv hR.2 HQb 3 rfl (hpre ⟨3, .data⟩ (by simp) rfl) rfl; have hgoal := RT.go (f := fbX) hR hst HQb 4 rfl (by decide) hN; clear hF hpre hl hR hN; go_simp; exact ⟨_, rfl, hgoal _ _ (Below.refl _ _) rfl⟩
      | 5, ho =>
        simp at ho; subst ho; refine step_plain rfl ?_; have hN := hF.later hl 13 rfl (e := ⟨5, .phase⟩) (by simp) rfl rfl
        have hR := hR.1 hN
        have e26 := hF.gv hR.2 HQb 4 rfl (hpre ⟨4, .data⟩ (by simp) rfl) rfl; have hgoal := RT.go (f := fbX) hR hst HQb 5 rfl (by decide) hN; clear hF hpre hl hR hN; go_simp; exact ⟨_, rfl, hgoal _ _ (Below.refl _ _) rfl⟩
      | 6, ho =>
        simp at ho; subst ho; refine step_plain rfl ?_; have hN := hF.later hl 13 rfl (e := ⟨6, .phase⟩) (by simp) rfl rfl
        have hR := hR.1 hN
        have e7 := hF.was 7 (by kernel_rfl) rfl; have hgoal := RT.go (f := fbX) hR hst HQb 6 rfl (by decide) hN; clear hF hpre hl hR hN; go_simp; exact ⟨_, rfl, hgoal _ _ (Below.refl _ _) rfl⟩
      | 7, ho =>
        simp at ho; subst ho; refine step_plain rfl ?_; have hN := hF.later hl 13 rfl (e := ⟨7, .phase⟩) (by simp) rfl rfl
        have hR := hR.1 hN
        have e28 := hF.gv hR.2 HQb 6 rfl (hpre ⟨6, .data⟩ (by simp) rfl) rfl; have hgoal := RT.go (f := fbX) hR hst HQb 7 rfl (by decide) hN; have q0 := cell_keep hR.1 y1; clear hF hpre hl hR hN; go_simp; exact ⟨_, rfl, hgoal _ _ (Below.refl _ _) rfl⟩
      | 8, ho =>
        simp at ho; subst ho; refine step_plain rfl ?_; have hN := hF.later hl 13 rfl (e := ⟨8, .phase⟩) (by simp) rfl rfl
        have hR := hR.1 hN
        have e8 := hF.was 8 (by kernel_rfl) rfl; have hgoal := RT.go (f := fbX) hR hst HQb 8 rfl (by decide) hN; clear hF hpre hl hR hN; go_simp; exact ⟨_, rfl, hgoal _ _ (Below.refl _ _) rfl⟩
      | 9, ho =>
        simp at ho; subst ho; refine step_plain rfl ?_; have hN := hF.later hl 13 rfl (e := ⟨9, .phase⟩) (by simp) rfl rfl
        have hR := hR.1 hN
        have e30 := hF.gv hR.2 HQb 8 rfl (hpre ⟨8, .data⟩ (by simp) rfl) rfl; have hgoal := RT.go (f := fbX) hR hst HQb 9 rfl (by decide) hN; have q0 := cell_keep hR.1 y3; clear hF hpre hl hR hN; go_simp; exact ⟨_, rfl, hgoal _ _ (Below.refl _ _) rfl⟩
      | 10, ho =>
        simp at ho; subst ho; refine step_plain rfl ?_; have hN := hF.later hl 13 rfl (e := ⟨10, .phase⟩) (by simp) rfl rfl
        have hR := hR.1 hN
        have e29 := hF.gv hR.2 HQb 7 rfl (hpre ⟨7, .data⟩ (by simp) rfl) rfl; have e31 := hF.gv hR.2 HQb 9 rfl (hpre ⟨9, .data⟩ (by simp) rfl) rfl; have hgoal := RT.go (f := fbX) hR hst HQb 10 rfl (by decide) hN; clear hF hpre hl hR hN; go_simp; exact ⟨_, rfl, hgoal _ _ (Below.refl _ _) rfl⟩
      | 11, ho =>
        simp at ho; subst ho; refine step_plain rfl ?_; have hN := hF.later hl 13 rfl (e := ⟨11, .phase⟩) (by simp) rfl rfl
        have hR := hR.1 hN
        have e32 := hF.gv hR.2 HQb 10 rfl (hpre ⟨10, .data⟩ (by simp) rfl) rfl; have hgoal := RT.go (f := fbX) hR hst HQb 11 rfl (by decide) hN
        have hM := Lib.hid hR.1
        clear hF hpre hl hR hN; go_simp
        refine ⟨trivial, ?_⟩
        refine CallsIn.mono (callsIn_wide.2 (HU.out _)) ?_
        rintro e w9 ⟨rfl, rfl⟩
        exact ⟨_, rfl, hgoal _ _ (Below.refl _ _) rfl⟩
      | 12, ho =>
        simp at ho; subst ho; refine step_plain rfl ?_; have hN := hF.later hl 13 rfl (e := ⟨12, .phase⟩) (by simp) rfl rfl
        have hR := hR.1 hN
        have e27 := hF.gv hR.2 HQb 5 rfl (hpre ⟨5, .data⟩ (by simp) rfl) rfl; have e33 := hF.gv hR.2 HQb 11 rfl (hpre ⟨11, .data⟩ (by simp) rfl) rfl; have hgoal := RT.go (f := fbX) hR hst HQb 12 rfl (by decide) hN; clear hF hpre hl hR hN; go_simp; exact ⟨_, rfl, hgoal _ _ (Below.refl _ _) rfl⟩
      | 13, ho =>
        simp at ho; subst ho; refine step_plain rfl ?_; have hN := hF.none2 hl (by decide)
        have hls : 13 < L.size := by rw [hF.lsize]; decide
        have hR := hR.1 hN
        have e6 := hF.was 6 (by kernel_rfl) rfl; have e34 := hF.gv hR.2 HQb 12 rfl (hpre ⟨12, .data⟩ (by simp) rfl) rfl
        have qb := (hR.1.block (w.heap.size + 1 + 1 + 1) (lt_of_block bz)).trans bz
        have g0 := cellOf (o := 0) qb rfl; have f0 := freeOf (o := 0) qb; have g1 := cellOf (o := 1) qb rfl; have f1 := freeOf (o := 1) qb; have hgoal := RT.store (f := fbX) (v := undef) hR hls
        have hq := lt_of_block qb
        have HG := Lib.hid hgoal
        clear hF hpre hl hR hls hN qb hgoal; go_simp
        exact ⟨undef, by have h9 := HG.out; rw [HfbX.out] at h9 ⊢; exact h9⟩
      | i + 14, ho => simp at ho
    case hendb =>
      intro val L b' x hF hall hR
      have e := hF.all (by kernel_rfl) hall
      obtain ⟨yb, hyb, eyb, hqb⟩ := hR.done (hall 13 (by decide))
      rw [HfbX.out] at eyb; dsimp only at eyb
      have bkb := (block_setCell (o := 1) (.int .i64 f2) (block_setCell (o := 0) (.int .i64 f1) ((hyb.block (w.heap.size + 1 + 1 + 1) (lt_of_block bz)).trans bz)))
      rw [← eyb] at bkb
      have hXb := Lib.hid (fun n9 w9 (h9 : Below n9 w9 x9) (hn9 : n9 ≤ w.heap.size + 1 + 1 + 1) => show Below n9 w9 x by rw [eyb]; exact (((h9.trans (hyb.mono (by have := lt_of_block bz; omega))).setCell (p := ⟨w.heap.size + 1 + 1 + 1, 0, none⟩) hn9 (.int .i64 f1)).setCell (p := ⟨w.heap.size + 1 + 1 + 1, 1, none⟩) hn9 (.int .i64 f2)))
      clear hF hall hR hst HfbX hqb hyb eyb HQb 
      subst e
      simp [final, dstOf, List.range, List.range.loop]
      have z0 := cellOf (o := 0) bkb rfl
      have z1 := cellOf (o := 1) bkb rfl
      have HB4 := Lib.hid (hXb.out _ _ HB9.out (by omega))
      clear bkb hXb
      go_wp2
      exact bodyPost_ret (v := .agg #[.int .i64 f1, .int .i64 f2]) (by simp [results, Try.results64, go_sem, z0, z1]) rfl ⟨rfl, HB4.out⟩
set_option maxHeartbeats 8000000 in
theorem rneeds_call (r : RO) (a : AI) (CS : Array Value) (s : Int × Int) (w : World) (rg : RG w r) (hc : CS = #[.slice r.h.ax r.h.X.length r.h.cx, .slice r.h.ay r.h.Y.length r.h.cy, .slice r.h.av r.h.V.length r.h.cv, .slice r.g.ax r.g.X.length r.g.cx, .slice r.g.ay r.g.Y.length r.g.cy, .slice r.g.av r.g.V.length r.g.cv, .slice r.l.ax r.l.X.length r.l.cx, .slice r.l.ay r.l.Y.length r.l.cy, .slice r.l.av r.l.V.length r.l.cv, .slice r.p.ax r.p.X.length r.p.cx, .slice r.p.ay r.p.Y.length r.p.cy, .slice r.p.av r.p.V.length r.p.cv, .slice r.n.ax r.n.X.length r.n.cx, .slice r.n.ay r.n.Y.length r.n.cy, .slice r.n.av r.n.V.length r.n.cv, .slice r.a.ax r.a.X.length r.a.cx, .slice r.a.ay r.a.Y.length r.a.cy, .slice r.a.av r.a.V.length r.a.cv, .slice r.b.ax r.b.X.length r.b.cx, .slice r.b.ay r.b.Y.length r.b.cy, .slice r.b.av r.b.V.length r.b.cv, .slice r.d.ax r.d.X.length r.d.cx, .slice r.d.ay r.d.Y.length r.d.cy, .slice r.d.av r.d.V.length r.d.cv, .int .i64 r.cl, .int .i64 r.bu]) :
    Calls Try.prog 20 #[.agg CS, .agg #[.int .i64 a.w.1, .int .i64 a.w.2, .int .i64 a.t.1, .int .i64 a.t.2, .int .i64 a.h.1, .int .i64 a.h.2, .int .i64 a.v.1, .int .i64 a.v.2], .agg #[.int .i64 s.1, .int .i64 s.2]] w fun e w' => e = .returned (.tuple #[.agg #[.int .i64 (ndS r a s).1.1, .int .i64 (ndS r a s).1.2], .int .i64 (ndS r a s).2]) ∧ Below w.heap.size w w' := by
  have HCA := Lib.hid (fun (W : World) (hW : Below w.heap.size w W) => checkAir_any r a CS W (rg.below hW) hc)
  have HSZ := Lib.hid (show CS.size = 26 by rw [hc]; rfl)
  have HC := Lib.hid hc
  have X1 := Lib.hid ((((BK.newg (w := w) (g := w.heap.size) (cs := CS) (T := 27) rfl).old (x := .cells #[.int .i64 a.w.1, .int .i64 a.w.2, .int .i64 a.t.1, .int .i64 a.t.2, .int .i64 a.h.1, .int .i64 a.h.2, .int .i64 a.v.1, .int .i64 a.v.2] 36)).old (x := .cells #[.int .i64 s.1, .int .i64 s.2] 34)).old (x := .cells #[.int .i64 0, .int .i64 0] 34))
  have X2 := Lib.hid (((BK.newg (w := (w.alloc (.cells CS 27))) (g := w.heap.size + 1) (cs := #[.int .i64 a.w.1, .int .i64 a.w.2, .int .i64 a.t.1, .int .i64 a.t.2, .int .i64 a.h.1, .int .i64 a.h.2, .int .i64 a.v.1, .int .i64 a.v.2]) (T := 36) (by simp)).old (x := .cells #[.int .i64 s.1, .int .i64 s.2] 34)).old (x := .cells #[.int .i64 0, .int .i64 0] 34))
  have X3 := Lib.hid ((BK.newg (w := ((w.alloc (.cells CS 27)).alloc (.cells #[.int .i64 a.w.1, .int .i64 a.w.2, .int .i64 a.t.1, .int .i64 a.t.2, .int .i64 a.h.1, .int .i64 a.h.2, .int .i64 a.v.1, .int .i64 a.v.2] 36))) (g := w.heap.size + 1 + 1) (cs := #[.int .i64 s.1, .int .i64 s.2]) (T := 34) (by simp)).old (x := .cells #[.int .i64 0, .int .i64 0] 34))
  have X4 := Lib.hid (BK.newg (w := (((w.alloc (.cells CS 27)).alloc (.cells #[.int .i64 a.w.1, .int .i64 a.w.2, .int .i64 a.t.1, .int .i64 a.t.2, .int .i64 a.h.1, .int .i64 a.h.2, .int .i64 a.v.1, .int .i64 a.v.2] 36)).alloc (.cells #[.int .i64 s.1, .int .i64 s.2] 34))) (g := w.heap.size + 1 + 1 + 1) (cs := #[.int .i64 0, .int .i64 0]) (T := 34) (by simp))
  have HB := Lib.hid (show Below w.heap.size w ((((w.alloc (.cells CS 27)).alloc (.cells #[.int .i64 a.w.1, .int .i64 a.w.2, .int .i64 a.t.1, .int .i64 a.t.2, .int .i64 a.h.1, .int .i64 a.h.2, .int .i64 a.v.1, .int .i64 a.v.2] 36)).alloc (.cells #[.int .i64 s.1, .int .i64 s.2] 34)).alloc (.cells #[.int .i64 0, .int .i64 0] 34)) by go_grown)
  have hE := ndE_ref r a s
  by_cases h0 : airE r a = 0
  · obtain ⟨ho, ha⟩ := airE_ok h0
    have hct1 := filB_ct (ok_of ho).h
    have hct2 := filB_ct (ok_of ho).g
    have HL1 := Lib.hid (fun (W : World) (hW : Below w.heap.size w W) => rlies_any r.h a.w a.t W (rg.h.below hW) hct1)
    have HL2 := Lib.hid (fun (W : World) (hW : Below w.heap.size w W) => rlies_any r.g s a.v W (rg.g.below hW) hct2)
    rw [h0] at HCA
    rw [if_pos h0] at hE
    cases hl1 : lsB r.h a.w a.t with
    | false =>
      rw [hl1] at HL1 hE
      rw [show ndS r a s = ((0, 0), 1) by unfold ndS; rw [hE]; rfl]
      clear rg hc h0 ho ha hct1 hct2 hE hl1 HL2
      go_enter Try.func20, Try.ntmps20
      go_upto_region 1 with fail
      generalize ((((w.alloc (.cells CS 27)).alloc (.cells #[.int .i64 a.w.1, .int .i64 a.w.2, .int .i64 a.t.1, .int .i64 a.t.2, .int .i64 a.h.1, .int .i64 a.h.2, .int .i64 a.v.1, .int .i64 a.v.2] 36)).alloc (.cells #[.int .i64 s.1, .int .i64 s.2] 34)).alloc (.cells #[.int .i64 0, .int .i64 0] 34)) = V1 at *
      go_wp2_with (first
      | ((with_reducible refine ldR X1.out HSZ.out ?_ ?_); rfl)
      | ((with_reducible refine ldA X2.out ?_ ?_ ?_); rfl; rfl)
      | (go_at_call 42; refine Calls.mono (HCA.out _ HB.out) ?_; rintro e w1 ⟨rfl, hb1⟩; have HB1 := Lib.hid (HB.out.trans (hb1.mono HB.out.size)); have X4 := Lib.hid (X4.out.keep hb1); have K1 := X1.out.keep hb1; have K2 := X2.out.keep hb1; have K3 := X3.out.keep hb1; have fg0 : w1.cell? ⟨w.heap.size, 0, none⟩ = some (.slice r.h.ax r.h.X.length r.h.cx) := (K1.cell 0).trans (by rw [HC.out]; rfl); have fg1 : w1.cell? ⟨w.heap.size, 1, none⟩ = some (.slice r.h.ay r.h.Y.length r.h.cy) := (K1.cell 1).trans (by rw [HC.out]; rfl); have fg2 : w1.cell? ⟨w.heap.size, 2, none⟩ = some (.slice r.h.av r.h.V.length r.h.cv) := (K1.cell 2).trans (by rw [HC.out]; rfl); have fh0 : w1.cell? ⟨w.heap.size, 3, none⟩ = some (.slice r.g.ax r.g.X.length r.g.cx) := (K1.cell 3).trans (by rw [HC.out]; rfl); have fh1 : w1.cell? ⟨w.heap.size, 4, none⟩ = some (.slice r.g.ay r.g.Y.length r.g.cy) := (K1.cell 4).trans (by rw [HC.out]; rfl); have fh2 : w1.cell? ⟨w.heap.size, 5, none⟩ = some (.slice r.g.av r.g.V.length r.g.cv) := (K1.cell 5).trans (by rw [HC.out]; rfl); have c2 := K2.cell; have c3 := K3.cell; have l3 := K3.lt; clear hb1)
      | (go_at_call_of 63 (Value.agg #[.slice r.h.ax r.h.X.length r.h.cx, .slice r.h.ay r.h.Y.length r.h.cy, .slice r.h.av r.h.V.length r.h.cv]); refine Calls.mono (HL1.out _ HB1.out) ?_; rintro e w2 ⟨rfl, hb2⟩; have HB2 := Lib.hid (HB1.out.trans (hb2.mono HB1.out.size)); have X4 := Lib.hid (X4.out.keep hb2); clear fg0 fg1 fg2 fh0 fh1 fh2 c2 c3 l3; clear hb2)
      | ((with_reducible refine stS (CS := ?_) X4.out ?_ ?_ ?_ ?_ ?_ ?_); rotate_left; rfl; rfl; rfl; rfl; simp [Value.oneCell']))
      go_simp
      refine bodyPost_ret (v := .tuple #[.agg #[.int .i64 0, .int .i64 0], .int .i64 1]) (revS Try.results20 (by rfl) (by rfl) X4.out.row (by rfl)) rfl ?_
      exact ⟨rfl, below_setRow HB2.out (by omega) _⟩
    | true =>
      rw [hl1] at HL1 hE
      cases hl2 : lsB r.g s a.v with
      | false =>
        rw [hl2] at HL2 hE
        rw [show ndS r a s = ((0, 0), 1) by unfold ndS; rw [hE]; rfl]
        clear rg hc h0 ho ha hct1 hct2 hE hl1 hl2
        go_enter Try.func20, Try.ntmps20
        go_upto_region 1 with fail
        generalize ((((w.alloc (.cells CS 27)).alloc (.cells #[.int .i64 a.w.1, .int .i64 a.w.2, .int .i64 a.t.1, .int .i64 a.t.2, .int .i64 a.h.1, .int .i64 a.h.2, .int .i64 a.v.1, .int .i64 a.v.2] 36)).alloc (.cells #[.int .i64 s.1, .int .i64 s.2] 34)).alloc (.cells #[.int .i64 0, .int .i64 0] 34)) = V1 at *
        go_wp2_with (first
      | ((with_reducible refine ldR X1.out HSZ.out ?_ ?_); rfl)
      | ((with_reducible refine ldA X2.out ?_ ?_ ?_); rfl; rfl)
      | (go_at_call 42; refine Calls.mono (HCA.out _ HB.out) ?_; rintro e w1 ⟨rfl, hb1⟩; have HB1 := Lib.hid (HB.out.trans (hb1.mono HB.out.size)); have X4 := Lib.hid (X4.out.keep hb1); have K1 := X1.out.keep hb1; have K2 := X2.out.keep hb1; have K3 := X3.out.keep hb1; have fg0 : w1.cell? ⟨w.heap.size, 0, none⟩ = some (.slice r.h.ax r.h.X.length r.h.cx) := (K1.cell 0).trans (by rw [HC.out]; rfl); have fg1 : w1.cell? ⟨w.heap.size, 1, none⟩ = some (.slice r.h.ay r.h.Y.length r.h.cy) := (K1.cell 1).trans (by rw [HC.out]; rfl); have fg2 : w1.cell? ⟨w.heap.size, 2, none⟩ = some (.slice r.h.av r.h.V.length r.h.cv) := (K1.cell 2).trans (by rw [HC.out]; rfl); have fh0 : w1.cell? ⟨w.heap.size, 3, none⟩ = some (.slice r.g.ax r.g.X.length r.g.cx) := (K1.cell 3).trans (by rw [HC.out]; rfl); have fh1 : w1.cell? ⟨w.heap.size, 4, none⟩ = some (.slice r.g.ay r.g.Y.length r.g.cy) := (K1.cell 4).trans (by rw [HC.out]; rfl); have fh2 : w1.cell? ⟨w.heap.size, 5, none⟩ = some (.slice r.g.av r.g.V.length r.g.cv) := (K1.cell 5).trans (by rw [HC.out]; rfl); have c2 := K2.cell; have c3 := K3.cell; have l3 := K3.lt; clear hb1)
      | (go_at_call_of 63 (Value.agg #[.slice r.h.ax r.h.X.length r.h.cx, .slice r.h.ay r.h.Y.length r.h.cy, .slice r.h.av r.h.V.length r.h.cv]); refine Calls.mono (HL1.out _ HB1.out) ?_; rintro e w2 ⟨rfl, hb2⟩; have HB2 := Lib.hid (HB1.out.trans (hb2.mono HB1.out.size)); have X4 := Lib.hid (X4.out.keep hb2); clear fg0 fg1 fg2 fh0 fh1 fh2 c2 c3 l3; have K1 := K1.keep hb2; have K2 := K2.keep hb2; have K3 := K3.keep hb2; have fg0 : w2.cell? ⟨w.heap.size, 0, none⟩ = some (.slice r.h.ax r.h.X.length r.h.cx) := (K1.cell 0).trans (by rw [HC.out]; rfl); have fg1 : w2.cell? ⟨w.heap.size, 1, none⟩ = some (.slice r.h.ay r.h.Y.length r.h.cy) := (K1.cell 1).trans (by rw [HC.out]; rfl); have fg2 : w2.cell? ⟨w.heap.size, 2, none⟩ = some (.slice r.h.av r.h.V.length r.h.cv) := (K1.cell 2).trans (by rw [HC.out]; rfl); have fh0 : w2.cell? ⟨w.heap.size, 3, none⟩ = some (.slice r.g.ax r.g.X.length r.g.cx) := (K1.cell 3).trans (by rw [HC.out]; rfl); have fh1 : w2.cell? ⟨w.heap.size, 4, none⟩ = some (.slice r.g.ay r.g.Y.length r.g.cy) := (K1.cell 4).trans (by rw [HC.out]; rfl); have fh2 : w2.cell? ⟨w.heap.size, 5, none⟩ = some (.slice r.g.av r.g.V.length r.g.cv) := (K1.cell 5).trans (by rw [HC.out]; rfl); have c2 := K2.cell; have c3 := K3.cell; have l3 := K3.lt; clear hb2)
      | (go_at_call_of 63 (Value.agg #[.slice r.g.ax r.g.X.length r.g.cx, .slice r.g.ay r.g.Y.length r.g.cy, .slice r.g.av r.g.V.length r.g.cv]); refine Calls.mono (HL2.out _ HB2.out) ?_; rintro e w3 ⟨rfl, hb3⟩; have HB3 := Lib.hid (HB2.out.trans (hb3.mono HB2.out.size)); have X4 := Lib.hid (X4.out.keep hb3); clear fg0 fg1 fg2 fh0 fh1 fh2 c2 c3 l3; clear hb3)
      | ((with_reducible refine stS (CS := ?_) X4.out ?_ ?_ ?_ ?_ ?_ ?_); rotate_left; rfl; rfl; rfl; rfl; simp [Value.oneCell']))
        go_simp
        refine bodyPost_ret (v := .tuple #[.agg #[.int .i64 0, .int .i64 0], .int .i64 1]) (revS Try.results20 (by rfl) (by rfl) X4.out.row (by rfl)) rfl ?_
        exact ⟨rfl, below_setRow HB3.out (by omega) _⟩
      | true =>
        rw [hl2] at HL2 hE
        have hE0 : ndE r a s = 0 := hE
        have hv := hov_of hE0
        have HNN := Lib.hid (fun (W : World) (hW : Below w.heap.size w W) => rneeds_any r a CS s W (rg.below hW) hc hv)
        rw [show ndS r a s = (ndN r a s, 0) by unfold ndS; rw [if_pos hE0]]
        generalize ndN r a s = p at *
        clear rg hc h0 ho ha hct1 hct2 hE hl1 hl2 hE0 hv
        go_enter Try.func20, Try.ntmps20
        go_upto_region 1 with fail
        generalize ((((w.alloc (.cells CS 27)).alloc (.cells #[.int .i64 a.w.1, .int .i64 a.w.2, .int .i64 a.t.1, .int .i64 a.t.2, .int .i64 a.h.1, .int .i64 a.h.2, .int .i64 a.v.1, .int .i64 a.v.2] 36)).alloc (.cells #[.int .i64 s.1, .int .i64 s.2] 34)).alloc (.cells #[.int .i64 0, .int .i64 0] 34)) = V1 at *
        go_wp2_with (first
      | ((with_reducible refine ldR X1.out HSZ.out ?_ ?_); rfl)
      | ((with_reducible refine ldA X2.out ?_ ?_ ?_); rfl; rfl)
      | (go_at_call 42; refine Calls.mono (HCA.out _ HB.out) ?_; rintro e w1 ⟨rfl, hb1⟩; have HB1 := Lib.hid (HB.out.trans (hb1.mono HB.out.size)); have X4 := Lib.hid (X4.out.keep hb1); have K1 := X1.out.keep hb1; have K2 := X2.out.keep hb1; have K3 := X3.out.keep hb1; have fg0 : w1.cell? ⟨w.heap.size, 0, none⟩ = some (.slice r.h.ax r.h.X.length r.h.cx) := (K1.cell 0).trans (by rw [HC.out]; rfl); have fg1 : w1.cell? ⟨w.heap.size, 1, none⟩ = some (.slice r.h.ay r.h.Y.length r.h.cy) := (K1.cell 1).trans (by rw [HC.out]; rfl); have fg2 : w1.cell? ⟨w.heap.size, 2, none⟩ = some (.slice r.h.av r.h.V.length r.h.cv) := (K1.cell 2).trans (by rw [HC.out]; rfl); have fh0 : w1.cell? ⟨w.heap.size, 3, none⟩ = some (.slice r.g.ax r.g.X.length r.g.cx) := (K1.cell 3).trans (by rw [HC.out]; rfl); have fh1 : w1.cell? ⟨w.heap.size, 4, none⟩ = some (.slice r.g.ay r.g.Y.length r.g.cy) := (K1.cell 4).trans (by rw [HC.out]; rfl); have fh2 : w1.cell? ⟨w.heap.size, 5, none⟩ = some (.slice r.g.av r.g.V.length r.g.cv) := (K1.cell 5).trans (by rw [HC.out]; rfl); have c2 := K2.cell; have c3 := K3.cell; have l3 := K3.lt; clear hb1)
      | (go_at_call_of 63 (Value.agg #[.slice r.h.ax r.h.X.length r.h.cx, .slice r.h.ay r.h.Y.length r.h.cy, .slice r.h.av r.h.V.length r.h.cv]); refine Calls.mono (HL1.out _ HB1.out) ?_; rintro e w2 ⟨rfl, hb2⟩; have HB2 := Lib.hid (HB1.out.trans (hb2.mono HB1.out.size)); have X4 := Lib.hid (X4.out.keep hb2); clear fg0 fg1 fg2 fh0 fh1 fh2 c2 c3 l3; have K1 := K1.keep hb2; have K2 := K2.keep hb2; have K3 := K3.keep hb2; have fg0 : w2.cell? ⟨w.heap.size, 0, none⟩ = some (.slice r.h.ax r.h.X.length r.h.cx) := (K1.cell 0).trans (by rw [HC.out]; rfl); have fg1 : w2.cell? ⟨w.heap.size, 1, none⟩ = some (.slice r.h.ay r.h.Y.length r.h.cy) := (K1.cell 1).trans (by rw [HC.out]; rfl); have fg2 : w2.cell? ⟨w.heap.size, 2, none⟩ = some (.slice r.h.av r.h.V.length r.h.cv) := (K1.cell 2).trans (by rw [HC.out]; rfl); have fh0 : w2.cell? ⟨w.heap.size, 3, none⟩ = some (.slice r.g.ax r.g.X.length r.g.cx) := (K1.cell 3).trans (by rw [HC.out]; rfl); have fh1 : w2.cell? ⟨w.heap.size, 4, none⟩ = some (.slice r.g.ay r.g.Y.length r.g.cy) := (K1.cell 4).trans (by rw [HC.out]; rfl); have fh2 : w2.cell? ⟨w.heap.size, 5, none⟩ = some (.slice r.g.av r.g.V.length r.g.cv) := (K1.cell 5).trans (by rw [HC.out]; rfl); have c2 := K2.cell; have c3 := K3.cell; have l3 := K3.lt; clear hb2)
      | (go_at_call_of 63 (Value.agg #[.slice r.g.ax r.g.X.length r.g.cx, .slice r.g.ay r.g.Y.length r.g.cy, .slice r.g.av r.g.V.length r.g.cv]); refine Calls.mono (HL2.out _ HB2.out) ?_; rintro e w3 ⟨rfl, hb3⟩; have HB3 := Lib.hid (HB2.out.trans (hb3.mono HB2.out.size)); have X4 := Lib.hid (X4.out.keep hb3); clear fg0 fg1 fg2 fh0 fh1 fh2 c2 c3 l3; have K1 := K1.keep hb3; have K2 := K2.keep hb3; have K3 := K3.keep hb3; have HKR := Lib.hid K1; have fg0 : w3.cell? ⟨w.heap.size, 0, none⟩ = some (.slice r.h.ax r.h.X.length r.h.cx) := (K1.cell 0).trans (by rw [HC.out]; rfl); have fg1 : w3.cell? ⟨w.heap.size, 1, none⟩ = some (.slice r.h.ay r.h.Y.length r.h.cy) := (K1.cell 1).trans (by rw [HC.out]; rfl); have fg2 : w3.cell? ⟨w.heap.size, 2, none⟩ = some (.slice r.h.av r.h.V.length r.h.cv) := (K1.cell 2).trans (by rw [HC.out]; rfl); have fh0 : w3.cell? ⟨w.heap.size, 3, none⟩ = some (.slice r.g.ax r.g.X.length r.g.cx) := (K1.cell 3).trans (by rw [HC.out]; rfl); have fh1 : w3.cell? ⟨w.heap.size, 4, none⟩ = some (.slice r.g.ay r.g.Y.length r.g.cy) := (K1.cell 4).trans (by rw [HC.out]; rfl); have fh2 : w3.cell? ⟨w.heap.size, 5, none⟩ = some (.slice r.g.av r.g.V.length r.g.cv) := (K1.cell 5).trans (by rw [HC.out]; rfl); have c2 := K2.cell; have c3 := K3.cell; have l3 := K3.lt; clear hb3)
      | ((with_reducible refine ldR HKR.out HSZ.out ?_ ?_); rfl)
      | (go_at_call 64; refine Calls.mono (HNN.out _ HB3.out) ?_; rintro e w4 ⟨rfl, hb4⟩; have HB4 := Lib.hid (HB3.out.trans (hb4.mono HB3.out.size)); have X4 := Lib.hid (X4.out.keep hb4); clear hb4 fg0 fg1 fg2 fh0 fh1 fh2 c2 c3 l3)
      | ((with_reducible refine stS (CS := ?_) X4.out ?_ ?_ ?_ ?_ ?_ ?_); rotate_left; rfl; rfl; rfl; rfl; simp [Value.oneCell']))
        go_simp
        refine bodyPost_ret (v := .tuple #[.agg #[.int .i64 p.1, .int .i64 p.2], .int .i64 0]) (revS Try.results20 (by rfl) (by rfl) X4.out.row (by rfl)) rfl ?_
        exact ⟨rfl, below_setRow HB4.out (by omega) _⟩
  · rw [if_neg h0] at hE
    rw [show ndS r a s = ((0, 0), airE r a) by unfold ndS; rw [hE, if_neg h0]]
    clear hE
    generalize airE r a = E at *
    clear rg hc
    go_enter Try.func20, Try.ntmps20
    go_upto_region 1 with fail
    generalize ((((w.alloc (.cells CS 27)).alloc (.cells #[.int .i64 a.w.1, .int .i64 a.w.2, .int .i64 a.t.1, .int .i64 a.t.2, .int .i64 a.h.1, .int .i64 a.h.2, .int .i64 a.v.1, .int .i64 a.v.2] 36)).alloc (.cells #[.int .i64 s.1, .int .i64 s.2] 34)).alloc (.cells #[.int .i64 0, .int .i64 0] 34)) = V1 at *
    go_wp2_with (first
      | ((with_reducible refine ldR X1.out HSZ.out ?_ ?_); rfl)
      | ((with_reducible refine ldA X2.out ?_ ?_ ?_); rfl; rfl)
      | (go_at_call 42; refine Calls.mono (HCA.out _ HB.out) ?_; rintro e w1 ⟨rfl, hb1⟩; have HB1 := Lib.hid (HB.out.trans (hb1.mono HB.out.size)); have X4 := Lib.hid (X4.out.keep hb1); clear hb1)
      | ((with_reducible refine stS (CS := ?_) X4.out ?_ ?_ ?_ ?_ ?_ ?_); rotate_left; rfl; rfl; rfl; rfl; simp [Value.oneCell']))
    go_simp
    refine bodyPost_ret (v := .tuple #[.agg #[.int .i64 0, .int .i64 0], .int .i64 E]) (revS Try.results20 (by rfl) (by rfl) X4.out.row (by rfl)) rfl ?_
    exact ⟨rfl, below_setRow HB1.out (by omega) _⟩
set_option maxHeartbeats 8000000 in
theorem rhas_call (r : RO) (a : AI) (CS : Array Value) (w : World) (rg : RG w r) (hc : CS = #[.slice r.h.ax r.h.X.length r.h.cx, .slice r.h.ay r.h.Y.length r.h.cy, .slice r.h.av r.h.V.length r.h.cv, .slice r.g.ax r.g.X.length r.g.cx, .slice r.g.ay r.g.Y.length r.g.cy, .slice r.g.av r.g.V.length r.g.cv, .slice r.l.ax r.l.X.length r.l.cx, .slice r.l.ay r.l.Y.length r.l.cy, .slice r.l.av r.l.V.length r.l.cv, .slice r.p.ax r.p.X.length r.p.cx, .slice r.p.ay r.p.Y.length r.p.cy, .slice r.p.av r.p.V.length r.p.cv, .slice r.n.ax r.n.X.length r.n.cx, .slice r.n.ay r.n.Y.length r.n.cy, .slice r.n.av r.n.V.length r.n.cv, .slice r.a.ax r.a.X.length r.a.cx, .slice r.a.ay r.a.Y.length r.a.cy, .slice r.a.av r.a.V.length r.a.cv, .slice r.b.ax r.b.X.length r.b.cx, .slice r.b.ay r.b.Y.length r.b.cy, .slice r.b.av r.b.V.length r.b.cv, .slice r.d.ax r.d.X.length r.d.cx, .slice r.d.ay r.d.Y.length r.d.cy, .slice r.d.av r.d.V.length r.d.cv, .int .i64 r.cl, .int .i64 r.bu]) :
    Calls Try.prog 22 #[.agg CS, .agg #[.int .i64 a.w.1, .int .i64 a.w.2, .int .i64 a.t.1, .int .i64 a.t.2, .int .i64 a.h.1, .int .i64 a.h.2, .int .i64 a.v.1, .int .i64 a.v.2]] w fun e w' => e = .returned (.tuple #[.agg #[.int .i64 (hsS r a).1.1, .int .i64 (hsS r a).1.2], .int .i64 (hsS r a).2]) ∧ Below w.heap.size w w' := by
  have HCA := Lib.hid (fun (W : World) (hW : Below w.heap.size w W) => checkAir_any r a CS W (rg.below hW) hc)
  have HSZ := Lib.hid (show CS.size = 26 by rw [hc]; rfl)
  have HC := Lib.hid hc
  have X1 := Lib.hid (((BK.newg (w := w) (g := w.heap.size) (cs := CS) (T := 27) rfl).old (x := .cells #[.int .i64 a.w.1, .int .i64 a.w.2, .int .i64 a.t.1, .int .i64 a.t.2, .int .i64 a.h.1, .int .i64 a.h.2, .int .i64 a.v.1, .int .i64 a.v.2] 36)).old (x := .cells #[.int .i64 0, .int .i64 0] 34))
  have X2 := Lib.hid ((BK.newg (w := (w.alloc (.cells CS 27))) (g := w.heap.size + 1) (cs := #[.int .i64 a.w.1, .int .i64 a.w.2, .int .i64 a.t.1, .int .i64 a.t.2, .int .i64 a.h.1, .int .i64 a.h.2, .int .i64 a.v.1, .int .i64 a.v.2]) (T := 36) (by simp)).old (x := .cells #[.int .i64 0, .int .i64 0] 34))
  have X3 := Lib.hid (BK.newg (w := ((w.alloc (.cells CS 27)).alloc (.cells #[.int .i64 a.w.1, .int .i64 a.w.2, .int .i64 a.t.1, .int .i64 a.t.2, .int .i64 a.h.1, .int .i64 a.h.2, .int .i64 a.v.1, .int .i64 a.v.2] 36))) (g := w.heap.size + 1 + 1) (cs := #[.int .i64 0, .int .i64 0]) (T := 34) (by simp))
  have HB := Lib.hid (show Below w.heap.size w (((w.alloc (.cells CS 27)).alloc (.cells #[.int .i64 a.w.1, .int .i64 a.w.2, .int .i64 a.t.1, .int .i64 a.t.2, .int .i64 a.h.1, .int .i64 a.h.2, .int .i64 a.v.1, .int .i64 a.v.2] 36)).alloc (.cells #[.int .i64 0, .int .i64 0] 34)) by go_grown)
  have hE := hsE_ref r a
  by_cases h0 : airE r a = 0
  · obtain ⟨ho, ha⟩ := airE_ok h0
    have hct1 := filB_ct (ok_of ho).p
    have HL1 := Lib.hid (fun (W : World) (hW : Below w.heap.size w W) => rlies_any r.p a.t a.h W (rg.p.below hW) hct1)
    rw [h0] at HCA
    rw [if_pos h0] at hE
    cases hl1 : lsB r.p a.t a.h with
    | false =>
      rw [hl1] at HL1 hE
      rw [show hsS r a = ((0, 0), 1) by unfold hsS; rw [hE]; rfl]
      clear rg hc h0 ho ha hct1 hE hl1
      go_enter Try.func22, Try.ntmps22
      go_upto_region 1 with fail
      generalize (((w.alloc (.cells CS 27)).alloc (.cells #[.int .i64 a.w.1, .int .i64 a.w.2, .int .i64 a.t.1, .int .i64 a.t.2, .int .i64 a.h.1, .int .i64 a.h.2, .int .i64 a.v.1, .int .i64 a.v.2] 36)).alloc (.cells #[.int .i64 0, .int .i64 0] 34)) = V1 at *
      go_wp2_with (first
      | ((with_reducible refine ldR X1.out HSZ.out ?_ ?_); rfl)
      | ((with_reducible refine ldA X2.out ?_ ?_ ?_); rfl; rfl)
      | (go_at_call 42; refine Calls.mono (HCA.out _ HB.out) ?_; rintro e w1 ⟨rfl, hb1⟩; have HB1 := Lib.hid (HB.out.trans (hb1.mono HB.out.size)); have X3 := Lib.hid (X3.out.keep hb1); have K1 := X1.out.keep hb1; have K2 := X2.out.keep hb1; have fg0 : w1.cell? ⟨w.heap.size, 9, none⟩ = some (.slice r.p.ax r.p.X.length r.p.cx) := (K1.cell 9).trans (by rw [HC.out]; rfl); have fg1 : w1.cell? ⟨w.heap.size, 10, none⟩ = some (.slice r.p.ay r.p.Y.length r.p.cy) := (K1.cell 10).trans (by rw [HC.out]; rfl); have fg2 : w1.cell? ⟨w.heap.size, 11, none⟩ = some (.slice r.p.av r.p.V.length r.p.cv) := (K1.cell 11).trans (by rw [HC.out]; rfl); have c2 := K2.cell; have l3 := K2.lt; clear hb1)
      | (go_at_call_of 63 (Value.agg #[.slice r.p.ax r.p.X.length r.p.cx, .slice r.p.ay r.p.Y.length r.p.cy, .slice r.p.av r.p.V.length r.p.cv]); refine Calls.mono (HL1.out _ HB1.out) ?_; rintro e w2 ⟨rfl, hb2⟩; have HB2 := Lib.hid (HB1.out.trans (hb2.mono HB1.out.size)); have X3 := Lib.hid (X3.out.keep hb2); clear fg0 fg1 fg2 c2 l3; clear hb2)
      | ((with_reducible refine stS (CS := ?_) X3.out ?_ ?_ ?_ ?_ ?_ ?_); rotate_left; rfl; rfl; rfl; rfl; simp [Value.oneCell']))
      go_simp
      refine bodyPost_ret (v := .tuple #[.agg #[.int .i64 0, .int .i64 0], .int .i64 1]) (revS Try.results22 (by rfl) (by rfl) X3.out.row (by rfl)) rfl ?_
      exact ⟨rfl, below_setRow HB2.out (by omega) _⟩
    | true =>
      rw [hl1] at HL1 hE
      have hE0 : hsE r a = 0 := hE
      have hv := pow_of hE0
      have HNN := Lib.hid (fun (W : World) (hW : Below w.heap.size w W) => show Calls Try.prog 68 #[.agg #[.slice r.p.ax r.p.X.length r.p.cx, .slice r.p.ay r.p.Y.length r.p.cy, .slice r.p.av r.p.V.length r.p.cv], .agg #[.int .i64 a.t.1, .int .i64 a.t.2], .agg #[.int .i64 a.h.1, .int .i64 a.h.2]] W fun e w' => e = .returned (.agg #[.int .i64 (loP r a).bn.1, .int .i64 (loP r a).bn.2]) ∧ Below W.heap.size W w' from rbnd_any (loP r a) W (rg.p.below hW) hv.cb)
      rw [show hsS r a = ((loP r a).bn, 0) by unfold hsS; rw [if_pos hE0]]
      generalize (loP r a).bn = p at *
      clear rg hc h0 ho ha hct1 hE hl1 hE0 hv
      go_enter Try.func22, Try.ntmps22
      go_upto_region 1 with fail
      generalize (((w.alloc (.cells CS 27)).alloc (.cells #[.int .i64 a.w.1, .int .i64 a.w.2, .int .i64 a.t.1, .int .i64 a.t.2, .int .i64 a.h.1, .int .i64 a.h.2, .int .i64 a.v.1, .int .i64 a.v.2] 36)).alloc (.cells #[.int .i64 0, .int .i64 0] 34)) = V1 at *
      go_wp2_with (first
      | ((with_reducible refine ldR X1.out HSZ.out ?_ ?_); rfl)
      | ((with_reducible refine ldA X2.out ?_ ?_ ?_); rfl; rfl)
      | (go_at_call 42; refine Calls.mono (HCA.out _ HB.out) ?_; rintro e w1 ⟨rfl, hb1⟩; have HB1 := Lib.hid (HB.out.trans (hb1.mono HB.out.size)); have X3 := Lib.hid (X3.out.keep hb1); have K1 := X1.out.keep hb1; have K2 := X2.out.keep hb1; have fg0 : w1.cell? ⟨w.heap.size, 9, none⟩ = some (.slice r.p.ax r.p.X.length r.p.cx) := (K1.cell 9).trans (by rw [HC.out]; rfl); have fg1 : w1.cell? ⟨w.heap.size, 10, none⟩ = some (.slice r.p.ay r.p.Y.length r.p.cy) := (K1.cell 10).trans (by rw [HC.out]; rfl); have fg2 : w1.cell? ⟨w.heap.size, 11, none⟩ = some (.slice r.p.av r.p.V.length r.p.cv) := (K1.cell 11).trans (by rw [HC.out]; rfl); have c2 := K2.cell; have l3 := K2.lt; clear hb1)
      | (go_at_call_of 63 (Value.agg #[.slice r.p.ax r.p.X.length r.p.cx, .slice r.p.ay r.p.Y.length r.p.cy, .slice r.p.av r.p.V.length r.p.cv]); refine Calls.mono (HL1.out _ HB1.out) ?_; rintro e w2 ⟨rfl, hb2⟩; have HB2 := Lib.hid (HB1.out.trans (hb2.mono HB1.out.size)); have X3 := Lib.hid (X3.out.keep hb2); clear fg0 fg1 fg2 c2 l3; have K1 := K1.keep hb2; have K2 := K2.keep hb2; have fg0 : w2.cell? ⟨w.heap.size, 9, none⟩ = some (.slice r.p.ax r.p.X.length r.p.cx) := (K1.cell 9).trans (by rw [HC.out]; rfl); have fg1 : w2.cell? ⟨w.heap.size, 10, none⟩ = some (.slice r.p.ay r.p.Y.length r.p.cy) := (K1.cell 10).trans (by rw [HC.out]; rfl); have fg2 : w2.cell? ⟨w.heap.size, 11, none⟩ = some (.slice r.p.av r.p.V.length r.p.cv) := (K1.cell 11).trans (by rw [HC.out]; rfl); have c2 := K2.cell; have l3 := K2.lt; clear hb2)
      | (go_at_call 68; refine Calls.mono (HNN.out _ HB2.out) ?_; rintro e w3 ⟨rfl, hb3⟩; have HB3 := Lib.hid (HB2.out.trans (hb3.mono HB2.out.size)); have X3 := Lib.hid (X3.out.keep hb3); clear hb3 fg0 fg1 fg2 c2 l3)
      | ((with_reducible refine stS (CS := ?_) X3.out ?_ ?_ ?_ ?_ ?_ ?_); rotate_left; rfl; rfl; rfl; rfl; simp [Value.oneCell']))
      go_simp
      refine bodyPost_ret (v := .tuple #[.agg #[.int .i64 p.1, .int .i64 p.2], .int .i64 0]) (revS Try.results22 (by rfl) (by rfl) X3.out.row (by rfl)) rfl ?_
      exact ⟨rfl, below_setRow HB3.out (by omega) _⟩
  · rw [if_neg h0] at hE
    rw [show hsS r a = ((0, 0), airE r a) by unfold hsS; rw [hE, if_neg h0]]
    clear hE
    generalize airE r a = E at *
    clear rg hc
    go_enter Try.func22, Try.ntmps22
    go_upto_region 1 with fail
    generalize (((w.alloc (.cells CS 27)).alloc (.cells #[.int .i64 a.w.1, .int .i64 a.w.2, .int .i64 a.t.1, .int .i64 a.t.2, .int .i64 a.h.1, .int .i64 a.h.2, .int .i64 a.v.1, .int .i64 a.v.2] 36)).alloc (.cells #[.int .i64 0, .int .i64 0] 34)) = V1 at *
    go_wp2_with (first
      | ((with_reducible refine ldR X1.out HSZ.out ?_ ?_); rfl)
      | ((with_reducible refine ldA X2.out ?_ ?_ ?_); rfl; rfl)
      | (go_at_call 42; refine Calls.mono (HCA.out _ HB.out) ?_; rintro e w1 ⟨rfl, hb1⟩; have HB1 := Lib.hid (HB.out.trans (hb1.mono HB.out.size)); have X3 := Lib.hid (X3.out.keep hb1); clear hb1)
      | ((with_reducible refine stS (CS := ?_) X3.out ?_ ?_ ?_ ?_ ?_ ?_); rotate_left; rfl; rfl; rfl; rfl; simp [Value.oneCell']))
    go_simp
    refine bodyPost_ret (v := .tuple #[.agg #[.int .i64 0, .int .i64 0], .int .i64 E]) (revS Try.results22 (by rfl) (by rfl) X3.out.row (by rfl)) rfl ?_
    exact ⟨rfl, below_setRow HB1.out (by omega) _⟩
end Go.Proofs.Ythhokiigdgpmcaa

/- Margin of the reference. -/
namespace Go.Proofs.Ythhokiigdgpmcaa
open Go.RowKit

set_option maxRecDepth 100000
theorem mgS_ref (r : RO) (a : AI) (s : Int × Int) : mgS r a s = if ndE r a s = 0 then (if hsE r a = 0 then (mgN r a s, 0) else (0, hsE r a)) else (0, ndE r a s) := by
  unfold mgS
  rw [mgE_ref]
  by_cases h : ndE r a s = 0
  · rw [if_pos h, if_pos h]
  · rw [if_neg h, if_neg h, if_neg h]
theorem ndS_pos {r : RO} {a : AI} {s : Int × Int} (h : ndE r a s = 0) : ndS r a s = (ndN r a s, 0) := by unfold ndS; rw [if_pos h]
theorem ndS_neg {r : RO} {a : AI} {s : Int × Int} (h : ¬ ndE r a s = 0) : ndS r a s = ((0, 0), ndE r a s) := by unfold ndS; rw [if_neg h]
theorem hsS_pos {r : RO} {a : AI} (h : hsE r a = 0) : hsS r a = ((loP r a).bn, 0) := by unfold hsS; rw [if_pos h]
theorem hsS_neg {r : RO} {a : AI} (h : ¬ hsE r a = 0) : hsS r a = ((0, 0), hsE r a) := by unfold hsS; rw [if_neg h]
set_option maxHeartbeats 4000000 in
theorem rmargin_call (r : RO) (a : AI) (CS : Array Value) (s : Int × Int) (w : World) (rg : RG w r) (hc : CS = #[.slice r.h.ax r.h.X.length r.h.cx, .slice r.h.ay r.h.Y.length r.h.cy, .slice r.h.av r.h.V.length r.h.cv, .slice r.g.ax r.g.X.length r.g.cx, .slice r.g.ay r.g.Y.length r.g.cy, .slice r.g.av r.g.V.length r.g.cv, .slice r.l.ax r.l.X.length r.l.cx, .slice r.l.ay r.l.Y.length r.l.cy, .slice r.l.av r.l.V.length r.l.cv, .slice r.p.ax r.p.X.length r.p.cx, .slice r.p.ay r.p.Y.length r.p.cy, .slice r.p.av r.p.V.length r.p.cv, .slice r.n.ax r.n.X.length r.n.cx, .slice r.n.ay r.n.Y.length r.n.cy, .slice r.n.av r.n.V.length r.n.cv, .slice r.a.ax r.a.X.length r.a.cx, .slice r.a.ay r.a.Y.length r.a.cy, .slice r.a.av r.a.V.length r.a.cv, .slice r.b.ax r.b.X.length r.b.cx, .slice r.b.ay r.b.Y.length r.b.cy, .slice r.b.av r.b.V.length r.b.cv, .slice r.d.ax r.d.X.length r.d.cx, .slice r.d.ay r.d.Y.length r.d.cy, .slice r.d.av r.d.V.length r.d.cv, .int .i64 r.cl, .int .i64 r.bu]) :
    Calls Try.prog 24 #[.agg CS, .agg #[.int .i64 a.w.1, .int .i64 a.w.2, .int .i64 a.t.1, .int .i64 a.t.2, .int .i64 a.h.1, .int .i64 a.h.2, .int .i64 a.v.1, .int .i64 a.v.2], .agg #[.int .i64 s.1, .int .i64 s.2]] w fun e w' => e = .returned (.tuple #[.int .i64 (mgS r a s).1, .int .i64 (mgS r a s).2]) ∧ Below w.heap.size w w' := by
  have HN := Lib.hid (fun (W : World) (hW : Below w.heap.size w W) => rneeds_call r a CS s W (rg.below hW) hc)
  have HH := Lib.hid (fun (W : World) (hW : Below w.heap.size w W) => rhas_call r a CS W (rg.below hW) hc)
  have HSZ := Lib.hid (show CS.size = 26 by rw [hc]; rfl)
  have X1 := Lib.hid (((BK.newg (w := w) (g := w.heap.size) (cs := CS) (T := 27) rfl).old (x := .cells #[.int .i64 a.w.1, .int .i64 a.w.2, .int .i64 a.t.1, .int .i64 a.t.2, .int .i64 a.h.1, .int .i64 a.h.2, .int .i64 a.v.1, .int .i64 a.v.2] 36)).old (x := .cells #[.int .i64 s.1, .int .i64 s.2] 34))
  have X2 := Lib.hid ((BK.newg (w := (w.alloc (.cells CS 27))) (g := w.heap.size + 1) (cs := #[.int .i64 a.w.1, .int .i64 a.w.2, .int .i64 a.t.1, .int .i64 a.t.2, .int .i64 a.h.1, .int .i64 a.h.2, .int .i64 a.v.1, .int .i64 a.v.2]) (T := 36) (by simp)).old (x := .cells #[.int .i64 s.1, .int .i64 s.2] 34))
  have X3 := Lib.hid (BK.newg (w := ((w.alloc (.cells CS 27)).alloc (.cells #[.int .i64 a.w.1, .int .i64 a.w.2, .int .i64 a.t.1, .int .i64 a.t.2, .int .i64 a.h.1, .int .i64 a.h.2, .int .i64 a.v.1, .int .i64 a.v.2] 36))) (g := w.heap.size + 1 + 1) (cs := #[.int .i64 s.1, .int .i64 s.2]) (T := 34) (by simp))
  have HB := Lib.hid (show Below w.heap.size w (((w.alloc (.cells CS 27)).alloc (.cells #[.int .i64 a.w.1, .int .i64 a.w.2, .int .i64 a.t.1, .int .i64 a.t.2, .int .i64 a.h.1, .int .i64 a.h.2, .int .i64 a.v.1, .int .i64 a.v.2] 36)).alloc (.cells #[.int .i64 s.1, .int .i64 s.2] 34)) by go_grown)
  rw [mgS_ref]
  clear hc rg
  by_cases h1 : ndE r a s = 0
  · rw [if_pos h1]
    rw [ndS_pos h1] at HN
    have hv := nd_bd (hov_of h1)
    by_cases h2 : hsE r a = 0
    · rw [if_pos h2]
      rw [hsS_pos h2] at HH
      have hp := pow_of h2
      have b1 := hp.bd (by omega) (by omega)
      have b2 := hp.le
      rw [show mgN r a s = (loP r a).bn.1 - (ndN r a s).2 from rfl]
      generalize (loP r a).bn.1 = p1 at *
      generalize (loP r a).bn.2 = p2 at *
      generalize (ndN r a s).1 = n1 at *
      generalize (ndN r a s).2 = n2 at *
      have hw : IntKind.i64.wrap (p1 - n2) = p1 - n2 := IntWalk.i64_in _ (by omega)
      clear h1 h2 hv hp b1 b2
      go_enter Try.func24, Try.ntmps24
      go_upto_region 1 with fail
      generalize (((w.alloc (.cells CS 27)).alloc (.cells #[.int .i64 a.w.1, .int .i64 a.w.2, .int .i64 a.t.1, .int .i64 a.t.2, .int .i64 a.h.1, .int .i64 a.h.2, .int .i64 a.v.1, .int .i64 a.v.2] 36)).alloc (.cells #[.int .i64 s.1, .int .i64 s.2] 34)) = V1 at *
      go_wp2_with (first
      | ((with_reducible refine ldR X1.out HSZ.out ?_ ?_); rfl)
      | ((with_reducible refine ldA X2.out ?_ ?_ ?_); rfl; rfl)
      | ((with_reducible refine ldS X3.out ?_ ?_ ?_); rfl; rfl)
      | ((with_reducible refine ldR X1.out.old HSZ.out ?_ ?_); rfl)
      | ((with_reducible refine ldA X2.out.old ?_ ?_ ?_); rfl; rfl)
      | (go_at_call 20; refine Calls.mono (HN.out _ HB.out) ?_; rintro e w1 ⟨rfl, hb1⟩; have HB1 := Lib.hid (HB.out.trans (hb1.mono HB.out.size)); have X1 := Lib.hid (X1.out.keep hb1); have X2 := Lib.hid (X2.out.keep hb1); clear hb1)
      | (go_at_call 22; refine Calls.mono (HH.out _ (HB1.out.alloc HB1.out.size _)) ?_; rintro e w2 ⟨rfl, hb2⟩; have K1 := (BK.newg (w := w1) (g := w1.heap.size) (cs := #[.int .i64 n1, .int .i64 n2]) (T := 34) rfl).keep hb2; have c1 := K1.cell; have l1 := K1.lt; have HB2 := Lib.hid ((HB1.out.alloc HB1.out.size _).trans (hb2.mono (by simp; have := HB1.out.size; omega))); clear hb2 K1))
      go_ret2
      exact ⟨rfl, HB2.out.alloc HB2.out.size _⟩
    · rw [if_neg h2]
      rw [hsS_neg h2] at HH
      generalize hsE r a = E at *
      generalize (ndN r a s).1 = n1 at *
      generalize (ndN r a s).2 = n2 at *
      clear h1 hv
      go_enter Try.func24, Try.ntmps24
      go_upto_region 1 with fail
      generalize (((w.alloc (.cells CS 27)).alloc (.cells #[.int .i64 a.w.1, .int .i64 a.w.2, .int .i64 a.t.1, .int .i64 a.t.2, .int .i64 a.h.1, .int .i64 a.h.2, .int .i64 a.v.1, .int .i64 a.v.2] 36)).alloc (.cells #[.int .i64 s.1, .int .i64 s.2] 34)) = V1 at *
      go_wp2_with (first
      | ((with_reducible refine ldR X1.out HSZ.out ?_ ?_); rfl)
      | ((with_reducible refine ldA X2.out ?_ ?_ ?_); rfl; rfl)
      | ((with_reducible refine ldS X3.out ?_ ?_ ?_); rfl; rfl)
      | ((with_reducible refine ldR X1.out.old HSZ.out ?_ ?_); rfl)
      | ((with_reducible refine ldA X2.out.old ?_ ?_ ?_); rfl; rfl)
      | (go_at_call 20; refine Calls.mono (HN.out _ HB.out) ?_; rintro e w1 ⟨rfl, hb1⟩; have HB1 := Lib.hid (HB.out.trans (hb1.mono HB.out.size)); have X1 := Lib.hid (X1.out.keep hb1); have X2 := Lib.hid (X2.out.keep hb1); clear hb1)
      | (go_at_call 22; refine Calls.mono (HH.out _ (HB1.out.alloc HB1.out.size _)) ?_; rintro e w2 ⟨rfl, hb2⟩; have K1 := (BK.newg (w := w1) (g := w1.heap.size) (cs := #[.int .i64 n1, .int .i64 n2]) (T := 34) rfl).keep hb2; have c1 := K1.cell; have l1 := K1.lt; have HB2 := Lib.hid ((HB1.out.alloc HB1.out.size _).trans (hb2.mono (by simp; have := HB1.out.size; omega))); clear hb2 K1))
      go_ret2
      exact ⟨rfl, HB2.out.alloc HB2.out.size _⟩
  · rw [if_neg h1]
    rw [ndS_neg h1] at HN
    generalize ndE r a s = E at *
    clear HH
    go_enter Try.func24, Try.ntmps24
    go_upto_region 1 with fail
    generalize (((w.alloc (.cells CS 27)).alloc (.cells #[.int .i64 a.w.1, .int .i64 a.w.2, .int .i64 a.t.1, .int .i64 a.t.2, .int .i64 a.h.1, .int .i64 a.h.2, .int .i64 a.v.1, .int .i64 a.v.2] 36)).alloc (.cells #[.int .i64 s.1, .int .i64 s.2] 34)) = V1 at *
    go_wp2_with (first
      | ((with_reducible refine ldR X1.out HSZ.out ?_ ?_); rfl)
      | ((with_reducible refine ldA X2.out ?_ ?_ ?_); rfl; rfl)
      | ((with_reducible refine ldS X3.out ?_ ?_ ?_); rfl; rfl)
      | ((with_reducible refine ldR X1.out.old HSZ.out ?_ ?_); rfl)
      | ((with_reducible refine ldA X2.out.old ?_ ?_ ?_); rfl; rfl)
      | (go_at_call 20; refine Calls.mono (HN.out _ HB.out) ?_; rintro e w1 ⟨rfl, hb1⟩; have HB1 := Lib.hid (HB.out.trans (hb1.mono HB.out.size)); have X1 := Lib.hid (X1.out.keep hb1); have X2 := Lib.hid (X2.out.keep hb1); clear hb1))
    go_ret2
    exact ⟨rfl, HB1.out.alloc HB1.out.size _⟩
end Go.Proofs.Ythhokiigdgpmcaa

/- Up; Heaviest of the reference. -/
namespace Go.Proofs.Ythhokiigdgpmcaa
open Go.RowKit

set_option maxRecDepth 100000
theorem up_any (a : AI) (n : Int) (w : World) : Calls Try.prog 28 #[.agg #[.int .i64 a.w.1, .int .i64 a.w.2, .int .i64 a.t.1, .int .i64 a.t.2, .int .i64 a.h.1, .int .i64 a.h.2, .int .i64 a.v.1, .int .i64 a.v.2], .int .i64 n] w fun e w' => e = .returned (.agg #[.int .i64 a.w.1, .int .i64 n, .int .i64 a.t.1, .int .i64 a.t.2, .int .i64 a.h.1, .int .i64 a.h.2, .int .i64 a.v.1, .int .i64 a.v.2]) ∧ Below w.heap.size w w' := by
  go_enter Try.func28, Try.ntmps28
  go_wp2
  go_returns
  exact ⟨rfl, by go_grown⟩
theorem redE_of {r : RO} {a : AI} {s : Int × Int} (h : Mrg r a s) : redE r a [loH r a, loG r a s, loP r a] [s] = 0 := by
  unfold redE
  rw [h.ro, h.ao]
  simp [h.so, h.h.on, h.g.on, h.p.on]
theorem mgS_mrg {r : RO} {a : AI} {s : Int × Int} (h : Mrg r a s) : mgS r a s = (mgN r a s, 0) := by
  unfold mgS
  rw [if_pos (redE_of h)]
theorem last_eq {p : Int → Bool} {lo hi l : Int} (h1 : lo ≤ l) (h2 : l ≤ hi) (hl : ∀ j, lo ≤ j → j ≤ l → p j = true) (hn : l < hi → p (l + 1) = false) : lastN p lo hi = (l, true) := by
  unfold lastN
  rw [firB_uniq (p := fun n => !p n) (k := lo) (f := (hi + 1 - lo).toNat) (m := l + 1) (by omega) (by omega) (fun j a b => by simp [hl j a (by omega)]) (fun h => by simp [hn (by omega)])]
  simp
  omega
theorem last_none {p : Int → Bool} {lo hi : Int} (h1 : lo ≤ hi) (hl : p lo = false) : (lastN p lo hi).2 = false := by
  unfold lastN
  rw [firB_uniq (p := fun n => !p n) (k := lo) (f := (hi + 1 - lo).toNat) (m := lo) (by omega) (by omega) (fun j a b => by omega) (fun _ => by simp [hl])]
  simp
theorem half_in {x y : Int} (h : x < y) : x + 1 ≤ (x + y + 1).tdiv 2 ∧ (x + y + 1).tdiv 2 ≤ y := by
  have h1 := Int.mul_tdiv_add_tmod (x + y + 1) 2
  have h2 := Int.tmod_lt_of_pos (x + y + 1) (show (0 : Int) < 2 by omega)
  have h3 := Int.lt_tmod_of_pos (x + y + 1) (show (0 : Int) < 2 by omega)
  omega
structure RB3 (w W : World) (a : AI) (s : Int × Int) (CS : Array Value) : Prop where
  r : BK W w.heap.size CS 27
  a : BK W (w.heap.size + 1) #[.int .i64 a.w.1, .int .i64 a.w.2, .int .i64 a.t.1, .int .i64 a.t.2, .int .i64 a.h.1, .int .i64 a.h.2, .int .i64 a.v.1, .int .i64 a.v.2] 36
  s : BK W (w.heap.size + 1 + 1) #[.int .i64 s.1, .int .i64 s.2] 34
  b : Below w.heap.size w W
theorem RB3.next {w W W' : World} {a : AI} {s : Int × Int} {CS : Array Value} (h : RB3 w W a s CS) (hb : Below W.heap.size W W') : RB3 w W' a s CS :=
  ⟨h.r.keep hb, h.a.keep hb, h.s.keep hb, h.b.trans (hb.mono h.b.size)⟩
set_option maxHeartbeats 8000000 in
theorem rheaviest_call (r : RO) (a : AI) (CS : Array Value) (s : Int × Int) (res : Int) (w : World) (rg : RG w r) (hc : CS = #[.slice r.h.ax r.h.X.length r.h.cx, .slice r.h.ay r.h.Y.length r.h.cy, .slice r.h.av r.h.V.length r.h.cv, .slice r.g.ax r.g.X.length r.g.cx, .slice r.g.ay r.g.Y.length r.g.cy, .slice r.g.av r.g.V.length r.g.cv, .slice r.l.ax r.l.X.length r.l.cx, .slice r.l.ay r.l.Y.length r.l.cy, .slice r.l.av r.l.V.length r.l.cv, .slice r.p.ax r.p.X.length r.p.cx, .slice r.p.ay r.p.Y.length r.p.cy, .slice r.p.av r.p.V.length r.p.cv, .slice r.n.ax r.n.X.length r.n.cx, .slice r.n.ay r.n.Y.length r.n.cy, .slice r.n.av r.n.V.length r.n.cv, .slice r.a.ax r.a.X.length r.a.cx, .slice r.a.ay r.a.Y.length r.a.cy, .slice r.a.av r.a.V.length r.a.cv, .slice r.b.ax r.b.X.length r.b.cx, .slice r.b.ay r.b.Y.length r.b.cy, .slice r.b.av r.b.V.length r.b.cv, .slice r.d.ax r.d.X.length r.d.cx, .slice r.d.ay r.d.Y.length r.d.cy, .slice r.d.av r.d.V.length r.d.cv, .int .i64 r.cl, .int .i64 r.bu]) :
    Calls Try.prog 27 #[.agg CS, .agg #[.int .i64 a.w.1, .int .i64 a.w.2, .int .i64 a.t.1, .int .i64 a.t.2, .int .i64 a.h.1, .int .i64 a.h.2, .int .i64 a.v.1, .int .i64 a.v.2], .agg #[.int .i64 s.1, .int .i64 s.2], .int .i64 res] w fun e w' => e = .returned (.tuple #[.int .i64 (hvN r a s res).1, .int .i64 (hvN r a s res).2]) ∧ Below w.heap.size w w' := by
  have HM := Lib.hid (fun (W : World) (hW : Below w.heap.size w W) => rmargin_call r a CS s W (rg.below hW) hc)
  have HSZ := Lib.hid (show CS.size = 26 by rw [hc]; rfl)
  have X1 := Lib.hid (((BK.newg (w := w) (g := w.heap.size) (cs := CS) (T := 27) rfl).old (x := .cells #[.int .i64 a.w.1, .int .i64 a.w.2, .int .i64 a.t.1, .int .i64 a.t.2, .int .i64 a.h.1, .int .i64 a.h.2, .int .i64 a.v.1, .int .i64 a.v.2] 36)).old (x := .cells #[.int .i64 s.1, .int .i64 s.2] 34))
  have X2 := Lib.hid ((BK.newg (w := (w.alloc (.cells CS 27))) (g := w.heap.size + 1) (cs := #[.int .i64 a.w.1, .int .i64 a.w.2, .int .i64 a.t.1, .int .i64 a.t.2, .int .i64 a.h.1, .int .i64 a.h.2, .int .i64 a.v.1, .int .i64 a.v.2]) (T := 36) (by simp)).old (x := .cells #[.int .i64 s.1, .int .i64 s.2] 34))
  have X3 := Lib.hid (BK.newg (w := ((w.alloc (.cells CS 27)).alloc (.cells #[.int .i64 a.w.1, .int .i64 a.w.2, .int .i64 a.t.1, .int .i64 a.t.2, .int .i64 a.h.1, .int .i64 a.h.2, .int .i64 a.v.1, .int .i64 a.v.2] 36))) (g := w.heap.size + 1 + 1) (cs := #[.int .i64 s.1, .int .i64 s.2]) (T := 34) (by simp))
  have HB := Lib.hid (show Below w.heap.size w (((w.alloc (.cells CS 27)).alloc (.cells #[.int .i64 a.w.1, .int .i64 a.w.2, .int .i64 a.t.1, .int .i64 a.t.2, .int .i64 a.h.1, .int .i64 a.h.2, .int .i64 a.v.1, .int .i64 a.v.2] 36)).alloc (.cells #[.int .i64 s.1, .int .i64 s.2] 34)) by go_grown)
  by_cases hE : redE r a [loH r a, loG r a s, loP r a] [s] = 0
  · have hv := mrg_of hE
    have hs := vS_get (a := a.w.1) (b := a.w.2) (AI.ok_get hv.ao).1
    have HU := Lib.hid (fun (n : Int) (h1 : a.w.1 ≤ n) (h2 : n ≤ a.w.2) (N : Int) (hN : mgN r (a.up n) s = N) (W : World) (hW : Below w.heap.size w W) => show Calls Try.prog 24 #[.agg CS, .agg #[.int .i64 a.w.1, .int .i64 n, .int .i64 a.t.1, .int .i64 a.t.2, .int .i64 a.h.1, .int .i64 a.h.2, .int .i64 a.v.1, .int .i64 a.v.2], .agg #[.int .i64 s.1, .int .i64 s.2]] W fun e w' => e = .returned (.tuple #[.int .i64 N, .int .i64 0]) ∧ Below W.heap.size W w' by
      have := rmargin_call r (a.up n) CS s W (rg.below hW) hc
      rw [mgS_mrg (hv.up h1 h2), hN] at this
      exact this)
    have HMO := Lib.hid (fun i j => hvP_mono hv (res := res) i j)
    have HPN := Lib.hid (fun n => show hvP r a s res n = decide (res ≤ mgN r (a.up n) s) from rfl)
    rw [mgS_mrg hv] at HM
    rw [show hvN r a s res = (if (lastN (hvP r a s res) a.w.1 a.w.2).2 then ((lastN (hvP r a s res) a.w.1 a.w.2).1, 0) else (0, 3)) by unfold hvN; rw [if_pos hE]]
    obtain ⟨L, hL⟩ : ∃ L, (if (lastN (hvP r a s res) a.w.1 a.w.2).2 then ((lastN (hvP r a s res) a.w.1 a.w.2).1, (0 : Int)) else (0, 3)) = L := ⟨_, rfl⟩
    rw [hL]
    have HL := Lib.hid hL
    obtain ⟨l1, l2⟩ := L
    dsimp only
    have hsA := hs.1
    have hsB := hs.2.1
    have hsC := hs.2.2
    generalize mgN r a s = N0 at *
    clear hL hE hv rg hc hs
    go_enter Try.func27, Try.ntmps27
    go_upto_region 1 with fail
    generalize (((w.alloc (.cells CS 27)).alloc (.cells #[.int .i64 a.w.1, .int .i64 a.w.2, .int .i64 a.t.1, .int .i64 a.t.2, .int .i64 a.h.1, .int .i64 a.h.2, .int .i64 a.v.1, .int .i64 a.v.2] 36)).alloc (.cells #[.int .i64 s.1, .int .i64 s.2] 34)) = V1 at *
    go_upto_region 4 with (first
      | ((with_reducible refine ldR X1.out HSZ.out ?_ ?_); rfl)
      | ((with_reducible refine ldA X2.out ?_ ?_ ?_); rfl; rfl)
      | ((with_reducible refine ldS X3.out ?_ ?_ ?_); rfl; rfl)
      | (go_at_call 24; refine Calls.mono (HM.out _ HB.out) ?_; rintro e w1 ⟨rfl, hb1⟩; have HR1 := Lib.hid (show RB3 w w1 a s CS from ⟨X1.out.keep hb1, X2.out.keep hb1, X3.out.keep hb1, HB.out.trans (hb1.mono HB.out.size)⟩); clear hb1 X1 X2 X3 HB))
    have a0 : w1.cell? ⟨w.heap.size + 1, 0, none⟩ = some (.int .i64 a.w.1) := HR1.out.a.cell 0
    have a1 : w1.cell? ⟨w.heap.size + 1, 1, none⟩ = some (.int .i64 a.w.2) := HR1.out.a.cell 1
    have a2 : w1.cell? ⟨w.heap.size + 1, 2, none⟩ = some (.int .i64 a.t.1) := HR1.out.a.cell 2
    have a3 : w1.cell? ⟨w.heap.size + 1, 3, none⟩ = some (.int .i64 a.t.2) := HR1.out.a.cell 3
    have a4 : w1.cell? ⟨w.heap.size + 1, 4, none⟩ = some (.int .i64 a.h.1) := HR1.out.a.cell 4
    have a5 : w1.cell? ⟨w.heap.size + 1, 5, none⟩ = some (.int .i64 a.h.2) := HR1.out.a.cell 5
    have a6 : w1.cell? ⟨w.heap.size + 1, 6, none⟩ = some (.int .i64 a.v.1) := HR1.out.a.cell 6
    have a7 : w1.cell? ⟨w.heap.size + 1, 7, none⟩ = some (.int .i64 a.v.2) := HR1.out.a.cell 7
    have s0 : w1.cell? ⟨w.heap.size + 1 + 1, 0, none⟩ = some (.int .i64 s.1) := HR1.out.s.cell 0
    have s1 : w1.cell? ⟨w.heap.size + 1 + 1, 1, none⟩ = some (.int .i64 s.2) := HR1.out.s.cell 1
    have l1' := HR1.out.a.lt
    go_wp2
    go_quiet (fail)
    go_upto_region 5 with fail
    have HR2 := Lib.hid (HR1.out.next (below_drewN (Below.refl _ _) nq))
    clear a0 a1 a2 a3 a4 a5 a6 a7 s0 s1 l1' HR1
    generalize w1.drewN nq = w2 at *
    have a0 : w2.cell? ⟨w.heap.size + 1, 0, none⟩ = some (.int .i64 a.w.1) := HR2.out.a.cell 0
    have a1 : w2.cell? ⟨w.heap.size + 1, 1, none⟩ = some (.int .i64 a.w.2) := HR2.out.a.cell 1
    have a2 : w2.cell? ⟨w.heap.size + 1, 2, none⟩ = some (.int .i64 a.t.1) := HR2.out.a.cell 2
    have a3 : w2.cell? ⟨w.heap.size + 1, 3, none⟩ = some (.int .i64 a.t.2) := HR2.out.a.cell 3
    have a4 : w2.cell? ⟨w.heap.size + 1, 4, none⟩ = some (.int .i64 a.h.1) := HR2.out.a.cell 4
    have a5 : w2.cell? ⟨w.heap.size + 1, 5, none⟩ = some (.int .i64 a.h.2) := HR2.out.a.cell 5
    have a6 : w2.cell? ⟨w.heap.size + 1, 6, none⟩ = some (.int .i64 a.v.1) := HR2.out.a.cell 6
    have a7 : w2.cell? ⟨w.heap.size + 1, 7, none⟩ = some (.int .i64 a.v.2) := HR2.out.a.cell 7
    have s0 : w2.cell? ⟨w.heap.size + 1 + 1, 0, none⟩ = some (.int .i64 s.1) := HR2.out.s.cell 0
    have s1 : w2.cell? ⟨w.heap.size + 1 + 1, 1, none⟩ = some (.int .i64 s.2) := HR2.out.s.cell 1
    obtain ⟨NA, hNA⟩ : ∃ N, mgN r (a.up a.w.1) s = N := ⟨_, rfl⟩
    have HN1 := Lib.hid (HU.out a.w.1 (Int.le_refl _) hsA NA hNA)
    have HPA := Lib.hid (show hvP r a s res a.w.1 = decide (res ≤ NA) by rw [HPN.out, hNA])
    clear hNA
    obtain ⟨Qa, hQa⟩ : ∃ q9 : Nat → Value → World → Prop, q9 = QG [some (.agg CS), some (.agg #[.int .i64 a.w.1, .int .i64 a.w.2, .int .i64 a.t.1, .int .i64 a.t.2, .int .i64 a.h.1, .int .i64 a.h.2, .int .i64 a.v.1, .int .i64 a.v.2]), some (.int .i64 a.w.1), some (.agg #[.int .i64 a.w.1, .int .i64 a.w.1, .int .i64 a.t.1, .int .i64 a.t.2, .int .i64 a.h.1, .int .i64 a.h.2, .int .i64 a.v.1, .int .i64 a.v.2]), some (.agg #[.int .i64 s.1, .int .i64 s.2]), some (.tuple #[.int .i64 NA, .int .i64 0]), some (.tuple #[.int .i64 NA, .int .i64 0]), some (.int .i64 NA), some (.int .i64 0), some (.int .i64 NA), some (.int .i64 0)] (fun _ _ _ => True) := ⟨_, rfl⟩
    have hst : Stays Qa := by rw [hQa]; exact QG.stays (fun _ _ _ _ _ _ => trivial)
    have HQa := Lib.hid hQa
    clear hQa
    refine wpIn_wide.1 (region_inv2 (n := 9) (by kernel_rfl) (RQ Qa w2) (by kernel_rfl) rfl (RQ.start _ _ _) ?hstepa ?henda)
    case hstepa =>
      intro i' o ho val L b' x9 hF hR hpre hl
      match i', ho with
      | 0, ho =>
        simp at ho; subst ho; refine step_plain rfl ?_; have e4 := hF.was 4 (by kernel_rfl) rfl; have hgoal := hR.go hst HQa 0 rfl
        exact inR (HR2.out.r.keep hR.1) HSZ.out (e4.trans rfl) ⟨_, rfl, hgoal _ _ (Below.refl _ _) rfl⟩
      | 1, ho =>
        simp at ho; subst ho; refine step_plain rfl ?_; have e5 := hF.was 5 (by kernel_rfl) rfl; have hgoal := hR.go hst HQa 1 rfl; have q0 := cell_keep hR.1 a0; have q1 := cell_keep hR.1 a1; have q2 := cell_keep hR.1 a2; have q3 := cell_keep hR.1 a3; have q4 := cell_keep hR.1 a4; have q5 := cell_keep hR.1 a5; have q6 := cell_keep hR.1 a6; have q7 := cell_keep hR.1 a7; clear hF hpre hl hR; go_simp; exact ⟨_, rfl, hgoal _ _ (Below.refl _ _) rfl⟩
      | 2, ho =>
        simp at ho; subst ho; refine step_plain rfl ?_; have e12 := hF.was 12 (by kernel_rfl) rfl; have hgoal := hR.go hst HQa 2 rfl; clear hF hpre hl hR; go_simp; exact ⟨_, rfl, hgoal _ _ (Below.refl _ _) rfl⟩
      | 3, ho =>
        simp at ho; subst ho; refine step_plain rfl ?_; have e35 := hF.gv hR.2 HQa 1 rfl (hpre ⟨1, .data⟩ (by simp) rfl) rfl; have e36 := hF.gv hR.2 HQa 2 rfl (hpre ⟨2, .data⟩ (by simp) rfl) rfl; have hgoal := hR.go hst HQa 3 rfl
        have hM := Lib.hid hR.1
        clear hF hpre hl hR; go_simp
        refine ⟨trivial, ?_⟩
        refine CallsIn.mono (callsIn_wide.2 (up_any a a.w.1 _)) ?_
        rintro e w9 ⟨rfl, hb9⟩
        exact ⟨_, rfl, hgoal _ _ hb9 rfl⟩
      | 4, ho =>
        simp at ho; subst ho; refine step_plain rfl ?_; have e6 := hF.was 6 (by kernel_rfl) rfl; have hgoal := hR.go hst HQa 4 rfl; have q0 := cell_keep hR.1 s0; have q1 := cell_keep hR.1 s1; clear hF hpre hl hR; go_simp; exact ⟨_, rfl, hgoal _ _ (Below.refl _ _) rfl⟩
      | 5, ho =>
        simp at ho; subst ho; refine step_plain rfl ?_; have e34 := hF.gv hR.2 HQa 0 rfl (hpre ⟨0, .data⟩ (by simp) rfl) rfl; have e37 := hF.gv hR.2 HQa 3 rfl (hpre ⟨3, .data⟩ (by simp) rfl) rfl; have e38 := hF.gv hR.2 HQa 4 rfl (hpre ⟨4, .data⟩ (by simp) rfl) rfl; have hgoal := hR.go hst HQa 5 rfl
        have hM := Lib.hid hR.1
        clear hF hpre hl hR; go_simp
        refine ⟨trivial, ?_⟩
        refine CallsIn.mono (callsIn_wide.2 (HN1.out _ (HR2.out.b.trans (hM.out.mono HR2.out.b.size)))) ?_
        rintro e w9 ⟨rfl, hb9⟩
        exact ⟨_, rfl, hgoal _ _ hb9 rfl⟩
      | 6, ho =>
        simp at ho; subst ho; refine step_plain rfl ?_; have e39 := hF.gv hR.2 HQa 5 rfl (hpre ⟨5, .data⟩ (by simp) rfl) rfl; have hgoal := hR.go hst HQa 6 rfl; clear hF hpre hl hR; go_simp; exact ⟨_, rfl, hgoal _ _ (Below.refl _ _) rfl⟩
      | 7, ho =>
        simp at ho; subst ho; refine step_plain rfl ?_; have e33 := hF.gv hR.2 HQa 6 rfl (hpre ⟨6, .data⟩ (by simp) rfl) rfl; have hgoal := hR.go hst HQa 7 rfl; clear hF hpre hl hR; go_simp; exact ⟨_, rfl, hgoal _ _ (Below.refl _ _) rfl⟩
      | 8, ho =>
        simp at ho; subst ho; refine step_plain rfl ?_; have e33 := hF.gv hR.2 HQa 6 rfl (hpre ⟨6, .data⟩ (by simp) rfl) rfl; have hgoal := hR.go hst HQa 8 rfl; clear hF hpre hl hR; go_simp; exact ⟨_, rfl, hgoal _ _ (Below.refl _ _) rfl⟩
      | 9, ho =>
        simp at ho; subst ho; refine step_plain rfl ?_; have e40 := hF.gv hR.2 HQa 7 rfl (hpre ⟨7, .data⟩ (by simp) rfl) rfl; have hgoal := hR.go hst HQa 9 rfl; clear hF hpre hl hR; go_simp; exact ⟨_, rfl, hgoal _ _ (Below.refl _ _) rfl⟩
      | 10, ho =>
        simp at ho; subst ho; refine step_plain rfl ?_; have e41 := hF.gv hR.2 HQa 8 rfl (hpre ⟨8, .data⟩ (by simp) rfl) rfl; have hgoal := hR.go hst HQa 10 rfl; clear hF hpre hl hR; go_simp; exact ⟨_, rfl, hgoal _ _ (Below.refl _ _) rfl⟩
      | i + 11, ho => simp at ho
    case henda =>
      intro val L b' x9 hF hall hR
      have e := hF.all (by kernel_rfl) hall
      have ka6 := QG.val HQa rfl (hR.2 6 (hall 6 (by decide)))
      have ka7 := QG.val HQa rfl (hR.2 7 (hall 7 (by decide)))
      have ka8 := QG.val HQa rfl (hR.2 8 (hall 8 (by decide)))
      have ka9 := QG.val HQa rfl (hR.2 9 (hall 9 (by decide)))
      have ka10 := QG.val HQa rfl (hR.2 10 (hall 10 (by decide)))
      have hBa := Lib.hid hR.1
      clear hF hall hR hst HQa 
      subst e
      simp [final, dstOf, List.range, List.range.loop]
      rw [ka6]
      rw [ka7]
      rw [ka8]
      rw [ka9]
      rw [ka10]
      have HR3 := Lib.hid (HR2.out.next hBa.out)
      clear a0 a1 a2 a3 a4 a5 a6 a7 s0 s1 HR2 HN1 hBa
      by_cases hlt : NA < res
      · have HE := Lib.hid (show (0, 3) = (l1, l2) by rw [← HL.out, last_none hsA (by rw [HPA.out]; simp; omega)]; rfl)
        go_wp2
        go_ret2
        have he := HE.out
        injection he with h8 h9
        subst h8
        subst h9
        exact ⟨rfl, HR3.out.b⟩
      · have HPA' := Lib.hid (show hvP r a s res a.w.1 = true by rw [HPA.out]; simp; omega)
        go_wp2
        go_loopw [12, 13] (fun l h wr => ∃ x y : Int, l = .int .i64 x ∧ h = .int .i64 y ∧ a.w.1 ≤ x ∧ x ≤ y ∧ y ≤ a.w.2 ∧ hvP r a s res x = true ∧ (y < a.w.2 → hvP r a s res (y + 1) = false) ∧ RB3 w wr a s CS) (fun l h _ => (intOf h - intOf l).toNat)
        case atStart => exact ⟨a.w.1, a.w.2, rfl, rfl, Int.le_refl _, hsA, Int.le_refl _, HPA'.out, fun h => by omega, HR3.out⟩
        case round =>
          obtain ⟨x, y, rfl, rfl, hx1, hxy, hy2, hpx, hpy, hR⟩ := hrel
          have HPX := Lib.hid hpx
          have HPY := Lib.hid hpy
          have HRW := Lib.hid hR
          clear hpx hpy hR
          by_cases hlt2 : x < y
          · obtain ⟨m, hm⟩ : ∃ m, (x + y + 1).tdiv 2 = m := ⟨_, rfl⟩
            have hmb := half_in hlt2
            rw [hm] at hmb
            obtain ⟨hm1, hm2⟩ := hmb
            go_upto_region 12 with (fail)
            have a0 : wr.cell? ⟨w.heap.size + 1, 0, none⟩ = some (.int .i64 a.w.1) := HRW.out.a.cell 0
            have a1 : wr.cell? ⟨w.heap.size + 1, 1, none⟩ = some (.int .i64 a.w.2) := HRW.out.a.cell 1
            have a2 : wr.cell? ⟨w.heap.size + 1, 2, none⟩ = some (.int .i64 a.t.1) := HRW.out.a.cell 2
            have a3 : wr.cell? ⟨w.heap.size + 1, 3, none⟩ = some (.int .i64 a.t.2) := HRW.out.a.cell 3
            have a4 : wr.cell? ⟨w.heap.size + 1, 4, none⟩ = some (.int .i64 a.h.1) := HRW.out.a.cell 4
            have a5 : wr.cell? ⟨w.heap.size + 1, 5, none⟩ = some (.int .i64 a.h.2) := HRW.out.a.cell 5
            have a6 : wr.cell? ⟨w.heap.size + 1, 6, none⟩ = some (.int .i64 a.v.1) := HRW.out.a.cell 6
            have a7 : wr.cell? ⟨w.heap.size + 1, 7, none⟩ = some (.int .i64 a.v.2) := HRW.out.a.cell 7
            have s0 : wr.cell? ⟨w.heap.size + 1 + 1, 0, none⟩ = some (.int .i64 s.1) := HRW.out.s.cell 0
            have s1 : wr.cell? ⟨w.heap.size + 1 + 1, 1, none⟩ = some (.int .i64 s.2) := HRW.out.s.cell 1
            obtain ⟨NB, hNB⟩ : ∃ N, mgN r (a.up m) s = N := ⟨_, rfl⟩
            have HNB := Lib.hid (HU.out m (by omega) (by omega) NB hNB)
            have HPB := Lib.hid (show hvP r a s res m = decide (res ≤ NB) by rw [HPN.out, hNB])
            clear hNB
            obtain ⟨Qb, hQb⟩ : ∃ q9 : Nat → Value → World → Prop, q9 = QG [some (.agg CS), some (.agg #[.int .i64 a.w.1, .int .i64 a.w.2, .int .i64 a.t.1, .int .i64 a.t.2, .int .i64 a.h.1, .int .i64 a.h.2, .int .i64 a.v.1, .int .i64 a.v.2]), some (.int .i64 m), some (.agg #[.int .i64 a.w.1, .int .i64 m, .int .i64 a.t.1, .int .i64 a.t.2, .int .i64 a.h.1, .int .i64 a.h.2, .int .i64 a.v.1, .int .i64 a.v.2]), some (.agg #[.int .i64 s.1, .int .i64 s.2]), some (.tuple #[.int .i64 NB, .int .i64 0]), some (.tuple #[.int .i64 NB, .int .i64 0]), some (.int .i64 NB), some (.int .i64 0), some (.int .i64 NB)] (fun _ _ _ => True) := ⟨_, rfl⟩
            have hst : Stays Qb := by rw [hQb]; exact QG.stays (fun _ _ _ _ _ _ => trivial)
            have HQb := Lib.hid hQb
            clear hQb
            refine wpIn_wide.1 (region_inv2 (n := 9) (by kernel_rfl) (RQ Qb wr) (by kernel_rfl) rfl (RQ.start _ _ _) ?hstepb ?hendb)
            case hstepb =>
              intro i' o ho val L b' x8 hF hR hpre hl
              match i', ho with
              | 0, ho =>
                simp at ho; subst ho; refine step_plain rfl ?_; have e4 := hF.was 4 (by kernel_rfl) rfl; have hgoal := hR.go hst HQb 0 rfl
                exact inR (HRW.out.r.keep hR.1) HSZ.out (e4.trans rfl) ⟨_, rfl, hgoal _ _ (Below.refl _ _) rfl⟩
              | 1, ho =>
                simp at ho; subst ho; refine step_plain rfl ?_; have e5 := hF.was 5 (by kernel_rfl) rfl; have hgoal := hR.go hst HQb 1 rfl; have q0 := cell_keep hR.1 a0; have q1 := cell_keep hR.1 a1; have q2 := cell_keep hR.1 a2; have q3 := cell_keep hR.1 a3; have q4 := cell_keep hR.1 a4; have q5 := cell_keep hR.1 a5; have q6 := cell_keep hR.1 a6; have q7 := cell_keep hR.1 a7; clear hF hpre hl hR; go_simp; exact ⟨_, rfl, hgoal _ _ (Below.refl _ _) rfl⟩
              | 2, ho =>
                simp at ho; subst ho; refine step_plain rfl ?_; have e16 := hF.was 16 (by kernel_rfl) rfl; have hgoal := hR.go hst HQb 2 rfl; clear hF hpre hl hR; go_simp; exact ⟨_, rfl, hgoal _ _ (Below.refl _ _) rfl⟩
              | 3, ho =>
                simp at ho; subst ho; refine step_plain rfl ?_; have e60 := hF.gv hR.2 HQb 1 rfl (hpre ⟨1, .data⟩ (by simp) rfl) rfl; have e61 := hF.gv hR.2 HQb 2 rfl (hpre ⟨2, .data⟩ (by simp) rfl) rfl; have hgoal := hR.go hst HQb 3 rfl
                have hM := Lib.hid hR.1
                clear hF hpre hl hR; go_simp
                refine ⟨trivial, ?_⟩
                refine CallsIn.mono (callsIn_wide.2 (up_any a m _)) ?_
                rintro e w9 ⟨rfl, hb9⟩
                exact ⟨_, rfl, hgoal _ _ hb9 rfl⟩
              | 4, ho =>
                simp at ho; subst ho; refine step_plain rfl ?_; have e6 := hF.was 6 (by kernel_rfl) rfl; have hgoal := hR.go hst HQb 4 rfl; have q0 := cell_keep hR.1 s0; have q1 := cell_keep hR.1 s1; clear hF hpre hl hR; go_simp; exact ⟨_, rfl, hgoal _ _ (Below.refl _ _) rfl⟩
              | 5, ho =>
                simp at ho; subst ho; refine step_plain rfl ?_; have e59 := hF.gv hR.2 HQb 0 rfl (hpre ⟨0, .data⟩ (by simp) rfl) rfl; have e62 := hF.gv hR.2 HQb 3 rfl (hpre ⟨3, .data⟩ (by simp) rfl) rfl; have e63 := hF.gv hR.2 HQb 4 rfl (hpre ⟨4, .data⟩ (by simp) rfl) rfl; have hgoal := hR.go hst HQb 5 rfl
                have hM := Lib.hid hR.1
                clear hF hpre hl hR; go_simp
                refine ⟨trivial, ?_⟩
                refine CallsIn.mono (callsIn_wide.2 (HNB.out _ (HRW.out.b.trans (hM.out.mono HRW.out.b.size)))) ?_
                rintro e w9 ⟨rfl, hb9⟩
                exact ⟨_, rfl, hgoal _ _ hb9 rfl⟩
              | 6, ho =>
                simp at ho; subst ho; refine step_plain rfl ?_; have e64 := hF.gv hR.2 HQb 5 rfl (hpre ⟨5, .data⟩ (by simp) rfl) rfl; have hgoal := hR.go hst HQb 6 rfl; clear hF hpre hl hR; go_simp; exact ⟨_, rfl, hgoal _ _ (Below.refl _ _) rfl⟩
              | 7, ho =>
                simp at ho; subst ho; refine step_plain rfl ?_; have e58 := hF.gv hR.2 HQb 6 rfl (hpre ⟨6, .data⟩ (by simp) rfl) rfl; have hgoal := hR.go hst HQb 7 rfl; clear hF hpre hl hR; go_simp; exact ⟨_, rfl, hgoal _ _ (Below.refl _ _) rfl⟩
              | 8, ho =>
                simp at ho; subst ho; refine step_plain rfl ?_; have e58 := hF.gv hR.2 HQb 6 rfl (hpre ⟨6, .data⟩ (by simp) rfl) rfl; have hgoal := hR.go hst HQb 8 rfl; clear hF hpre hl hR; go_simp; exact ⟨_, rfl, hgoal _ _ (Below.refl _ _) rfl⟩
              | 9, ho =>
                simp at ho; subst ho; refine step_plain rfl ?_; have e65 := hF.gv hR.2 HQb 7 rfl (hpre ⟨7, .data⟩ (by simp) rfl) rfl; have hgoal := hR.go hst HQb 9 rfl; clear hF hpre hl hR; go_simp; exact ⟨_, rfl, hgoal _ _ (Below.refl _ _) rfl⟩
              | i + 10, ho => simp at ho
            case hendb =>
              intro val L b' x8 hF hall hR
              have e := hF.all (by kernel_rfl) hall
              have kb6 := QG.val HQb rfl (hR.2 6 (hall 6 (by decide)))
              have kb7 := QG.val HQb rfl (hR.2 7 (hall 7 (by decide)))
              have kb8 := QG.val HQb rfl (hR.2 8 (hall 8 (by decide)))
              have kb9 := QG.val HQb rfl (hR.2 9 (hall 9 (by decide)))
              have hBb := Lib.hid hR.1
              clear hF hall hR hst HQb 
              subst e
              simp [final, dstOf, List.range, List.range.loop]
              rw [kb6]
              rw [kb7]
              rw [kb8]
              rw [kb9]
              have HR4 := Lib.hid (HRW.out.next hBb.out)
              clear a0 a1 a2 a3 a4 a5 a6 a7 s0 s1 HNB hBb
              by_cases hN : res ≤ NB
              · have HPC := Lib.hid (show hvP r a s res m = true by rw [HPB.out]; simp; omega)
                go_wp2
                go_roundw
                case rel => exact ⟨m, y, rfl, rfl, by omega, hm2, hy2, HPC.out, HPY.out, HR4.out⟩
                case measure => simp [intOf]; omega
              · have HPC := Lib.hid (show hvP r a s res m = false by rw [HPB.out]; simp; omega)
                go_wp2
                go_roundw
                case rel => exact ⟨x, m - 1, rfl, rfl, hx1, by omega, by omega, HPX.out, fun _ => by rw [show m - 1 + 1 = m by omega]; exact HPC.out, HR4.out⟩
                case measure => simp [intOf]; omega
          · obtain rfl : y = x := by omega
            have HE := Lib.hid (show (y, 0) = (l1, l2) by rw [← HL.out, last_eq hx1 hy2 (fun j j1 j2 => HMO.out j y j1 j2 hy2 HPX.out) HPY.out]; rfl)
            go_wp2
            go_ret2
            have he := HE.out
            injection he with h8 h9
            subst h8
            subst h9
            exact ⟨rfl, HRW.out.b⟩
  · rw [show hvN r a s res = (0, redE r a [loH r a, loG r a s, loP r a] [s]) by unfold hvN; rw [if_neg hE]]
    rw [show mgS r a s = (0, redE r a [loH r a, loG r a s, loP r a] [s]) by unfold mgS; rw [if_neg hE]] at HM
    generalize redE r a [loH r a, loG r a s, loP r a] [s] = E at *
    clear rg hc
    go_enter Try.func27, Try.ntmps27
    go_upto_region 1 with fail
    generalize (((w.alloc (.cells CS 27)).alloc (.cells #[.int .i64 a.w.1, .int .i64 a.w.2, .int .i64 a.t.1, .int .i64 a.t.2, .int .i64 a.h.1, .int .i64 a.h.2, .int .i64 a.v.1, .int .i64 a.v.2] 36)).alloc (.cells #[.int .i64 s.1, .int .i64 s.2] 34)) = V1 at *
    go_wp2_with (first
      | ((with_reducible refine ldR X1.out HSZ.out ?_ ?_); rfl)
      | ((with_reducible refine ldA X2.out ?_ ?_ ?_); rfl; rfl)
      | ((with_reducible refine ldS X3.out ?_ ?_ ?_); rfl; rfl)
      | (go_at_call 24; refine Calls.mono (HM.out _ HB.out) ?_; rintro e w1 ⟨rfl, hb1⟩; have HB1 := Lib.hid (HB.out.trans (hb1.mono HB.out.size)); clear hb1))
    go_ret2
    exact ⟨rfl, HB1.out⟩
end Go.Proofs.Ythhokiigdgpmcaa

/- law of RotorHeaviest. -/
namespace Go.Proofs.Ythhokiigdgpmcaa
open Go.RowKit

set_option maxRecDepth 100000
theorem last_spec {p : Int → Bool} {lo hi : Int} (h1 : lo ≤ hi) (h : (lastN p lo hi).2 = true) : lo ≤ (lastN p lo hi).1 ∧ (lastN p lo hi).1 ≤ hi ∧ p (lastN p lo hi).1 = true ∧ ((lastN p lo hi).1 < hi → p ((lastN p lo hi).1 + 1) = false) := by
  unfold lastN at h ⊢
  simp only [decide_eq_true_eq] at h
  obtain ⟨s1, s2, s3, s4⟩ := firB_spec (fun n => !p n) (hi + 1 - lo).toNat lo
  refine ⟨by omega, by omega, ?_, fun hl => ?_⟩
  · have := s3 (firB (fun n => !p n) lo (hi + 1 - lo).toNat - 1) (by omega) (by omega)
    simpa using this
  · have := s4 (by omega)
    rw [Int.sub_add_cancel]
    simpa using this
set_option maxHeartbeats 8000000 in
theorem law_heaviest (wk : WK2) (w : World) (r : RO) (rg : RG w r) (a : AI) (s : Int × Int) (res : Int) : Calls Try.prog 5 #[.agg #[.slice r.h.ax r.h.X.length r.h.cx, .slice r.h.ay r.h.Y.length r.h.cy, .slice r.h.av r.h.V.length r.h.cv, .slice r.g.ax r.g.X.length r.g.cx, .slice r.g.ay r.g.Y.length r.g.cy, .slice r.g.av r.g.V.length r.g.cv, .slice r.l.ax r.l.X.length r.l.cx, .slice r.l.ay r.l.Y.length r.l.cy, .slice r.l.av r.l.V.length r.l.cv, .slice r.p.ax r.p.X.length r.p.cx, .slice r.p.ay r.p.Y.length r.p.cy, .slice r.p.av r.p.V.length r.p.cv, .slice r.n.ax r.n.X.length r.n.cx, .slice r.n.ay r.n.Y.length r.n.cy, .slice r.n.av r.n.V.length r.n.cv, .slice r.a.ax r.a.X.length r.a.cx, .slice r.a.ay r.a.Y.length r.a.cy, .slice r.a.av r.a.V.length r.a.cv, .slice r.b.ax r.b.X.length r.b.cx, .slice r.b.ay r.b.Y.length r.b.cy, .slice r.b.av r.b.V.length r.b.cv, .slice r.d.ax r.d.X.length r.d.cx, .slice r.d.ay r.d.Y.length r.d.cy, .slice r.d.av r.d.V.length r.d.cv, .int .i64 r.cl, .int .i64 r.bu], .agg #[.int .i64 a.w.1, .int .i64 a.w.2, .int .i64 a.t.1, .int .i64 a.t.2, .int .i64 a.h.1, .int .i64 a.h.2, .int .i64 a.v.1, .int .i64 a.v.2], .agg #[.int .i64 s.1, .int .i64 s.2, .int .i64 res]] w fun e w' => e = .returned (.bool true) ∧ Below w.heap.size w w' := by
  obtain ⟨CS, hc⟩ : ∃ CS : Array Value, #[.slice r.h.ax r.h.X.length r.h.cx, .slice r.h.ay r.h.Y.length r.h.cy, .slice r.h.av r.h.V.length r.h.cv, .slice r.g.ax r.g.X.length r.g.cx, .slice r.g.ay r.g.Y.length r.g.cy, .slice r.g.av r.g.V.length r.g.cv, .slice r.l.ax r.l.X.length r.l.cx, .slice r.l.ay r.l.Y.length r.l.cy, .slice r.l.av r.l.V.length r.l.cv, .slice r.p.ax r.p.X.length r.p.cx, .slice r.p.ay r.p.Y.length r.p.cy, .slice r.p.av r.p.V.length r.p.cv, .slice r.n.ax r.n.X.length r.n.cx, .slice r.n.ay r.n.Y.length r.n.cy, .slice r.n.av r.n.V.length r.n.cv, .slice r.a.ax r.a.X.length r.a.cx, .slice r.a.ay r.a.Y.length r.a.cy, .slice r.a.av r.a.V.length r.a.cv, .slice r.b.ax r.b.X.length r.b.cx, .slice r.b.ay r.b.Y.length r.b.cy, .slice r.b.av r.b.V.length r.b.cv, .slice r.d.ax r.d.X.length r.d.cx, .slice r.d.ay r.d.Y.length r.d.cy, .slice r.d.av r.d.V.length r.d.cv, .int .i64 r.cl, .int .i64 r.bu] = CS := ⟨_, rfl⟩
  have HFA := Lib.hid (fun (W : World) (hW : Below w.heap.size w W) => show Calls Try.prog 14 #[.agg CS] W fun e w' => e = .returned (.bool r.far) ∧ Below W.heap.size W w' by rw [← hc]; exact rfar_any r W (rg.below hW))
  have HSZ := Lib.hid (show CS.size = 26 by rw [← hc]; rfl)
  have HC := Lib.hid hc.symm
  have X1 := Lib.hid (((BK.newg (w := w) (g := w.heap.size) (cs := CS) (T := 27) rfl).old (x := .cells #[.int .i64 a.w.1, .int .i64 a.w.2, .int .i64 a.t.1, .int .i64 a.t.2, .int .i64 a.h.1, .int .i64 a.h.2, .int .i64 a.v.1, .int .i64 a.v.2] 36)).old (x := .cells #[.int .i64 s.1, .int .i64 s.2, .int .i64 res] 45))
  have X2 := Lib.hid ((BK.newg (w := (w.alloc (.cells CS 27))) (g := w.heap.size + 1) (cs := #[.int .i64 a.w.1, .int .i64 a.w.2, .int .i64 a.t.1, .int .i64 a.t.2, .int .i64 a.h.1, .int .i64 a.h.2, .int .i64 a.v.1, .int .i64 a.v.2]) (T := 36) (by simp)).old (x := .cells #[.int .i64 s.1, .int .i64 s.2, .int .i64 res] 45))
  have X3 := Lib.hid (BK.newg (w := ((w.alloc (.cells CS 27)).alloc (.cells #[.int .i64 a.w.1, .int .i64 a.w.2, .int .i64 a.t.1, .int .i64 a.t.2, .int .i64 a.h.1, .int .i64 a.h.2, .int .i64 a.v.1, .int .i64 a.v.2] 36))) (g := w.heap.size + 1 + 1) (cs := #[.int .i64 s.1, .int .i64 s.2, .int .i64 res]) (T := 45) (by simp))
  have HB := Lib.hid (show Below w.heap.size w (((w.alloc (.cells CS 27)).alloc (.cells #[.int .i64 a.w.1, .int .i64 a.w.2, .int .i64 a.t.1, .int .i64 a.t.2, .int .i64 a.h.1, .int .i64 a.h.2, .int .i64 a.v.1, .int .i64 a.v.2] 36)).alloc (.cells #[.int .i64 s.1, .int .i64 s.2, .int .i64 res] 45)) by go_grown)
  have HW := Lib.hid wk
  have HRR := Lib.hid (fun (W : World) (hW : Below w.heap.size w W) => rg.below hW)
  rw [hc]
  cases hf : r.far with
  | true =>
    rw [hf] at HFA
    clear rg hc hf
    go_enter Try.func5, Try.ntmps5
    go_upto_region 1 with fail
    generalize (((w.alloc (.cells CS 27)).alloc (.cells #[.int .i64 a.w.1, .int .i64 a.w.2, .int .i64 a.t.1, .int .i64 a.t.2, .int .i64 a.h.1, .int .i64 a.h.2, .int .i64 a.v.1, .int .i64 a.v.2] 36)).alloc (.cells #[.int .i64 s.1, .int .i64 s.2, .int .i64 res] 45)) = V1 at *
    go_wp2_with (first
      | ((with_reducible refine ldR X1.out HSZ.out ?_ ?_); rfl)
      | (go_at_call 14; refine Calls.mono (HFA.out _ HB.out) ?_; rintro e w1 ⟨rfl, hb1⟩; have HB1 := Lib.hid (HB.out.trans (hb1.mono HB.out.size)); clear hb1)
      | (go_at_call 15; refine Calls.mono (HW.out _) ?_; rintro e w2 ⟨rfl, hb2⟩; have HB2 := Lib.hid (HB1.out.trans (hb2.mono HB1.out.size)); clear hb2))
    go_ret
    exact ⟨rfl, HB2.out⟩
  | false =>
    have HO := Lib.hid (fun (W : World) (hW : Below w.heap.size w W) => own_any r W (rg.below hW) (RO.small_of hf) CS hc.symm)
    rw [hf] at HFA
    clear rg hc hf
    go_enter Try.func5, Try.ntmps5
    go_upto_region 1 with fail
    generalize (((w.alloc (.cells CS 27)).alloc (.cells #[.int .i64 a.w.1, .int .i64 a.w.2, .int .i64 a.t.1, .int .i64 a.t.2, .int .i64 a.h.1, .int .i64 a.h.2, .int .i64 a.v.1, .int .i64 a.v.2] 36)).alloc (.cells #[.int .i64 s.1, .int .i64 s.2, .int .i64 res] 45)) = V1 at *
    go_upto_region 4 with (first
      | ((with_reducible refine ldR X1.out HSZ.out ?_ ?_); rfl)
      | (go_at_call 14; refine Calls.mono (HFA.out _ HB.out) ?_; rintro e w1 ⟨rfl, hb1⟩; have HB1 := Lib.hid (HB.out.trans (hb1.mono HB.out.size)); have X1 := Lib.hid (X1.out.keep hb1); have X2 := Lib.hid (X2.out.keep hb1); have X3 := Lib.hid (X3.out.keep hb1); clear hb1)
      | (go_at_call 17; refine Calls.mono (HO.out _ HB1.out) ?_; rintro e w2 ⟨q, rfl, hs, hg, hb2⟩; (obtain ⟨QS, hq⟩ : ∃ QS : Array Value, #[.slice q.h.ax q.h.X.length q.h.cx, .slice q.h.ay q.h.Y.length q.h.cy, .slice q.h.av q.h.V.length q.h.cv, .slice q.g.ax q.g.X.length q.g.cx, .slice q.g.ay q.g.Y.length q.g.cy, .slice q.g.av q.g.V.length q.g.cv, .slice q.l.ax q.l.X.length q.l.cx, .slice q.l.ay q.l.Y.length q.l.cy, .slice q.l.av q.l.V.length q.l.cv, .slice q.p.ax q.p.X.length q.p.cx, .slice q.p.ay q.p.Y.length q.p.cy, .slice q.p.av q.p.V.length q.p.cv, .slice q.n.ax q.n.X.length q.n.cx, .slice q.n.ay q.n.Y.length q.n.cy, .slice q.n.av q.n.V.length q.n.cv, .slice q.a.ax q.a.X.length q.a.cx, .slice q.a.ay q.a.Y.length q.a.cy, .slice q.a.av q.a.V.length q.a.cv, .slice q.b.ax q.b.X.length q.b.cx, .slice q.b.ay q.b.Y.length q.b.cy, .slice q.b.av q.b.V.length q.b.cv, .slice q.d.ax q.d.X.length q.d.cx, .slice q.d.ay q.d.Y.length q.d.cy, .slice q.d.av q.d.V.length q.d.cv, .int .i64 q.cl, .int .i64 q.bu] = QS := ⟨_, rfl⟩); rw [hq]; have HB2 := Lib.hid (HB1.out.trans (hb2.mono HB1.out.size)); have X1 := Lib.hid (X1.out.keep hb2); have X2 := Lib.hid (X2.out.keep hb2); have X3 := Lib.hid (X3.out.keep hb2); have HS := Lib.hid hs; have HG := Lib.hid hg.now; have HQ := Lib.hid hq.symm; have HQZ := Lib.hid (show QS.size = 26 by rw [← hq]; rfl); have HQO := Lib.hid (show QS.all (·.oneCell') = true by rw [← hq]; simp [Value.oneCell']); have XQ := Lib.hid (BK.newg (w := w2) (g := w2.heap.size) (cs := #[.slice none 0 0, .slice none 0 0, .slice none 0 0, .slice none 0 0, .slice none 0 0, .slice none 0 0, .slice none 0 0, .slice none 0 0, .slice none 0 0, .slice none 0 0, .slice none 0 0, .slice none 0 0, .slice none 0 0, .slice none 0 0, .slice none 0 0, .slice none 0 0, .slice none 0 0, .slice none 0 0, .slice none 0 0, .slice none 0 0, .slice none 0 0, .slice none 0 0, .slice none 0 0, .slice none 0 0, .int .i64 0, .int .i64 0]) (T := 27) rfl); clear hs hg hq hb2)
      | ((with_reducible refine stR XQ.out ?_ ?_ ?_ HQZ.out HQO.out ?_); rfl; rfl; rfl))
    obtain ⟨V3, hV3⟩ : ∃ W, (w2.alloc (.cells #[.slice none 0 0, .slice none 0 0, .slice none 0 0, .slice none 0 0, .slice none 0 0, .slice none 0 0, .slice none 0 0, .slice none 0 0, .slice none 0 0, .slice none 0 0, .slice none 0 0, .slice none 0 0, .slice none 0 0, .slice none 0 0, .slice none 0 0, .slice none 0 0, .slice none 0 0, .slice none 0 0, .slice none 0 0, .slice none 0 0, .slice none 0 0, .slice none 0 0, .slice none 0 0, .slice none 0 0, .int .i64 0, .int .i64 0] 27)).setRow w2.heap.size QS = W := ⟨_, rfl⟩
    rw [hV3]
    have hb3 : Below w2.heap.size w2 V3 := by rw [← hV3]; exact below_setRow ((Below.refl _ _).alloc (Nat.le_refl _) _) (Nat.le_refl _) _
    have XQ := Lib.hid (show BK V3 w2.heap.size QS 27 by rw [← hV3]; exact XQ.out.row)
    have X1 := Lib.hid (X1.out.keep hb3)
    have X2 := Lib.hid (X2.out.keep hb3)
    have X3 := Lib.hid (X3.out.keep hb3)
    have HB3 := Lib.hid (HB2.out.trans (hb3.mono HB2.out.size))
    have HRQ := Lib.hid (HG.out.below hb3)
    clear hb3 hV3 HG HB1 HB2 HQO HO HFA HB
    generalize w2.heap.size = gq at *
    have H1 := Lib.hid (fun (W : World) (hq : RG W q) => show Calls Try.prog 26 #[.agg QS, .agg #[.int .i64 a.w.1, .int .i64 a.w.2, .int .i64 a.t.1, .int .i64 a.t.2, .int .i64 a.h.1, .int .i64 a.h.2, .int .i64 a.v.1, .int .i64 a.v.2], .agg #[.int .i64 s.1, .int .i64 s.2], .int .i64 res] W fun e w' => e = .returned (.tuple #[.int .i64 (hvN r a s res).1, .int .i64 (hvN r a s res).2]) ∧ Below W.heap.size W w' by
      have := heaviest_any q a QS s res W hq HQ.out
      rw [same_hvN HS.out] at this
      exact this)
    have H2 := Lib.hid (fun (W : World) (hW : Below w.heap.size w W) => rheaviest_call r a CS s res W (HRR.out W hW) HC.out)
    have c3 := X3.out.cell
    have l3 := X3.out.lt
    have c2 := X2.out.cell
    have l2 := X2.out.lt
    by_cases hz : (hvN r a s res).2 = 0
    · have hE : redE r a [loH r a, loG r a s, loP r a] [s] = 0 := by
        unfold hvN at hz
        split at hz
        · assumption
        · assumption
      have hv := mrg_of hE
      have hlt : (lastN (hvP r a s res) a.w.1 a.w.2).2 = true := by
        unfold hvN at hz
        rw [if_pos hE] at hz
        cases hq9 : (lastN (hvP r a s res) a.w.1 a.w.2).2 with
        | true => rfl
        | false => rw [hq9] at hz; simp at hz
      have hs := vS_get (a := a.w.1) (b := a.w.2) (AI.ok_get hv.ao).1
      obtain ⟨n1, n2, n3, n4⟩ := last_spec hs.1 hlt
      rw [show hvN r a s res = ((lastN (hvP r a s res) a.w.1 a.w.2).1, 0) by unfold hvN; rw [if_pos hE, if_pos hlt]] at H1 H2
      have HM := Lib.hid (fun (n : Int) (h1 : a.w.1 ≤ n) (h2 : n ≤ a.w.2) (N : Int) (hN : mgN r (a.up n) s = N) (W : World) (hq : RG W q) => show Calls Try.prog 23 #[.agg QS, .agg #[.int .i64 a.w.1, .int .i64 n, .int .i64 a.t.1, .int .i64 a.t.2, .int .i64 a.h.1, .int .i64 a.h.2, .int .i64 a.v.1, .int .i64 a.v.2], .agg #[.int .i64 s.1, .int .i64 s.2]] W fun e w' => e = .returned (.tuple #[.int .i64 N, .int .i64 0]) ∧ Below W.heap.size W w' by
        have := margin_any q (a.up n) QS s W hq HQ.out
        rw [same_mgS HS.out, mgS_mrg (hv.up h1 h2), hN] at this
        exact this)
      dsimp only at H1 H2
      generalize (lastN (hvP r a s res) a.w.1 a.w.2).1 = n at *
      obtain ⟨NA, hNA⟩ : ∃ N, mgN r (a.up n) s = N := ⟨_, rfl⟩
      have HN1 := Lib.hid (HM.out n n1 n2 NA hNA)
      have hres : res ≤ NA := by
        unfold hvP at n3
        rw [hNA] at n3
        simpa using n3
      have HN4 := Lib.hid n4
      have hsB := hs.2.1
      have hsC := hs.2.2
      clear hz hE hv hlt hs n3 n4 hNA
      go_upto_region 10 with (first
      | ((with_reducible refine ldR X1.out HSZ.out ?_ ?_); rfl)
      | ((with_reducible refine ldR X1.out.old HSZ.out ?_ ?_); rfl)
      | ((with_reducible refine ldR XQ.out HQZ.out ?_ ?_); rfl)
      | ((with_reducible refine ldR XQ.out.old HQZ.out ?_ ?_); rfl)
      | ((with_reducible refine ldA X2.out ?_ ?_ ?_); rfl; rfl)
      | ((with_reducible refine ldA X2.out.old ?_ ?_ ?_); rfl; rfl)
      | (go_at_call 26; refine Calls.mono (H1.out _ HRQ.out) ?_; rintro e w4 ⟨rfl, hb4⟩; have X1 := Lib.hid (X1.out.keep hb4); have X2 := Lib.hid (X2.out.keep hb4); have X3 := Lib.hid (X3.out.keep hb4); have XQ := Lib.hid (XQ.out.keep hb4); have HB4 := Lib.hid (HB3.out.trans (hb4.mono HB3.out.size)); have HRQ := Lib.hid (HRQ.out.below hb4); clear c3 l3 c2 l2; have c3 := X3.out.cell; have l3 := X3.out.lt; have c2 := X2.out.cell; have l2 := X2.out.lt; clear hb4)
      | (go_at_call 27; refine Calls.mono (H2.out _ HB4.out) ?_; rintro e w5 ⟨rfl, hb5⟩; have X1 := Lib.hid (X1.out.keep hb5); have X2 := Lib.hid (X2.out.keep hb5); have X3 := Lib.hid (X3.out.keep hb5); have XQ := Lib.hid (XQ.out.keep hb5); have HB5 := Lib.hid (HB4.out.trans (hb5.mono HB4.out.size)); have HRQ := Lib.hid (HRQ.out.below hb5); clear c3 l3 c2 l2; have c3 := X3.out.cell; have l3 := X3.out.lt; have c2 := X2.out.cell; have l2 := X2.out.lt; clear hb5))
      clear c3 l3 c2 l2
      have a0 : w5.cell? ⟨w.heap.size + 1, 0, none⟩ = some (.int .i64 a.w.1) := X2.out.cell 0
      have a1 : w5.cell? ⟨w.heap.size + 1, 1, none⟩ = some (.int .i64 a.w.2) := X2.out.cell 1
      have a2 : w5.cell? ⟨w.heap.size + 1, 2, none⟩ = some (.int .i64 a.t.1) := X2.out.cell 2
      have a3 : w5.cell? ⟨w.heap.size + 1, 3, none⟩ = some (.int .i64 a.t.2) := X2.out.cell 3
      have a4 : w5.cell? ⟨w.heap.size + 1, 4, none⟩ = some (.int .i64 a.h.1) := X2.out.cell 4
      have a5 : w5.cell? ⟨w.heap.size + 1, 5, none⟩ = some (.int .i64 a.h.2) := X2.out.cell 5
      have a6 : w5.cell? ⟨w.heap.size + 1, 6, none⟩ = some (.int .i64 a.v.1) := X2.out.cell 6
      have a7 : w5.cell? ⟨w.heap.size + 1, 7, none⟩ = some (.int .i64 a.v.2) := X2.out.cell 7
      have s0 : w5.cell? ⟨w.heap.size + 1 + 1, 0, none⟩ = some (.int .i64 s.1) := X3.out.cell 0
      have s1 : w5.cell? ⟨w.heap.size + 1 + 1, 1, none⟩ = some (.int .i64 s.2) := X3.out.cell 1
      obtain ⟨Qa, hQa⟩ : ∃ q9 : Nat → Value → World → Prop, q9 = QG [some (.agg QS), some (.agg #[.int .i64 a.w.1, .int .i64 a.w.2, .int .i64 a.t.1, .int .i64 a.t.2, .int .i64 a.h.1, .int .i64 a.h.2, .int .i64 a.v.1, .int .i64 a.v.2]), some (.int .i64 n), some (.agg #[.int .i64 a.w.1, .int .i64 n, .int .i64 a.t.1, .int .i64 a.t.2, .int .i64 a.h.1, .int .i64 a.h.2, .int .i64 a.v.1, .int .i64 a.v.2]), some (.pointer (some ⟨w.heap.size + 1 + 1, 0, none⟩)), some (.agg #[.int .i64 s.1, .int .i64 s.2]), some (.tuple #[.int .i64 NA, .int .i64 0]), some (.tuple #[.int .i64 NA, .int .i64 0]), some (.int .i64 NA), some (.int .i64 0), some (.int .i64 NA), some (.int .i64 0)] (fun _ _ _ => True) := ⟨_, rfl⟩
      have hst : Stays Qa := by rw [hQa]; exact QG.stays (fun _ _ _ _ _ _ => trivial)
      have HQa := Lib.hid hQa
      clear hQa
      refine wpIn_wide.1 (region_inv2 (n := 9) (by kernel_rfl) (RQ Qa w5) (by kernel_rfl) rfl (RQ.start _ _ _) ?hstepa ?henda)
      case hstepa =>
        intro i' o ho val L b' w6 hF hR hpre hl
        match i', ho with
        | 0, ho =>
          simp at ho; subst ho; refine step_plain rfl ?_; have e7 := hF.was 7 (by kernel_rfl) rfl; have hgoal := hR.go hst HQa 0 rfl
          exact inR (XQ.out.keep hR.1) HQZ.out (e7.trans rfl) ⟨_, rfl, hgoal _ _ (Below.refl _ _) rfl⟩
        | 1, ho =>
          simp at ho; subst ho; refine step_plain rfl ?_; have e4 := hF.was 4 (by kernel_rfl) rfl; have hgoal := hR.go hst HQa 1 rfl; have q0 := cell_keep hR.1 a0; have q1 := cell_keep hR.1 a1; have q2 := cell_keep hR.1 a2; have q3 := cell_keep hR.1 a3; have q4 := cell_keep hR.1 a4; have q5 := cell_keep hR.1 a5; have q6 := cell_keep hR.1 a6; have q7 := cell_keep hR.1 a7; clear hF hpre hl hR; go_simp; exact ⟨_, rfl, hgoal _ _ (Below.refl _ _) rfl⟩
        | 2, ho =>
          simp at ho; subst ho; refine step_plain rfl ?_; have e8 := hF.was 8 (by kernel_rfl) rfl; have hgoal := hR.go hst HQa 2 rfl; clear hF hpre hl hR; go_simp; exact ⟨_, rfl, hgoal _ _ (Below.refl _ _) rfl⟩
        | 3, ho =>
          simp at ho; subst ho; refine step_plain rfl ?_; have e52 := hF.gv hR.2 HQa 1 rfl (hpre ⟨1, .data⟩ (by simp) rfl) rfl; have e53 := hF.gv hR.2 HQa 2 rfl (hpre ⟨2, .data⟩ (by simp) rfl) rfl; have hgoal := hR.go hst HQa 3 rfl
          have hM := Lib.hid hR.1
          clear hF hpre hl hR; go_simp
          refine ⟨trivial, ?_⟩
          refine CallsIn.mono (callsIn_wide.2 (up_any a n _)) ?_
          rintro e w9 ⟨rfl, hb9⟩
          exact ⟨_, rfl, hgoal _ _ hb9 rfl⟩
        | 4, ho =>
          simp at ho; subst ho; refine step_plain rfl ?_; have e5 := hF.was 5 (by kernel_rfl) rfl; have hgoal := hR.go hst HQa 4 rfl; clear hF hpre hl hR; go_simp; exact ⟨_, rfl, hgoal _ _ (Below.refl _ _) rfl⟩
        | 5, ho =>
          simp at ho; subst ho; refine step_plain rfl ?_; have e55 := hF.gv hR.2 HQa 4 rfl (hpre ⟨4, .data⟩ (by simp) rfl) rfl; have hgoal := hR.go hst HQa 5 rfl; have q0 := cell_keep hR.1 s0; have q1 := cell_keep hR.1 s1; clear hF hpre hl hR; go_simp; exact ⟨_, rfl, hgoal _ _ (Below.refl _ _) rfl⟩
        | 6, ho =>
          simp at ho; subst ho; refine step_plain rfl ?_; have e51 := hF.gv hR.2 HQa 0 rfl (hpre ⟨0, .data⟩ (by simp) rfl) rfl; have e54 := hF.gv hR.2 HQa 3 rfl (hpre ⟨3, .data⟩ (by simp) rfl) rfl; have e56 := hF.gv hR.2 HQa 5 rfl (hpre ⟨5, .data⟩ (by simp) rfl) rfl; have hgoal := hR.go hst HQa 6 rfl
          have hM := Lib.hid hR.1
          clear hF hpre hl hR; go_simp
          refine ⟨trivial, ?_⟩
          refine CallsIn.mono (callsIn_wide.2 (HN1.out _ (HRQ.out.below hM.out))) ?_
          rintro e w9 ⟨rfl, hb9⟩
          exact ⟨_, rfl, hgoal _ _ hb9 rfl⟩
        | 7, ho =>
          simp at ho; subst ho; refine step_plain rfl ?_; have e57 := hF.gv hR.2 HQa 6 rfl (hpre ⟨6, .data⟩ (by simp) rfl) rfl; have hgoal := hR.go hst HQa 7 rfl; clear hF hpre hl hR; go_simp; exact ⟨_, rfl, hgoal _ _ (Below.refl _ _) rfl⟩
        | 8, ho =>
          simp at ho; subst ho; refine step_plain rfl ?_; have e50 := hF.gv hR.2 HQa 7 rfl (hpre ⟨7, .data⟩ (by simp) rfl) rfl; have hgoal := hR.go hst HQa 8 rfl; clear hF hpre hl hR; go_simp; exact ⟨_, rfl, hgoal _ _ (Below.refl _ _) rfl⟩
        | 9, ho =>
          simp at ho; subst ho; refine step_plain rfl ?_; have e50 := hF.gv hR.2 HQa 7 rfl (hpre ⟨7, .data⟩ (by simp) rfl) rfl; have hgoal := hR.go hst HQa 9 rfl; clear hF hpre hl hR; go_simp; exact ⟨_, rfl, hgoal _ _ (Below.refl _ _) rfl⟩
        | 10, ho =>
          simp at ho; subst ho; refine step_plain rfl ?_; have e58 := hF.gv hR.2 HQa 8 rfl (hpre ⟨8, .data⟩ (by simp) rfl) rfl; have hgoal := hR.go hst HQa 10 rfl; clear hF hpre hl hR; go_simp; exact ⟨_, rfl, hgoal _ _ (Below.refl _ _) rfl⟩
        | 11, ho =>
          simp at ho; subst ho; refine step_plain rfl ?_; have e59 := hF.gv hR.2 HQa 9 rfl (hpre ⟨9, .data⟩ (by simp) rfl) rfl; have hgoal := hR.go hst HQa 11 rfl; clear hF hpre hl hR; go_simp; exact ⟨_, rfl, hgoal _ _ (Below.refl _ _) rfl⟩
        | i + 12, ho => simp at ho
      case henda =>
        intro val L b' w6 hF hall hR
        have e := hF.all (by kernel_rfl) hall
        have ka7 := QG.val HQa rfl (hR.2 7 (hall 7 (by decide)))
        have ka8 := QG.val HQa rfl (hR.2 8 (hall 8 (by decide)))
        have ka9 := QG.val HQa rfl (hR.2 9 (hall 9 (by decide)))
        have ka10 := QG.val HQa rfl (hR.2 10 (hall 10 (by decide)))
        have ka11 := QG.val HQa rfl (hR.2 11 (hall 11 (by decide)))
        have hBa := Lib.hid hR.1
        clear hF hall hR hst HQa 
        subst e
        simp [final, dstOf, List.range, List.range.loop]
        rw [ka7]
        rw [ka8]
        rw [ka9]
        rw [ka10]
        rw [ka11]
        have HB6 := Lib.hid (HB5.out.trans (hBa.out.mono HB5.out.size))
        have X2 := Lib.hid (X2.out.keep hBa.out)
        have X3 := Lib.hid (X3.out.keep hBa.out)
        have XQ := Lib.hid (XQ.out.keep hBa.out)
        have HRQ := Lib.hid (HRQ.out.below hBa.out)
        clear a0 a1 a2 a3 a4 a5 a6 a7 s0 s1 hBa HN1
        have c3 := X3.out.cell
        have l3 := X3.out.lt
        have c2 := X2.out.cell
        have l2 := X2.out.lt
        by_cases hn : n = a.w.2
        · subst hn
          go_wp2_with (first
            | (go_at_call 15; refine Calls.mono (HW.out _) ?_; rintro e w7 ⟨rfl, hb7⟩; have HB7 := Lib.hid (HB6.out.trans (hb7.mono HB6.out.size)); clear hb7))
          go_ret
          exact ⟨rfl, HB7.out⟩
        · obtain ⟨NB, hNB⟩ : ∃ N, mgN r (a.up (n + 1)) s = N := ⟨_, rfl⟩
          have HN2 := Lib.hid (HM.out (n + 1) (by omega) (by omega) NB hNB)
          have hres2 : NB < res := by
            have h := HN4.out (by omega)
            unfold hvP at h
            rw [hNB] at h
            simpa using h
          have hn' : ((n : Int) == a.w.2) = false := by simpa using hn
          have hw9 : IntKind.i64.wrap (n + 1) = n + 1 := IntWalk.i64_in _ (by omega)
          clear hNB hn
          go_upto_region 15 with (fail)
          clear c3 l3 c2 l2
          have a0 : w6.cell? ⟨w.heap.size + 1, 0, none⟩ = some (.int .i64 a.w.1) := X2.out.cell 0
          have a1 : w6.cell? ⟨w.heap.size + 1, 1, none⟩ = some (.int .i64 a.w.2) := X2.out.cell 1
          have a2 : w6.cell? ⟨w.heap.size + 1, 2, none⟩ = some (.int .i64 a.t.1) := X2.out.cell 2
          have a3 : w6.cell? ⟨w.heap.size + 1, 3, none⟩ = some (.int .i64 a.t.2) := X2.out.cell 3
          have a4 : w6.cell? ⟨w.heap.size + 1, 4, none⟩ = some (.int .i64 a.h.1) := X2.out.cell 4
          have a5 : w6.cell? ⟨w.heap.size + 1, 5, none⟩ = some (.int .i64 a.h.2) := X2.out.cell 5
          have a6 : w6.cell? ⟨w.heap.size + 1, 6, none⟩ = some (.int .i64 a.v.1) := X2.out.cell 6
          have a7 : w6.cell? ⟨w.heap.size + 1, 7, none⟩ = some (.int .i64 a.v.2) := X2.out.cell 7
          have s0 : w6.cell? ⟨w.heap.size + 1 + 1, 0, none⟩ = some (.int .i64 s.1) := X3.out.cell 0
          have s1 : w6.cell? ⟨w.heap.size + 1 + 1, 1, none⟩ = some (.int .i64 s.2) := X3.out.cell 1
          obtain ⟨Qb, hQb⟩ : ∃ q9 : Nat → Value → World → Prop, q9 = QG [some (.agg QS), some (.agg #[.int .i64 a.w.1, .int .i64 a.w.2, .int .i64 a.t.1, .int .i64 a.t.2, .int .i64 a.h.1, .int .i64 a.h.2, .int .i64 a.v.1, .int .i64 a.v.2]), some (.int .i64 n), some (.int .i64 (n + 1)), some (.agg #[.int .i64 a.w.1, .int .i64 (n + 1), .int .i64 a.t.1, .int .i64 a.t.2, .int .i64 a.h.1, .int .i64 a.h.2, .int .i64 a.v.1, .int .i64 a.v.2]), some (.pointer (some ⟨w.heap.size + 1 + 1, 0, none⟩)), some (.agg #[.int .i64 s.1, .int .i64 s.2]), some (.tuple #[.int .i64 NB, .int .i64 0]), some (.tuple #[.int .i64 NB, .int .i64 0]), some (.int .i64 NB), some (.int .i64 0), some (.int .i64 NB), some (.int .i64 0)] (fun _ _ _ => True) := ⟨_, rfl⟩
          have hst : Stays Qb := by rw [hQb]; exact QG.stays (fun _ _ _ _ _ _ => trivial)
          have HQb := Lib.hid hQb
          clear hQb
          refine wpIn_wide.1 (region_inv2 (n := 9) (by kernel_rfl) (RQ Qb w6) (by kernel_rfl) rfl (RQ.start _ _ _) ?hstepb ?hendb)
          case hstepb =>
            intro i' o ho val L b' w7 hF hR hpre hl
            match i', ho with
            | 0, ho =>
              simp at ho; subst ho; refine step_plain rfl ?_; have e7 := hF.was 7 (by kernel_rfl) rfl; have hgoal := hR.go hst HQb 0 rfl
              exact inR (XQ.out.keep hR.1) HQZ.out (e7.trans rfl) ⟨_, rfl, hgoal _ _ (Below.refl _ _) rfl⟩
            | 1, ho =>
              simp at ho; subst ho; refine step_plain rfl ?_; have e4 := hF.was 4 (by kernel_rfl) rfl; have hgoal := hR.go hst HQb 1 rfl; have q0 := cell_keep hR.1 a0; have q1 := cell_keep hR.1 a1; have q2 := cell_keep hR.1 a2; have q3 := cell_keep hR.1 a3; have q4 := cell_keep hR.1 a4; have q5 := cell_keep hR.1 a5; have q6 := cell_keep hR.1 a6; have q7 := cell_keep hR.1 a7; clear hF hpre hl hR; go_simp; exact ⟨_, rfl, hgoal _ _ (Below.refl _ _) rfl⟩
            | 2, ho =>
              simp at ho; subst ho; refine step_plain rfl ?_; have e8 := hF.was 8 (by kernel_rfl) rfl; have hgoal := hR.go hst HQb 2 rfl; clear hF hpre hl hR; go_simp; exact ⟨_, rfl, hgoal _ _ (Below.refl _ _) rfl⟩
            | 3, ho =>
              simp at ho; subst ho; refine step_plain rfl ?_; have e77 := hF.gv hR.2 HQb 2 rfl (hpre ⟨2, .data⟩ (by simp) rfl) rfl; have hgoal := hR.go hst HQb 3 rfl; clear hF hpre hl hR; go_simp; exact ⟨_, rfl, hgoal _ _ (Below.refl _ _) rfl⟩
            | 4, ho =>
              simp at ho; subst ho; refine step_plain rfl ?_; have e76 := hF.gv hR.2 HQb 1 rfl (hpre ⟨1, .data⟩ (by simp) rfl) rfl; have e78 := hF.gv hR.2 HQb 3 rfl (hpre ⟨3, .data⟩ (by simp) rfl) rfl; have hgoal := hR.go hst HQb 4 rfl
              have hM := Lib.hid hR.1
              clear hF hpre hl hR; go_simp
              refine ⟨trivial, ?_⟩
              refine CallsIn.mono (callsIn_wide.2 (up_any a (n + 1) _)) ?_
              rintro e w9 ⟨rfl, hb9⟩
              exact ⟨_, rfl, hgoal _ _ hb9 rfl⟩
            | 5, ho =>
              simp at ho; subst ho; refine step_plain rfl ?_; have e5 := hF.was 5 (by kernel_rfl) rfl; have hgoal := hR.go hst HQb 5 rfl; clear hF hpre hl hR; go_simp; exact ⟨_, rfl, hgoal _ _ (Below.refl _ _) rfl⟩
            | 6, ho =>
              simp at ho; subst ho; refine step_plain rfl ?_; have e80 := hF.gv hR.2 HQb 5 rfl (hpre ⟨5, .data⟩ (by simp) rfl) rfl; have hgoal := hR.go hst HQb 6 rfl; have q0 := cell_keep hR.1 s0; have q1 := cell_keep hR.1 s1; clear hF hpre hl hR; go_simp; exact ⟨_, rfl, hgoal _ _ (Below.refl _ _) rfl⟩
            | 7, ho =>
              simp at ho; subst ho; refine step_plain rfl ?_; have e75 := hF.gv hR.2 HQb 0 rfl (hpre ⟨0, .data⟩ (by simp) rfl) rfl; have e79 := hF.gv hR.2 HQb 4 rfl (hpre ⟨4, .data⟩ (by simp) rfl) rfl; have e81 := hF.gv hR.2 HQb 6 rfl (hpre ⟨6, .data⟩ (by simp) rfl) rfl; have hgoal := hR.go hst HQb 7 rfl
              have hM := Lib.hid hR.1
              clear hF hpre hl hR; go_simp
              refine ⟨trivial, ?_⟩
              refine CallsIn.mono (callsIn_wide.2 (HN2.out _ (HRQ.out.below hM.out))) ?_
              rintro e w9 ⟨rfl, hb9⟩
              exact ⟨_, rfl, hgoal _ _ hb9 rfl⟩
            | 8, ho =>
              simp at ho; subst ho; refine step_plain rfl ?_; have e82 := hF.gv hR.2 HQb 7 rfl (hpre ⟨7, .data⟩ (by simp) rfl) rfl; have hgoal := hR.go hst HQb 8 rfl; clear hF hpre hl hR; go_simp; exact ⟨_, rfl, hgoal _ _ (Below.refl _ _) rfl⟩
            | 9, ho =>
              simp at ho; subst ho; refine step_plain rfl ?_; have e74 := hF.gv hR.2 HQb 8 rfl (hpre ⟨8, .data⟩ (by simp) rfl) rfl; have hgoal := hR.go hst HQb 9 rfl; clear hF hpre hl hR; go_simp; exact ⟨_, rfl, hgoal _ _ (Below.refl _ _) rfl⟩
            | 10, ho =>
              simp at ho; subst ho; refine step_plain rfl ?_; have e74 := hF.gv hR.2 HQb 8 rfl (hpre ⟨8, .data⟩ (by simp) rfl) rfl; have hgoal := hR.go hst HQb 10 rfl; clear hF hpre hl hR; go_simp; exact ⟨_, rfl, hgoal _ _ (Below.refl _ _) rfl⟩
            | 11, ho =>
              simp at ho; subst ho; refine step_plain rfl ?_; have e83 := hF.gv hR.2 HQb 9 rfl (hpre ⟨9, .data⟩ (by simp) rfl) rfl; have hgoal := hR.go hst HQb 11 rfl; clear hF hpre hl hR; go_simp; exact ⟨_, rfl, hgoal _ _ (Below.refl _ _) rfl⟩
            | 12, ho =>
              simp at ho; subst ho; refine step_plain rfl ?_; have e84 := hF.gv hR.2 HQb 10 rfl (hpre ⟨10, .data⟩ (by simp) rfl) rfl; have hgoal := hR.go hst HQb 12 rfl; clear hF hpre hl hR; go_simp; exact ⟨_, rfl, hgoal _ _ (Below.refl _ _) rfl⟩
            | i + 13, ho => simp at ho
          case hendb =>
            intro val L b' w7 hF hall hR
            have e := hF.all (by kernel_rfl) hall
            have kb8 := QG.val HQb rfl (hR.2 8 (hall 8 (by decide)))
            have kb9 := QG.val HQb rfl (hR.2 9 (hall 9 (by decide)))
            have kb10 := QG.val HQb rfl (hR.2 10 (hall 10 (by decide)))
            have kb11 := QG.val HQb rfl (hR.2 11 (hall 11 (by decide)))
            have kb12 := QG.val HQb rfl (hR.2 12 (hall 12 (by decide)))
            have hBb := Lib.hid hR.1
            clear hF hall hR hst HQb 
            subst e
            simp [final, dstOf, List.range, List.range.loop]
            rw [kb8]
            rw [kb9]
            rw [kb10]
            rw [kb11]
            rw [kb12]
            have HB7 := Lib.hid (HB6.out.trans (hBb.out.mono HB6.out.size))
            have X3 := Lib.hid (X3.out.keep hBb.out)
            clear a0 a1 a2 a3 a4 a5 a6 a7 s0 s1 hBb HN2
            have c3 := X3.out.cell
            have l3 := X3.out.lt
            go_wp2_with (first
              | (go_at_call 15; refine Calls.mono (HW.out _) ?_; rintro e w8 ⟨rfl, hb8⟩; have HB8 := Lib.hid (HB7.out.trans (hb8.mono HB7.out.size)); clear hb8))
            go_ret
            exact ⟨rfl, HB8.out⟩
    · generalize hvN r a s res = hn at *
      obtain ⟨n, ne⟩ := hn
      dsimp only at H1 H2 hz
      have hz' : (ne != 0) = true := by rw [bne_iff_ne]; exact hz
      go_wp2_with (first
      | ((with_reducible refine ldR X1.out HSZ.out ?_ ?_); rfl)
      | ((with_reducible refine ldR X1.out.old HSZ.out ?_ ?_); rfl)
      | ((with_reducible refine ldR XQ.out HQZ.out ?_ ?_); rfl)
      | ((with_reducible refine ldR XQ.out.old HQZ.out ?_ ?_); rfl)
      | ((with_reducible refine ldA X2.out ?_ ?_ ?_); rfl; rfl)
      | ((with_reducible refine ldA X2.out.old ?_ ?_ ?_); rfl; rfl)
      | (go_at_call 26; refine Calls.mono (H1.out _ HRQ.out) ?_; rintro e w4 ⟨rfl, hb4⟩; have X1 := Lib.hid (X1.out.keep hb4); have X2 := Lib.hid (X2.out.keep hb4); have X3 := Lib.hid (X3.out.keep hb4); have XQ := Lib.hid (XQ.out.keep hb4); have HB4 := Lib.hid (HB3.out.trans (hb4.mono HB3.out.size)); have HRQ := Lib.hid (HRQ.out.below hb4); clear c3 l3 c2 l2; have c3 := X3.out.cell; have l3 := X3.out.lt; have c2 := X2.out.cell; have l2 := X2.out.lt; clear hb4)
      | (go_at_call 27; refine Calls.mono (H2.out _ HB4.out) ?_; rintro e w5 ⟨rfl, hb5⟩; have X1 := Lib.hid (X1.out.keep hb5); have X2 := Lib.hid (X2.out.keep hb5); have X3 := Lib.hid (X3.out.keep hb5); have XQ := Lib.hid (XQ.out.keep hb5); have HB5 := Lib.hid (HB4.out.trans (hb5.mono HB4.out.size)); have HRQ := Lib.hid (HRQ.out.below hb5); clear c3 l3 c2 l2; have c3 := X3.out.cell; have l3 := X3.out.lt; have c2 := X2.out.cell; have l2 := X2.out.lt; clear hb5)
      | (go_at_call 15; refine Calls.mono (HW.out _) ?_; rintro e w6 ⟨rfl, hb6⟩; have HB6 := Lib.hid (HB5.out.trans (hb6.mono HB5.out.size)); clear hb6))
      go_ret
      exact ⟨rfl, HB6.out⟩
end Go.Proofs.Ythhokiigdgpmcaa

/- Arguments of layer 2's laws, opened: a load, a sinking. -/
namespace Go.Proofs.Ythhokiigdgpmcaa
open Go.RowKit Go.WideShapes Go.ChangeShapes Go.ChangeAt Go.Joins Go.Deep

set_option maxRecDepth 100000
section
variable {H : Type} {enc : TypeId × Value → H}
theorem arrD3 {cs : Array Value} (h : cs.size = 3) : ∃ a b c, cs = #[a, b, c] :=
  ⟨cs[0], cs[1], cs[2], by
    apply Array.ext (by simp [h])
    intro i h1 h2
    simp at h2
    match i, h2 with
    | 0, _ => rfl
    | 1, _ => rfl
    | 2, _ => rfl⟩
theorem arrD4 {cs : Array Value} (h : cs.size = 4) : ∃ a b c d, cs = #[a, b, c, d] :=
  ⟨cs[0], cs[1], cs[2], cs[3], by
    apply Array.ext (by simp [h])
    intro i h1 h2
    simp at h2
    match i, h2 with
    | 0, _ => rfl
    | 1, _ => rfl
    | 2, _ => rfl
    | 3, _ => rfl⟩
theorem cells_load : Try.prog.cellsOf 45 = 3 := by kernel_rfl
theorem cells_sink : Try.prog.cellsOf 53 = 4 := by kernel_rfl
theorem load_open {w : World} {base : Nat} {spare : Nat → Bool} {held : Bool} {r : Reach} {b0 : Nat} {v : Value} {d : DataW H} {p : List MemPlace}
    (hv : Value.okWide Try.prog w r b0 45 v) (h : DataW.Trod enc Try.prog w base spare held 45 v d p) : ∃ (s : Int × Int) (n : Int), v = .agg #[.int .i64 s.1, .int .i64 s.2, .int .i64 n] := by
  obtain ⟨cs, rfl, hsz⟩ := okWide_struct Try.underlying45 hv
  obtain ⟨c0, c1, c2, rfl⟩ := arrD3 (hsz.trans cells_load)
  obtain ⟨fuel, hf⟩ := h
  obtain ⟨y0, y1, n, _, _, h0, h1⟩ := trod_struct2 Try.underlying45 hf
  simp only [cells_intD, cells_spD] at h0 h1
  obtain ⟨s, e0, e1⟩ := span_cellsD (c0 := c0) (c1 := c1) (by simpa [Value.cells] using h0)
  obtain ⟨m, e2, _, _⟩ := DataW.trod_int Try.underlying3 (by simpa [Value.cells] using h1)
  simp at e2
  subst e0 e1 e2
  exact ⟨s, m, rfl⟩
theorem sinking_open {w : World} {base : Nat} {spare : Nat → Bool} {held : Bool} {r : Reach} {b0 : Nat} {v : Value} {d : DataW H} {p : List MemPlace}
    (hv : Value.okWide Try.prog w r b0 53 v) (h : DataW.Trod enc Try.prog w base spare held 53 v d p) : ∃ (s u : Int × Int), v = .agg #[.int .i64 s.1, .int .i64 s.2, .int .i64 u.1, .int .i64 u.2] := by
  obtain ⟨cs, rfl, hsz⟩ := okWide_struct Try.underlying53 hv
  obtain ⟨c0, c1, c2, c3, rfl⟩ := arrD4 (hsz.trans cells_sink)
  obtain ⟨fuel, hf⟩ := h
  obtain ⟨y0, y1, n, _, _, h0, h1⟩ := trod_struct2 Try.underlying53 hf
  simp only [cells_spD] at h0 h1
  obtain ⟨s, e0, e1⟩ := span_cellsD (c0 := c0) (c1 := c1) (by simpa [Value.cells] using h0)
  obtain ⟨u, e2, e3⟩ := span_cellsD (c0 := c2) (c1 := c3) (by simpa [Value.cells] using h1)
  subst e0 e1 e2 e3
  exact ⟨s, u, rfl⟩
theorem int_openD {w : World} {base : Nat} {spare : Nat → Bool} {held : Bool} {r : Reach} {b0 : Nat} {v : Value} {d : DataW H} {p : List MemPlace}
    (hv : Value.okWide Try.prog w r b0 3 v) (_ : DataW.Trod enc Try.prog w base spare held 3 v d p) : ∃ n : Int, v = .int .i64 n := by
  obtain ⟨n, e⟩ := okWide_int Try.underlying3 hv
  exact ⟨n, e⟩
end
end Go.Proofs.Ythhokiigdgpmcaa

/- swashplatelaw02.RotorHeaviest returns true at every input, and the input reads as it did: no condition. -/
namespace Go.Proofs.Ythhokiigdgpmcaa
open Go.RowKit Go.WideShapes Go.ChangeShapes Go.ChangeAt Go.Joins

set_option maxRecDepth 100000 in
theorem heaviest_lifted (os : Os) (started : os.Started) (H : Type) (enc : TypeId × Value → H) :
    ReturnsInHanded {} Try.checked os 5 .any (Rows.rotorHeaviestSpec.pre6 enc Try.prog Try.f5 Rows.rotorHeaviestRow.domain false) (Rows.rotorHeaviestSpec.post enc Try.prog Try.f5 false true false false) := by
  refine returnsInHanded_of_change (C := Try.checked) own started (by kernel_rfl) Try.func5
    (ChangeSpec.witness6 (enc := enc) (C := Try.checked) false ⟨#[], #[.agg #[.slice none 0 0, .slice none 0 0, .slice none 0 0, .slice none 0 0, .slice none 0 0, .slice none 0 0, .slice none 0 0, .slice none 0 0, .slice none 0 0, .slice none 0 0, .slice none 0 0, .slice none 0 0, .slice none 0 0, .slice none 0 0, .slice none 0 0, .slice none 0 0, .slice none 0 0, .slice none 0 0, .slice none 0 0, .slice none 0 0, .slice none 0 0, .slice none 0 0, .slice none 0 0, .slice none 0 0, .int .i64 0, .int .i64 0], .agg #[.int .i64 0, .int .i64 0, .int .i64 0, .int .i64 0, .int .i64 0, .int .i64 0, .int .i64 0, .int .i64 0], .agg #[.int .i64 0, .int .i64 0, .int .i64 0]], []⟩ 8 (by kernel_rfl) (by kernel_rfl) (by kernel_rfl) (by kernel_rfl)) ?_
  intro W base args ds gs before hval0 hW hcnd _
  have hval : ∀ (j : Nat) t v, Try.f5.params[j]? = some t → args[j]? = some v → Value.okWide Try.prog W .any base t v := hval0
  have hW' := hW
  obtain ⟨p, q, hA0, hV, rfl, hfz, hnd⟩ := hW
  have hA : DataW.TrodAll enc Try.prog W 0 (fun _ => true) true Try.f5.params.toList args.toList ds p := hA0
  rw [Try.params5] at hA hval
  obtain ⟨v0, v1, v2, d0, d1, d2, p0, p1, p2, rfl, rfl, rfl, h0, h1, h2⟩ := trodAll_three hA
  obtain ⟨rfl, rfl⟩ := trodVars_none hV
  obtain ⟨r0, rfl, rg0⟩ := rotor_open (hval 0 27 v0 rfl rfl) h0
  obtain ⟨a1, rfl⟩ := air_open (hval 1 36 v1 rfl rfl) h1
  obtain ⟨s2, n2, rfl⟩ := load_open (hval 2 45 v2 rfl rfl) h2
  clear hA0 hval0
  simp only [List.append_nil] at hW'
  have hlt : ∀ x ∈ p0 ++ p1 ++ p2, x.block < W.heap.size := fun x hx => hW'.lt x hx
  refine (law_heaviest works2_any W r0 rg0 a1 s2 n2).mono fun e W' ⟨he, hb⟩ => ?_
  subst he
  exact ⟨_, rfl, law_post hW' (by kernel_rfl) Try.underlying4 rfl rfl (fun sp hsp => (by simp only [List.append_assoc]; exact trodAll_mk3 (again (by kernel_rfl) (of_decide_eq_true (by kernel_rfl)) h0 hb (fun x hx => hlt x (List.mem_append_left _ (List.mem_append_left _ hx))) (fun x hx => hsp x (List.mem_append_left _ (List.mem_append_left _ hx)))) (again (by kernel_rfl) (of_decide_eq_true (by kernel_rfl)) h1 hb (fun x hx => hlt x (List.mem_append_left _ (List.mem_append_right _ hx))) (fun x hx => hsp x (List.mem_append_left _ (List.mem_append_right _ hx)))) (again (by kernel_rfl) (of_decide_eq_true (by kernel_rfl)) h2 hb (fun x hx => hlt x (List.mem_append_right _ hx)) (fun x hx => hsp x (List.mem_append_right _ hx))))) hb⟩

theorem heaviest_holds : Rows.RotorHeaviestSaid :=
  OpenClaim.holds_of_wide 5 Try.f5 rfl rfl rfl rfl rfl rfl rfl ⟨rfl, rfl, rfl, rfl, rfl⟩ rfl rfl rfl rfl rfl (by kernel_rfl) Try.func5 (by kernel_rfl)
    (of_decide_eq_true (by kernel_rfl)) (by unfold Func.isWrapper; first | (rw [if_pos (by decide +kernel)]; kernel_rfl) | (rw [if_neg (by decide +kernel)]; exact ⟨rfl, rfl⟩))
    (fun os started H enc _ => heaviest_lifted os started H enc)
#print axioms heaviest_holds

end Go.Proofs.Ythhokiigdgpmcaa

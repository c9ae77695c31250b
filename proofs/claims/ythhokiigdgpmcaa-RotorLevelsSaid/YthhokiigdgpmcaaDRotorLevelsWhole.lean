/- swashplatelaw02.RotorLevels returns true at every input, and the input reads as it did: no condition. -/
import Derived.Test.YthhokiigdgpmcaaM12
import Derived.Test.YthhokiigdgpmcaaM7
import Derived.Test.YthhokiigdgpmcaaM9
import Derived.Test.YthhokiigdgpmcaaM3
import Derived.Test.YthhokiigdgpmcaaM10
import Derived.Test.YthhokiigdgpmcaaM5

/- CheckAir, lies, bound, up of layer 2's reference. -/
namespace Go.Proofs.Ythhokiigdgpmcaa
open Go.RowKit

set_option maxRecDepth 100000
theorem rvalS_any (s : Int × Int) (w : World) : Calls Try.prog 43 #[.agg #[.int .i64 s.1, .int .i64 s.2]] w fun e w' => e = .returned (.bool (vS s)) ∧ Below w.heap.size w w' := by
  rw [vS_vI' s]
  exact rvalid_any s.1 s.2 w

theorem cair_f0 (r : RO) (a : AI) (CS : Array Value) (w : World) (rg : RG w r) (hc : CS = #[.slice r.h.ax r.h.X.length r.h.cx, .slice r.h.ay r.h.Y.length r.h.cy, .slice r.h.av r.h.V.length r.h.cv, .slice r.g.ax r.g.X.length r.g.cx, .slice r.g.ay r.g.Y.length r.g.cy, .slice r.g.av r.g.V.length r.g.cv, .slice r.l.ax r.l.X.length r.l.cx, .slice r.l.ay r.l.Y.length r.l.cy, .slice r.l.av r.l.V.length r.l.cv, .slice r.p.ax r.p.X.length r.p.cx, .slice r.p.ay r.p.Y.length r.p.cy, .slice r.p.av r.p.V.length r.p.cv, .slice r.n.ax r.n.X.length r.n.cx, .slice r.n.ay r.n.Y.length r.n.cy, .slice r.n.av r.n.V.length r.n.cv, .slice r.a.ax r.a.X.length r.a.cx, .slice r.a.ay r.a.Y.length r.a.cy, .slice r.a.av r.a.V.length r.a.cv, .slice r.b.ax r.b.X.length r.b.cx, .slice r.b.ay r.b.Y.length r.b.cy, .slice r.b.av r.b.V.length r.b.cv, .slice r.d.ax r.d.X.length r.d.cx, .slice r.d.ay r.d.Y.length r.d.cy, .slice r.d.av r.d.V.length r.d.cv, .int .i64 r.cl, .int .i64 r.bu]) (h : r.ok = false) : Calls Try.prog 42 #[.agg CS, .agg #[.int .i64 a.w.1, .int .i64 a.w.2, .int .i64 a.t.1, .int .i64 a.t.2, .int .i64 a.h.1, .int .i64 a.h.2, .int .i64 a.v.1, .int .i64 a.v.2]] w fun e w' => e = .returned (.int .i64 20) ∧ Below w.heap.size w w' := by
  have HCK := Lib.hid (fun (W : World) (hW : Below w.heap.size w W) => show Calls Try.prog 18 #[.agg CS] W fun e w' => e = .returned (.int .i64 20) ∧ Below W.heap.size W w' by
    have := rrotcheck_any r W (rg.below hW)
    rw [show r.err = 20 by unfold RO.err; rw [h]; rfl, ← hc] at this
    exact this)
  have HSZ := Lib.hid (show CS.size = 26 by rw [hc]; rfl)
  have X1 := Lib.hid ((BK.new (w := w) (cs := CS) (T := 27)).old (x := .cells #[.int .i64 a.w.1, .int .i64 a.w.2, .int .i64 a.t.1, .int .i64 a.t.2, .int .i64 a.h.1, .int .i64 a.h.2, .int .i64 a.v.1, .int .i64 a.v.2] 36))
  have X2 := Lib.hid (BK.newg (w := w.alloc (.cells CS 27)) (g := w.heap.size + 1) (cs := #[.int .i64 a.w.1, .int .i64 a.w.2, .int .i64 a.t.1, .int .i64 a.t.2, .int .i64 a.h.1, .int .i64 a.h.2, .int .i64 a.v.1, .int .i64 a.v.2]) (T := 36) (by simp))
  have HB := Lib.hid (show Below w.heap.size w ((w.alloc (.cells CS 27)).alloc (.cells #[.int .i64 a.w.1, .int .i64 a.w.2, .int .i64 a.t.1, .int .i64 a.t.2, .int .i64 a.h.1, .int .i64 a.h.2, .int .i64 a.v.1, .int .i64 a.v.2] 36)) by go_grown)
  clear rg hc h
  go_enter Try.func42, Try.ntmps42
  go_wp2_with (first
    | ((with_reducible refine ldR X1.out HSZ.out ?_ ?_); rfl)
    | (go_at_call 18; refine Calls.mono (HCK.out _ HB.out) ?_; rintro e w1 ⟨rfl, hb1⟩; have HB1 := Lib.hid (HB.out.trans (hb1.mono HB.out.size)); clear hb1))
  go_ret
  exact ⟨rfl, HB1.out⟩
theorem cair_f1 (r : RO) (a : AI) (CS : Array Value) (w : World) (rg : RG w r) (hc : CS = #[.slice r.h.ax r.h.X.length r.h.cx, .slice r.h.ay r.h.Y.length r.h.cy, .slice r.h.av r.h.V.length r.h.cv, .slice r.g.ax r.g.X.length r.g.cx, .slice r.g.ay r.g.Y.length r.g.cy, .slice r.g.av r.g.V.length r.g.cv, .slice r.l.ax r.l.X.length r.l.cx, .slice r.l.ay r.l.Y.length r.l.cy, .slice r.l.av r.l.V.length r.l.cv, .slice r.p.ax r.p.X.length r.p.cx, .slice r.p.ay r.p.Y.length r.p.cy, .slice r.p.av r.p.V.length r.p.cv, .slice r.n.ax r.n.X.length r.n.cx, .slice r.n.ay r.n.Y.length r.n.cy, .slice r.n.av r.n.V.length r.n.cv, .slice r.a.ax r.a.X.length r.a.cx, .slice r.a.ay r.a.Y.length r.a.cy, .slice r.a.av r.a.V.length r.a.cv, .slice r.b.ax r.b.X.length r.b.cx, .slice r.b.ay r.b.Y.length r.b.cy, .slice r.b.av r.b.V.length r.b.cv, .slice r.d.ax r.d.X.length r.d.cx, .slice r.d.ay r.d.Y.length r.d.cy, .slice r.d.av r.d.V.length r.d.cv, .int .i64 r.cl, .int .i64 r.bu]) (h : r.ok = true) (e1 : vS a.w = false) : Calls Try.prog 42 #[.agg CS, .agg #[.int .i64 a.w.1, .int .i64 a.w.2, .int .i64 a.t.1, .int .i64 a.t.2, .int .i64 a.h.1, .int .i64 a.h.2, .int .i64 a.v.1, .int .i64 a.v.2]] w fun e w' => e = .returned (.int .i64 21) ∧ Below w.heap.size w w' := by
  have HCK := Lib.hid (fun (W : World) (hW : Below w.heap.size w W) => show Calls Try.prog 18 #[.agg CS] W fun e w' => e = .returned (.int .i64 0) ∧ Below W.heap.size W w' by
    have := rrotcheck_any r W (rg.below hW)
    rw [show r.err = 0 by unfold RO.err; rw [h]; rfl, ← hc] at this
    exact this)
  have H1 := Lib.hid (fun (W : World) => rvalS_any a.w W)
  rw [e1] at H1
  have HSZ := Lib.hid (show CS.size = 26 by rw [hc]; rfl)
  have X1 := Lib.hid ((BK.new (w := w) (cs := CS) (T := 27)).old (x := .cells #[.int .i64 a.w.1, .int .i64 a.w.2, .int .i64 a.t.1, .int .i64 a.t.2, .int .i64 a.h.1, .int .i64 a.h.2, .int .i64 a.v.1, .int .i64 a.v.2] 36))
  have X2 := Lib.hid (BK.newg (w := w.alloc (.cells CS 27)) (g := w.heap.size + 1) (cs := #[.int .i64 a.w.1, .int .i64 a.w.2, .int .i64 a.t.1, .int .i64 a.t.2, .int .i64 a.h.1, .int .i64 a.h.2, .int .i64 a.v.1, .int .i64 a.v.2]) (T := 36) (by simp))
  have HB := Lib.hid (show Below w.heap.size w ((w.alloc (.cells CS 27)).alloc (.cells #[.int .i64 a.w.1, .int .i64 a.w.2, .int .i64 a.t.1, .int .i64 a.t.2, .int .i64 a.h.1, .int .i64 a.h.2, .int .i64 a.v.1, .int .i64 a.v.2] 36)) by go_grown)
  clear rg hc h e1
  go_enter Try.func42, Try.ntmps42
  go_wp2_with (first
    | ((with_reducible refine ldR X1.out HSZ.out ?_ ?_); rfl)
    | (go_at_call 18; refine Calls.mono (HCK.out _ HB.out) ?_; rintro e w0 ⟨rfl, hb0⟩; have HB0 := Lib.hid (HB.out.trans (hb0.mono HB.out.size)); have K0 := X2.out.keep hb0; have c0 := K0.cell; have l0 := K0.lt; clear hb0)
    | (go_at_call_of 43 (Value.agg #[.int .i64 a.w.1, .int .i64 a.w.2]); refine Calls.mono (H1.out _) ?_; rintro e w1 ⟨rfl, hb1⟩; have HB1 := Lib.hid (HB0.out.trans (hb1.mono HB0.out.size)); have K1 := K0.keep hb1; have c1 := K1.cell; have l1 := K1.lt; clear hb1 c0 l0))
  go_ret
  exact ⟨rfl, HB1.out⟩
theorem cair_f2 (r : RO) (a : AI) (CS : Array Value) (w : World) (rg : RG w r) (hc : CS = #[.slice r.h.ax r.h.X.length r.h.cx, .slice r.h.ay r.h.Y.length r.h.cy, .slice r.h.av r.h.V.length r.h.cv, .slice r.g.ax r.g.X.length r.g.cx, .slice r.g.ay r.g.Y.length r.g.cy, .slice r.g.av r.g.V.length r.g.cv, .slice r.l.ax r.l.X.length r.l.cx, .slice r.l.ay r.l.Y.length r.l.cy, .slice r.l.av r.l.V.length r.l.cv, .slice r.p.ax r.p.X.length r.p.cx, .slice r.p.ay r.p.Y.length r.p.cy, .slice r.p.av r.p.V.length r.p.cv, .slice r.n.ax r.n.X.length r.n.cx, .slice r.n.ay r.n.Y.length r.n.cy, .slice r.n.av r.n.V.length r.n.cv, .slice r.a.ax r.a.X.length r.a.cx, .slice r.a.ay r.a.Y.length r.a.cy, .slice r.a.av r.a.V.length r.a.cv, .slice r.b.ax r.b.X.length r.b.cx, .slice r.b.ay r.b.Y.length r.b.cy, .slice r.b.av r.b.V.length r.b.cv, .slice r.d.ax r.d.X.length r.d.cx, .slice r.d.ay r.d.Y.length r.d.cy, .slice r.d.av r.d.V.length r.d.cv, .int .i64 r.cl, .int .i64 r.bu]) (h : r.ok = true) (e1 : vS a.w = true) (e2 : vS a.t = false) : Calls Try.prog 42 #[.agg CS, .agg #[.int .i64 a.w.1, .int .i64 a.w.2, .int .i64 a.t.1, .int .i64 a.t.2, .int .i64 a.h.1, .int .i64 a.h.2, .int .i64 a.v.1, .int .i64 a.v.2]] w fun e w' => e = .returned (.int .i64 21) ∧ Below w.heap.size w w' := by
  have HCK := Lib.hid (fun (W : World) (hW : Below w.heap.size w W) => show Calls Try.prog 18 #[.agg CS] W fun e w' => e = .returned (.int .i64 0) ∧ Below W.heap.size W w' by
    have := rrotcheck_any r W (rg.below hW)
    rw [show r.err = 0 by unfold RO.err; rw [h]; rfl, ← hc] at this
    exact this)
  have H1 := Lib.hid (fun (W : World) => rvalS_any a.w W)
  rw [e1] at H1
  have H2 := Lib.hid (fun (W : World) => rvalS_any a.t W)
  rw [e2] at H2
  have HSZ := Lib.hid (show CS.size = 26 by rw [hc]; rfl)
  have X1 := Lib.hid ((BK.new (w := w) (cs := CS) (T := 27)).old (x := .cells #[.int .i64 a.w.1, .int .i64 a.w.2, .int .i64 a.t.1, .int .i64 a.t.2, .int .i64 a.h.1, .int .i64 a.h.2, .int .i64 a.v.1, .int .i64 a.v.2] 36))
  have X2 := Lib.hid (BK.newg (w := w.alloc (.cells CS 27)) (g := w.heap.size + 1) (cs := #[.int .i64 a.w.1, .int .i64 a.w.2, .int .i64 a.t.1, .int .i64 a.t.2, .int .i64 a.h.1, .int .i64 a.h.2, .int .i64 a.v.1, .int .i64 a.v.2]) (T := 36) (by simp))
  have HB := Lib.hid (show Below w.heap.size w ((w.alloc (.cells CS 27)).alloc (.cells #[.int .i64 a.w.1, .int .i64 a.w.2, .int .i64 a.t.1, .int .i64 a.t.2, .int .i64 a.h.1, .int .i64 a.h.2, .int .i64 a.v.1, .int .i64 a.v.2] 36)) by go_grown)
  clear rg hc h e1 e2
  go_enter Try.func42, Try.ntmps42
  go_wp2_with (first
    | ((with_reducible refine ldR X1.out HSZ.out ?_ ?_); rfl)
    | (go_at_call 18; refine Calls.mono (HCK.out _ HB.out) ?_; rintro e w0 ⟨rfl, hb0⟩; have HB0 := Lib.hid (HB.out.trans (hb0.mono HB.out.size)); have K0 := X2.out.keep hb0; have c0 := K0.cell; have l0 := K0.lt; clear hb0)
    | (go_at_call_of 43 (Value.agg #[.int .i64 a.w.1, .int .i64 a.w.2]); refine Calls.mono (H1.out _) ?_; rintro e w1 ⟨rfl, hb1⟩; have HB1 := Lib.hid (HB0.out.trans (hb1.mono HB0.out.size)); have K1 := K0.keep hb1; have c1 := K1.cell; have l1 := K1.lt; clear hb1 c0 l0)
    | (go_at_call_of 43 (Value.agg #[.int .i64 a.t.1, .int .i64 a.t.2]); refine Calls.mono (H2.out _) ?_; rintro e w2 ⟨rfl, hb2⟩; have HB2 := Lib.hid (HB1.out.trans (hb2.mono HB1.out.size)); have K2 := K1.keep hb2; have c2 := K2.cell; have l2 := K2.lt; clear hb2 c1 l1))
  go_ret
  exact ⟨rfl, HB2.out⟩
theorem cair_f3 (r : RO) (a : AI) (CS : Array Value) (w : World) (rg : RG w r) (hc : CS = #[.slice r.h.ax r.h.X.length r.h.cx, .slice r.h.ay r.h.Y.length r.h.cy, .slice r.h.av r.h.V.length r.h.cv, .slice r.g.ax r.g.X.length r.g.cx, .slice r.g.ay r.g.Y.length r.g.cy, .slice r.g.av r.g.V.length r.g.cv, .slice r.l.ax r.l.X.length r.l.cx, .slice r.l.ay r.l.Y.length r.l.cy, .slice r.l.av r.l.V.length r.l.cv, .slice r.p.ax r.p.X.length r.p.cx, .slice r.p.ay r.p.Y.length r.p.cy, .slice r.p.av r.p.V.length r.p.cv, .slice r.n.ax r.n.X.length r.n.cx, .slice r.n.ay r.n.Y.length r.n.cy, .slice r.n.av r.n.V.length r.n.cv, .slice r.a.ax r.a.X.length r.a.cx, .slice r.a.ay r.a.Y.length r.a.cy, .slice r.a.av r.a.V.length r.a.cv, .slice r.b.ax r.b.X.length r.b.cx, .slice r.b.ay r.b.Y.length r.b.cy, .slice r.b.av r.b.V.length r.b.cv, .slice r.d.ax r.d.X.length r.d.cx, .slice r.d.ay r.d.Y.length r.d.cy, .slice r.d.av r.d.V.length r.d.cv, .int .i64 r.cl, .int .i64 r.bu]) (h : r.ok = true) (e1 : vS a.w = true) (e2 : vS a.t = true) (e3 : vS a.h = false) : Calls Try.prog 42 #[.agg CS, .agg #[.int .i64 a.w.1, .int .i64 a.w.2, .int .i64 a.t.1, .int .i64 a.t.2, .int .i64 a.h.1, .int .i64 a.h.2, .int .i64 a.v.1, .int .i64 a.v.2]] w fun e w' => e = .returned (.int .i64 21) ∧ Below w.heap.size w w' := by
  have HCK := Lib.hid (fun (W : World) (hW : Below w.heap.size w W) => show Calls Try.prog 18 #[.agg CS] W fun e w' => e = .returned (.int .i64 0) ∧ Below W.heap.size W w' by
    have := rrotcheck_any r W (rg.below hW)
    rw [show r.err = 0 by unfold RO.err; rw [h]; rfl, ← hc] at this
    exact this)
  have H1 := Lib.hid (fun (W : World) => rvalS_any a.w W)
  rw [e1] at H1
  have H2 := Lib.hid (fun (W : World) => rvalS_any a.t W)
  rw [e2] at H2
  have H3 := Lib.hid (fun (W : World) => rvalS_any a.h W)
  rw [e3] at H3
  have HSZ := Lib.hid (show CS.size = 26 by rw [hc]; rfl)
  have X1 := Lib.hid ((BK.new (w := w) (cs := CS) (T := 27)).old (x := .cells #[.int .i64 a.w.1, .int .i64 a.w.2, .int .i64 a.t.1, .int .i64 a.t.2, .int .i64 a.h.1, .int .i64 a.h.2, .int .i64 a.v.1, .int .i64 a.v.2] 36))
  have X2 := Lib.hid (BK.newg (w := w.alloc (.cells CS 27)) (g := w.heap.size + 1) (cs := #[.int .i64 a.w.1, .int .i64 a.w.2, .int .i64 a.t.1, .int .i64 a.t.2, .int .i64 a.h.1, .int .i64 a.h.2, .int .i64 a.v.1, .int .i64 a.v.2]) (T := 36) (by simp))
  have HB := Lib.hid (show Below w.heap.size w ((w.alloc (.cells CS 27)).alloc (.cells #[.int .i64 a.w.1, .int .i64 a.w.2, .int .i64 a.t.1, .int .i64 a.t.2, .int .i64 a.h.1, .int .i64 a.h.2, .int .i64 a.v.1, .int .i64 a.v.2] 36)) by go_grown)
  clear rg hc h e1 e2 e3
  go_enter Try.func42, Try.ntmps42
  go_wp2_with (first
    | ((with_reducible refine ldR X1.out HSZ.out ?_ ?_); rfl)
    | (go_at_call 18; refine Calls.mono (HCK.out _ HB.out) ?_; rintro e w0 ⟨rfl, hb0⟩; have HB0 := Lib.hid (HB.out.trans (hb0.mono HB.out.size)); have K0 := X2.out.keep hb0; have c0 := K0.cell; have l0 := K0.lt; clear hb0)
    | (go_at_call_of 43 (Value.agg #[.int .i64 a.w.1, .int .i64 a.w.2]); refine Calls.mono (H1.out _) ?_; rintro e w1 ⟨rfl, hb1⟩; have HB1 := Lib.hid (HB0.out.trans (hb1.mono HB0.out.size)); have K1 := K0.keep hb1; have c1 := K1.cell; have l1 := K1.lt; clear hb1 c0 l0)
    | (go_at_call_of 43 (Value.agg #[.int .i64 a.t.1, .int .i64 a.t.2]); refine Calls.mono (H2.out _) ?_; rintro e w2 ⟨rfl, hb2⟩; have HB2 := Lib.hid (HB1.out.trans (hb2.mono HB1.out.size)); have K2 := K1.keep hb2; have c2 := K2.cell; have l2 := K2.lt; clear hb2 c1 l1)
    | (go_at_call_of 43 (Value.agg #[.int .i64 a.h.1, .int .i64 a.h.2]); refine Calls.mono (H3.out _) ?_; rintro e w3 ⟨rfl, hb3⟩; have HB3 := Lib.hid (HB2.out.trans (hb3.mono HB2.out.size)); have K3 := K2.keep hb3; have c3 := K3.cell; have l3 := K3.lt; clear hb3 c2 l2))
  go_ret
  exact ⟨rfl, HB3.out⟩
theorem cair_f4 (r : RO) (a : AI) (CS : Array Value) (w : World) (rg : RG w r) (hc : CS = #[.slice r.h.ax r.h.X.length r.h.cx, .slice r.h.ay r.h.Y.length r.h.cy, .slice r.h.av r.h.V.length r.h.cv, .slice r.g.ax r.g.X.length r.g.cx, .slice r.g.ay r.g.Y.length r.g.cy, .slice r.g.av r.g.V.length r.g.cv, .slice r.l.ax r.l.X.length r.l.cx, .slice r.l.ay r.l.Y.length r.l.cy, .slice r.l.av r.l.V.length r.l.cv, .slice r.p.ax r.p.X.length r.p.cx, .slice r.p.ay r.p.Y.length r.p.cy, .slice r.p.av r.p.V.length r.p.cv, .slice r.n.ax r.n.X.length r.n.cx, .slice r.n.ay r.n.Y.length r.n.cy, .slice r.n.av r.n.V.length r.n.cv, .slice r.a.ax r.a.X.length r.a.cx, .slice r.a.ay r.a.Y.length r.a.cy, .slice r.a.av r.a.V.length r.a.cv, .slice r.b.ax r.b.X.length r.b.cx, .slice r.b.ay r.b.Y.length r.b.cy, .slice r.b.av r.b.V.length r.b.cv, .slice r.d.ax r.d.X.length r.d.cx, .slice r.d.ay r.d.Y.length r.d.cy, .slice r.d.av r.d.V.length r.d.cv, .int .i64 r.cl, .int .i64 r.bu]) (h : r.ok = true) (e1 : vS a.w = true) (e2 : vS a.t = true) (e3 : vS a.h = true) (e4 : vS a.v = false) : Calls Try.prog 42 #[.agg CS, .agg #[.int .i64 a.w.1, .int .i64 a.w.2, .int .i64 a.t.1, .int .i64 a.t.2, .int .i64 a.h.1, .int .i64 a.h.2, .int .i64 a.v.1, .int .i64 a.v.2]] w fun e w' => e = .returned (.int .i64 21) ∧ Below w.heap.size w w' := by
  have HCK := Lib.hid (fun (W : World) (hW : Below w.heap.size w W) => show Calls Try.prog 18 #[.agg CS] W fun e w' => e = .returned (.int .i64 0) ∧ Below W.heap.size W w' by
    have := rrotcheck_any r W (rg.below hW)
    rw [show r.err = 0 by unfold RO.err; rw [h]; rfl, ← hc] at this
    exact this)
  have H1 := Lib.hid (fun (W : World) => rvalS_any a.w W)
  rw [e1] at H1
  have H2 := Lib.hid (fun (W : World) => rvalS_any a.t W)
  rw [e2] at H2
  have H3 := Lib.hid (fun (W : World) => rvalS_any a.h W)
  rw [e3] at H3
  have H4 := Lib.hid (fun (W : World) => rvalS_any a.v W)
  rw [e4] at H4
  have HSZ := Lib.hid (show CS.size = 26 by rw [hc]; rfl)
  have X1 := Lib.hid ((BK.new (w := w) (cs := CS) (T := 27)).old (x := .cells #[.int .i64 a.w.1, .int .i64 a.w.2, .int .i64 a.t.1, .int .i64 a.t.2, .int .i64 a.h.1, .int .i64 a.h.2, .int .i64 a.v.1, .int .i64 a.v.2] 36))
  have X2 := Lib.hid (BK.newg (w := w.alloc (.cells CS 27)) (g := w.heap.size + 1) (cs := #[.int .i64 a.w.1, .int .i64 a.w.2, .int .i64 a.t.1, .int .i64 a.t.2, .int .i64 a.h.1, .int .i64 a.h.2, .int .i64 a.v.1, .int .i64 a.v.2]) (T := 36) (by simp))
  have HB := Lib.hid (show Below w.heap.size w ((w.alloc (.cells CS 27)).alloc (.cells #[.int .i64 a.w.1, .int .i64 a.w.2, .int .i64 a.t.1, .int .i64 a.t.2, .int .i64 a.h.1, .int .i64 a.h.2, .int .i64 a.v.1, .int .i64 a.v.2] 36)) by go_grown)
  clear rg hc h e1 e2 e3 e4
  go_enter Try.func42, Try.ntmps42
  go_wp2_with (first
    | ((with_reducible refine ldR X1.out HSZ.out ?_ ?_); rfl)
    | (go_at_call 18; refine Calls.mono (HCK.out _ HB.out) ?_; rintro e w0 ⟨rfl, hb0⟩; have HB0 := Lib.hid (HB.out.trans (hb0.mono HB.out.size)); have K0 := X2.out.keep hb0; have c0 := K0.cell; have l0 := K0.lt; clear hb0)
    | (go_at_call_of 43 (Value.agg #[.int .i64 a.w.1, .int .i64 a.w.2]); refine Calls.mono (H1.out _) ?_; rintro e w1 ⟨rfl, hb1⟩; have HB1 := Lib.hid (HB0.out.trans (hb1.mono HB0.out.size)); have K1 := K0.keep hb1; have c1 := K1.cell; have l1 := K1.lt; clear hb1 c0 l0)
    | (go_at_call_of 43 (Value.agg #[.int .i64 a.t.1, .int .i64 a.t.2]); refine Calls.mono (H2.out _) ?_; rintro e w2 ⟨rfl, hb2⟩; have HB2 := Lib.hid (HB1.out.trans (hb2.mono HB1.out.size)); have K2 := K1.keep hb2; have c2 := K2.cell; have l2 := K2.lt; clear hb2 c1 l1)
    | (go_at_call_of 43 (Value.agg #[.int .i64 a.h.1, .int .i64 a.h.2]); refine Calls.mono (H3.out _) ?_; rintro e w3 ⟨rfl, hb3⟩; have HB3 := Lib.hid (HB2.out.trans (hb3.mono HB2.out.size)); have K3 := K2.keep hb3; have c3 := K3.cell; have l3 := K3.lt; clear hb3 c2 l2)
    | (go_at_call_of 43 (Value.agg #[.int .i64 a.v.1, .int .i64 a.v.2]); refine Calls.mono (H4.out _) ?_; rintro e w4 ⟨rfl, hb4⟩; have HB4 := Lib.hid (HB3.out.trans (hb4.mono HB3.out.size)); have K4 := K3.keep hb4; have c4 := K4.cell; have l4 := K4.lt; clear hb4 c3 l3))
  go_ret
  exact ⟨rfl, HB4.out⟩
theorem cair_ok (r : RO) (a : AI) (CS : Array Value) (w : World) (rg : RG w r) (hc : CS = #[.slice r.h.ax r.h.X.length r.h.cx, .slice r.h.ay r.h.Y.length r.h.cy, .slice r.h.av r.h.V.length r.h.cv, .slice r.g.ax r.g.X.length r.g.cx, .slice r.g.ay r.g.Y.length r.g.cy, .slice r.g.av r.g.V.length r.g.cv, .slice r.l.ax r.l.X.length r.l.cx, .slice r.l.ay r.l.Y.length r.l.cy, .slice r.l.av r.l.V.length r.l.cv, .slice r.p.ax r.p.X.length r.p.cx, .slice r.p.ay r.p.Y.length r.p.cy, .slice r.p.av r.p.V.length r.p.cv, .slice r.n.ax r.n.X.length r.n.cx, .slice r.n.ay r.n.Y.length r.n.cy, .slice r.n.av r.n.V.length r.n.cv, .slice r.a.ax r.a.X.length r.a.cx, .slice r.a.ay r.a.Y.length r.a.cy, .slice r.a.av r.a.V.length r.a.cv, .slice r.b.ax r.b.X.length r.b.cx, .slice r.b.ay r.b.Y.length r.b.cy, .slice r.b.av r.b.V.length r.b.cv, .slice r.d.ax r.d.X.length r.d.cx, .slice r.d.ay r.d.Y.length r.d.cy, .slice r.d.av r.d.V.length r.d.cv, .int .i64 r.cl, .int .i64 r.bu]) (h : r.ok = true) (e1 : vS a.w = true) (e2 : vS a.t = true) (e3 : vS a.h = true) (e4 : vS a.v = true) : Calls Try.prog 42 #[.agg CS, .agg #[.int .i64 a.w.1, .int .i64 a.w.2, .int .i64 a.t.1, .int .i64 a.t.2, .int .i64 a.h.1, .int .i64 a.h.2, .int .i64 a.v.1, .int .i64 a.v.2]] w fun e w' => e = .returned (.int .i64 0) ∧ Below w.heap.size w w' := by
  have HCK := Lib.hid (fun (W : World) (hW : Below w.heap.size w W) => show Calls Try.prog 18 #[.agg CS] W fun e w' => e = .returned (.int .i64 0) ∧ Below W.heap.size W w' by
    have := rrotcheck_any r W (rg.below hW)
    rw [show r.err = 0 by unfold RO.err; rw [h]; rfl, ← hc] at this
    exact this)
  have H1 := Lib.hid (fun (W : World) => rvalS_any a.w W)
  rw [e1] at H1
  have H2 := Lib.hid (fun (W : World) => rvalS_any a.t W)
  rw [e2] at H2
  have H3 := Lib.hid (fun (W : World) => rvalS_any a.h W)
  rw [e3] at H3
  have H4 := Lib.hid (fun (W : World) => rvalS_any a.v W)
  rw [e4] at H4
  have HSZ := Lib.hid (show CS.size = 26 by rw [hc]; rfl)
  have X1 := Lib.hid ((BK.new (w := w) (cs := CS) (T := 27)).old (x := .cells #[.int .i64 a.w.1, .int .i64 a.w.2, .int .i64 a.t.1, .int .i64 a.t.2, .int .i64 a.h.1, .int .i64 a.h.2, .int .i64 a.v.1, .int .i64 a.v.2] 36))
  have X2 := Lib.hid (BK.newg (w := w.alloc (.cells CS 27)) (g := w.heap.size + 1) (cs := #[.int .i64 a.w.1, .int .i64 a.w.2, .int .i64 a.t.1, .int .i64 a.t.2, .int .i64 a.h.1, .int .i64 a.h.2, .int .i64 a.v.1, .int .i64 a.v.2]) (T := 36) (by simp))
  have HB := Lib.hid (show Below w.heap.size w ((w.alloc (.cells CS 27)).alloc (.cells #[.int .i64 a.w.1, .int .i64 a.w.2, .int .i64 a.t.1, .int .i64 a.t.2, .int .i64 a.h.1, .int .i64 a.h.2, .int .i64 a.v.1, .int .i64 a.v.2] 36)) by go_grown)
  clear rg hc h e1 e2 e3 e4
  go_enter Try.func42, Try.ntmps42
  go_wp2_with (first
    | ((with_reducible refine ldR X1.out HSZ.out ?_ ?_); rfl)
    | (go_at_call 18; refine Calls.mono (HCK.out _ HB.out) ?_; rintro e w0 ⟨rfl, hb0⟩; have HB0 := Lib.hid (HB.out.trans (hb0.mono HB.out.size)); have K0 := X2.out.keep hb0; have c0 := K0.cell; have l0 := K0.lt; clear hb0)
    | (go_at_call_of 43 (Value.agg #[.int .i64 a.w.1, .int .i64 a.w.2]); refine Calls.mono (H1.out _) ?_; rintro e w1 ⟨rfl, hb1⟩; have HB1 := Lib.hid (HB0.out.trans (hb1.mono HB0.out.size)); have K1 := K0.keep hb1; have c1 := K1.cell; have l1 := K1.lt; clear hb1 c0 l0)
    | (go_at_call_of 43 (Value.agg #[.int .i64 a.t.1, .int .i64 a.t.2]); refine Calls.mono (H2.out _) ?_; rintro e w2 ⟨rfl, hb2⟩; have HB2 := Lib.hid (HB1.out.trans (hb2.mono HB1.out.size)); have K2 := K1.keep hb2; have c2 := K2.cell; have l2 := K2.lt; clear hb2 c1 l1)
    | (go_at_call_of 43 (Value.agg #[.int .i64 a.h.1, .int .i64 a.h.2]); refine Calls.mono (H3.out _) ?_; rintro e w3 ⟨rfl, hb3⟩; have HB3 := Lib.hid (HB2.out.trans (hb3.mono HB2.out.size)); have K3 := K2.keep hb3; have c3 := K3.cell; have l3 := K3.lt; clear hb3 c2 l2)
    | (go_at_call_of 43 (Value.agg #[.int .i64 a.v.1, .int .i64 a.v.2]); refine Calls.mono (H4.out _) ?_; rintro e w4 ⟨rfl, hb4⟩; have HB4 := Lib.hid (HB3.out.trans (hb4.mono HB3.out.size)); have K4 := K3.keep hb4; have c4 := K4.cell; have l4 := K4.lt; clear hb4 c3 l3))
  go_ret
  exact ⟨rfl, HB4.out⟩
theorem checkAir_any (r : RO) (a : AI) (CS : Array Value) (w : World) (rg : RG w r) (hc : CS = #[.slice r.h.ax r.h.X.length r.h.cx, .slice r.h.ay r.h.Y.length r.h.cy, .slice r.h.av r.h.V.length r.h.cv, .slice r.g.ax r.g.X.length r.g.cx, .slice r.g.ay r.g.Y.length r.g.cy, .slice r.g.av r.g.V.length r.g.cv, .slice r.l.ax r.l.X.length r.l.cx, .slice r.l.ay r.l.Y.length r.l.cy, .slice r.l.av r.l.V.length r.l.cv, .slice r.p.ax r.p.X.length r.p.cx, .slice r.p.ay r.p.Y.length r.p.cy, .slice r.p.av r.p.V.length r.p.cv, .slice r.n.ax r.n.X.length r.n.cx, .slice r.n.ay r.n.Y.length r.n.cy, .slice r.n.av r.n.V.length r.n.cv, .slice r.a.ax r.a.X.length r.a.cx, .slice r.a.ay r.a.Y.length r.a.cy, .slice r.a.av r.a.V.length r.a.cv, .slice r.b.ax r.b.X.length r.b.cx, .slice r.b.ay r.b.Y.length r.b.cy, .slice r.b.av r.b.V.length r.b.cv, .slice r.d.ax r.d.X.length r.d.cx, .slice r.d.ay r.d.Y.length r.d.cy, .slice r.d.av r.d.V.length r.d.cv, .int .i64 r.cl, .int .i64 r.bu]) : Calls Try.prog 42 #[.agg CS, .agg #[.int .i64 a.w.1, .int .i64 a.w.2, .int .i64 a.t.1, .int .i64 a.t.2, .int .i64 a.h.1, .int .i64 a.h.2, .int .i64 a.v.1, .int .i64 a.v.2]] w fun e w' => e = .returned (.int .i64 (airE r a)) ∧ Below w.heap.size w w' := by
  unfold airE AI.ok
  simp only [List.all_cons, List.all_nil, Bool.and_true]
  cases h : r.ok with
  | false => simpa using cair_f0 r a CS w rg hc h
  | true =>
  cases e1 : vS a.w with
  | false => simpa using cair_f1 r a CS w rg hc h e1
  | true =>
  cases e2 : vS a.t with
  | false => simpa using cair_f2 r a CS w rg hc h e1 e2
  | true =>
  cases e3 : vS a.h with
  | false => simpa using cair_f3 r a CS w rg hc h e1 e2 e3
  | true =>
  cases e4 : vS a.v with
  | false => simpa using cair_f4 r a CS w rg hc h e1 e2 e3 e4
  | true =>
  simpa using cair_ok r a CS w rg hc h e1 e2 e3 e4

/-- lies. -/
def lsB (t : TV) (x y : Int × Int) : Bool := vS x && (vS y && (osB t.X x && osB t.Y y))
theorem rlies_f1 (t : TV) (x y : Int × Int) (w : World) (_ht : TG w t) (_hx : 1 ≤ t.X.length ∧ t.X.length ≤ 1000000) (_hy : 1 ≤ t.Y.length ∧ t.Y.length ≤ 1000000) (e1 : vS x = false) : Calls Try.prog 63 #[.agg #[.slice t.ax t.X.length t.cx, .slice t.ay t.Y.length t.cy, .slice t.av t.V.length t.cv], .agg #[.int .i64 x.1, .int .i64 x.2], .agg #[.int .i64 y.1, .int .i64 y.2]] w fun e w' => e = .returned (.bool false) ∧ Below w.heap.size w w' := by
  have H1 := Lib.hid (fun (W : World) => rvalS_any x W)
  rw [e1] at H1
  have X1 := Lib.hid (((BK.new (w := w) (cs := #[.slice t.ax t.X.length t.cx, .slice t.ay t.Y.length t.cy, .slice t.av t.V.length t.cv]) (T := 25)).old (x := .cells #[.int .i64 x.1, .int .i64 x.2] 34)).old (x := .cells #[.int .i64 y.1, .int .i64 y.2] 34))
  have X2 := Lib.hid ((BK.newg (w := w.alloc (.cells #[.slice t.ax t.X.length t.cx, .slice t.ay t.Y.length t.cy, .slice t.av t.V.length t.cv] 25)) (g := w.heap.size + 1) (cs := #[.int .i64 x.1, .int .i64 x.2]) (T := 34) (by simp)).old (x := .cells #[.int .i64 y.1, .int .i64 y.2] 34))
  have X3 := Lib.hid (BK.newg (w := (w.alloc (.cells #[.slice t.ax t.X.length t.cx, .slice t.ay t.Y.length t.cy, .slice t.av t.V.length t.cv] 25)).alloc (.cells #[.int .i64 x.1, .int .i64 x.2] 34)) (g := w.heap.size + 1 + 1) (cs := #[.int .i64 y.1, .int .i64 y.2]) (T := 34) (by simp))
  have HB := Lib.hid (show Below w.heap.size w (((w.alloc (.cells #[.slice t.ax t.X.length t.cx, .slice t.ay t.Y.length t.cy, .slice t.av t.V.length t.cv] 25)).alloc (.cells #[.int .i64 x.1, .int .i64 x.2] 34)).alloc (.cells #[.int .i64 y.1, .int .i64 y.2] 34)) by go_grown)
  clear _ht _hx _hy e1
  go_enter Try.func63, Try.ntmps63
  go_wp2_with (first
    | (go_at_call_of 43 (Value.agg #[.int .i64 x.1, .int .i64 x.2]); refine Calls.mono (H1.out _) ?_; rintro e w1 ⟨rfl, hb1⟩; have HB1 := Lib.hid (HB.out.trans (hb1.mono HB.out.size)); have K1 := X1.out.keep hb1; have K2 := X2.out.keep hb1; have K3 := X3.out.keep hb1; have c1 := K1.cell; have c2 := K2.cell; have c3 := K3.cell; have l3 := K3.lt; clear hb1))
  go_ret
  exact ⟨rfl, HB1.out⟩
theorem rlies_f2 (t : TV) (x y : Int × Int) (w : World) (_ht : TG w t) (_hx : 1 ≤ t.X.length ∧ t.X.length ≤ 1000000) (_hy : 1 ≤ t.Y.length ∧ t.Y.length ≤ 1000000) (e1 : vS x = true) (e2 : vS y = false) : Calls Try.prog 63 #[.agg #[.slice t.ax t.X.length t.cx, .slice t.ay t.Y.length t.cy, .slice t.av t.V.length t.cv], .agg #[.int .i64 x.1, .int .i64 x.2], .agg #[.int .i64 y.1, .int .i64 y.2]] w fun e w' => e = .returned (.bool false) ∧ Below w.heap.size w w' := by
  have H1 := Lib.hid (fun (W : World) => rvalS_any x W)
  rw [e1] at H1
  have H2 := Lib.hid (fun (W : World) => rvalS_any y W)
  rw [e2] at H2
  have X1 := Lib.hid (((BK.new (w := w) (cs := #[.slice t.ax t.X.length t.cx, .slice t.ay t.Y.length t.cy, .slice t.av t.V.length t.cv]) (T := 25)).old (x := .cells #[.int .i64 x.1, .int .i64 x.2] 34)).old (x := .cells #[.int .i64 y.1, .int .i64 y.2] 34))
  have X2 := Lib.hid ((BK.newg (w := w.alloc (.cells #[.slice t.ax t.X.length t.cx, .slice t.ay t.Y.length t.cy, .slice t.av t.V.length t.cv] 25)) (g := w.heap.size + 1) (cs := #[.int .i64 x.1, .int .i64 x.2]) (T := 34) (by simp)).old (x := .cells #[.int .i64 y.1, .int .i64 y.2] 34))
  have X3 := Lib.hid (BK.newg (w := (w.alloc (.cells #[.slice t.ax t.X.length t.cx, .slice t.ay t.Y.length t.cy, .slice t.av t.V.length t.cv] 25)).alloc (.cells #[.int .i64 x.1, .int .i64 x.2] 34)) (g := w.heap.size + 1 + 1) (cs := #[.int .i64 y.1, .int .i64 y.2]) (T := 34) (by simp))
  have HB := Lib.hid (show Below w.heap.size w (((w.alloc (.cells #[.slice t.ax t.X.length t.cx, .slice t.ay t.Y.length t.cy, .slice t.av t.V.length t.cv] 25)).alloc (.cells #[.int .i64 x.1, .int .i64 x.2] 34)).alloc (.cells #[.int .i64 y.1, .int .i64 y.2] 34)) by go_grown)
  clear _ht _hx _hy e1 e2
  go_enter Try.func63, Try.ntmps63
  go_wp2_with (first
    | (go_at_call_of 43 (Value.agg #[.int .i64 x.1, .int .i64 x.2]); refine Calls.mono (H1.out _) ?_; rintro e w1 ⟨rfl, hb1⟩; have HB1 := Lib.hid (HB.out.trans (hb1.mono HB.out.size)); have K1 := X1.out.keep hb1; have K2 := X2.out.keep hb1; have K3 := X3.out.keep hb1; have c1 := K1.cell; have c2 := K2.cell; have c3 := K3.cell; have l3 := K3.lt; clear hb1)
    | (go_at_call_of 43 (Value.agg #[.int .i64 y.1, .int .i64 y.2]); refine Calls.mono (H2.out _) ?_; rintro e w2 ⟨rfl, hb2⟩; have HB2 := Lib.hid (HB1.out.trans (hb2.mono HB1.out.size)); have K1 := K1.keep hb2; have K2 := K2.keep hb2; have K3 := K3.keep hb2; clear c1 c2 c3 l3; have c1 := K1.cell; have c2 := K2.cell; have c3 := K3.cell; have l3 := K3.lt; clear hb2))
  go_ret
  exact ⟨rfl, HB2.out⟩
theorem rlies_f3 (t : TV) (x y : Int × Int) (w : World) (ht : TG w t) (hx : 1 ≤ t.X.length ∧ t.X.length ≤ 1000000) (_hy : 1 ≤ t.Y.length ∧ t.Y.length ≤ 1000000) (e1 : vS x = true) (e2 : vS y = true) (e3 : osB t.X x = false) : Calls Try.prog 63 #[.agg #[.slice t.ax t.X.length t.cx, .slice t.ay t.Y.length t.cy, .slice t.av t.V.length t.cv], .agg #[.int .i64 x.1, .int .i64 x.2], .agg #[.int .i64 y.1, .int .i64 y.2]] w fun e w' => e = .returned (.bool false) ∧ Below w.heap.size w w' := by
  have H1 := Lib.hid (fun (W : World) => rvalS_any x W)
  rw [e1] at H1
  have H2 := Lib.hid (fun (W : World) => rvalS_any y W)
  rw [e2] at H2
  have H3 := Lib.hid (fun (W : World) (hW : Below w.heap.size w W) => between_any t.ax _ t.cx W.heap.size t.X x.1 x.2 W rfl hx.2 hx.1 (Nat.le_refl _) (ht.below hW).tb.x)
  rw [btB_osB e1, e3] at H3
  have X1 := Lib.hid (((BK.new (w := w) (cs := #[.slice t.ax t.X.length t.cx, .slice t.ay t.Y.length t.cy, .slice t.av t.V.length t.cv]) (T := 25)).old (x := .cells #[.int .i64 x.1, .int .i64 x.2] 34)).old (x := .cells #[.int .i64 y.1, .int .i64 y.2] 34))
  have X2 := Lib.hid ((BK.newg (w := w.alloc (.cells #[.slice t.ax t.X.length t.cx, .slice t.ay t.Y.length t.cy, .slice t.av t.V.length t.cv] 25)) (g := w.heap.size + 1) (cs := #[.int .i64 x.1, .int .i64 x.2]) (T := 34) (by simp)).old (x := .cells #[.int .i64 y.1, .int .i64 y.2] 34))
  have X3 := Lib.hid (BK.newg (w := (w.alloc (.cells #[.slice t.ax t.X.length t.cx, .slice t.ay t.Y.length t.cy, .slice t.av t.V.length t.cv] 25)).alloc (.cells #[.int .i64 x.1, .int .i64 x.2] 34)) (g := w.heap.size + 1 + 1) (cs := #[.int .i64 y.1, .int .i64 y.2]) (T := 34) (by simp))
  have HB := Lib.hid (show Below w.heap.size w (((w.alloc (.cells #[.slice t.ax t.X.length t.cx, .slice t.ay t.Y.length t.cy, .slice t.av t.V.length t.cv] 25)).alloc (.cells #[.int .i64 x.1, .int .i64 x.2] 34)).alloc (.cells #[.int .i64 y.1, .int .i64 y.2] 34)) by go_grown)
  clear ht hx _hy e1 e2 e3
  go_enter Try.func63, Try.ntmps63
  go_wp2_with (first
    | (go_at_call_of 43 (Value.agg #[.int .i64 x.1, .int .i64 x.2]); refine Calls.mono (H1.out _) ?_; rintro e w1 ⟨rfl, hb1⟩; have HB1 := Lib.hid (HB.out.trans (hb1.mono HB.out.size)); have K1 := X1.out.keep hb1; have K2 := X2.out.keep hb1; have K3 := X3.out.keep hb1; have c1 := K1.cell; have c2 := K2.cell; have c3 := K3.cell; have l3 := K3.lt; clear hb1)
    | (go_at_call_of 43 (Value.agg #[.int .i64 y.1, .int .i64 y.2]); refine Calls.mono (H2.out _) ?_; rintro e w2 ⟨rfl, hb2⟩; have HB2 := Lib.hid (HB1.out.trans (hb2.mono HB1.out.size)); have K1 := K1.keep hb2; have K2 := K2.keep hb2; have K3 := K3.keep hb2; clear c1 c2 c3 l3; have c1 := K1.cell; have c2 := K2.cell; have c3 := K3.cell; have l3 := K3.lt; clear hb2)
    | (go_at_call_of 99 (Value.slice t.ax t.X.length t.cx); refine Calls.mono (H3.out _ HB2.out) ?_; rintro e w3 ⟨rfl, hb3⟩; have HB3 := Lib.hid (HB2.out.trans (hb3.mono HB2.out.size)); have K1 := K1.keep hb3; have K2 := K2.keep hb3; have K3 := K3.keep hb3; clear c1 c2 c3 l3; have c1 := K1.cell; have c2 := K2.cell; have c3 := K3.cell; have l3 := K3.lt; clear hb3))
  go_ret
  exact ⟨rfl, HB3.out⟩
theorem rlies_ok (t : TV) (x y : Int × Int) (w : World) (ht : TG w t) (hx : 1 ≤ t.X.length ∧ t.X.length ≤ 1000000) (hy : 1 ≤ t.Y.length ∧ t.Y.length ≤ 1000000) (e1 : vS x = true) (e2 : vS y = true) (e3 : osB t.X x = true) : Calls Try.prog 63 #[.agg #[.slice t.ax t.X.length t.cx, .slice t.ay t.Y.length t.cy, .slice t.av t.V.length t.cv], .agg #[.int .i64 x.1, .int .i64 x.2], .agg #[.int .i64 y.1, .int .i64 y.2]] w fun e w' => e = .returned (.bool (osB t.Y y)) ∧ Below w.heap.size w w' := by
  have H1 := Lib.hid (fun (W : World) => rvalS_any x W)
  rw [e1] at H1
  have H2 := Lib.hid (fun (W : World) => rvalS_any y W)
  rw [e2] at H2
  have H3 := Lib.hid (fun (W : World) (hW : Below w.heap.size w W) => between_any t.ax _ t.cx W.heap.size t.X x.1 x.2 W rfl hx.2 hx.1 (Nat.le_refl _) (ht.below hW).tb.x)
  rw [btB_osB e1, e3] at H3
  have H4 := Lib.hid (fun (W : World) (hW : Below w.heap.size w W) => between_any t.ay _ t.cy W.heap.size t.Y y.1 y.2 W rfl hy.2 hy.1 (Nat.le_refl _) (ht.below hW).tb.y)
  rw [btB_osB e2] at H4
  generalize osB t.Y y = v at *
  have X1 := Lib.hid (((BK.new (w := w) (cs := #[.slice t.ax t.X.length t.cx, .slice t.ay t.Y.length t.cy, .slice t.av t.V.length t.cv]) (T := 25)).old (x := .cells #[.int .i64 x.1, .int .i64 x.2] 34)).old (x := .cells #[.int .i64 y.1, .int .i64 y.2] 34))
  have X2 := Lib.hid ((BK.newg (w := w.alloc (.cells #[.slice t.ax t.X.length t.cx, .slice t.ay t.Y.length t.cy, .slice t.av t.V.length t.cv] 25)) (g := w.heap.size + 1) (cs := #[.int .i64 x.1, .int .i64 x.2]) (T := 34) (by simp)).old (x := .cells #[.int .i64 y.1, .int .i64 y.2] 34))
  have X3 := Lib.hid (BK.newg (w := (w.alloc (.cells #[.slice t.ax t.X.length t.cx, .slice t.ay t.Y.length t.cy, .slice t.av t.V.length t.cv] 25)).alloc (.cells #[.int .i64 x.1, .int .i64 x.2] 34)) (g := w.heap.size + 1 + 1) (cs := #[.int .i64 y.1, .int .i64 y.2]) (T := 34) (by simp))
  have HB := Lib.hid (show Below w.heap.size w (((w.alloc (.cells #[.slice t.ax t.X.length t.cx, .slice t.ay t.Y.length t.cy, .slice t.av t.V.length t.cv] 25)).alloc (.cells #[.int .i64 x.1, .int .i64 x.2] 34)).alloc (.cells #[.int .i64 y.1, .int .i64 y.2] 34)) by go_grown)
  clear ht hx hy e1 e2 e3
  go_enter Try.func63, Try.ntmps63
  go_wp2_with (first
    | (go_at_call_of 43 (Value.agg #[.int .i64 x.1, .int .i64 x.2]); refine Calls.mono (H1.out _) ?_; rintro e w1 ⟨rfl, hb1⟩; have HB1 := Lib.hid (HB.out.trans (hb1.mono HB.out.size)); have K1 := X1.out.keep hb1; have K2 := X2.out.keep hb1; have K3 := X3.out.keep hb1; have c1 := K1.cell; have c2 := K2.cell; have c3 := K3.cell; have l3 := K3.lt; clear hb1)
    | (go_at_call_of 43 (Value.agg #[.int .i64 y.1, .int .i64 y.2]); refine Calls.mono (H2.out _) ?_; rintro e w2 ⟨rfl, hb2⟩; have HB2 := Lib.hid (HB1.out.trans (hb2.mono HB1.out.size)); have K1 := K1.keep hb2; have K2 := K2.keep hb2; have K3 := K3.keep hb2; clear c1 c2 c3 l3; have c1 := K1.cell; have c2 := K2.cell; have c3 := K3.cell; have l3 := K3.lt; clear hb2)
    | (go_at_call_of 99 (Value.slice t.ax t.X.length t.cx); refine Calls.mono (H3.out _ HB2.out) ?_; rintro e w3 ⟨rfl, hb3⟩; have HB3 := Lib.hid (HB2.out.trans (hb3.mono HB2.out.size)); have K1 := K1.keep hb3; have K2 := K2.keep hb3; have K3 := K3.keep hb3; clear c1 c2 c3 l3; have c1 := K1.cell; have c2 := K2.cell; have c3 := K3.cell; have l3 := K3.lt; clear hb3)
    | (go_at_call_of 99 (Value.slice t.ay t.Y.length t.cy); refine Calls.mono (H4.out _ HB3.out) ?_; rintro e w4 ⟨rfl, hb4⟩; have HB4 := Lib.hid (HB3.out.trans (hb4.mono HB3.out.size)); have K1 := K1.keep hb4; have K2 := K2.keep hb4; have K3 := K3.keep hb4; clear c1 c2 c3 l3; have c1 := K1.cell; have c2 := K2.cell; have c3 := K3.cell; have l3 := K3.lt; clear hb4))
  go_ret
  exact ⟨rfl, HB4.out⟩
theorem rlies_any (t : TV) (x y : Int × Int) (w : World) (ht : TG w t) (hct : ctB t.X t.Y t.V = true) : Calls Try.prog 63 #[.agg #[.slice t.ax t.X.length t.cx, .slice t.ay t.Y.length t.cy, .slice t.av t.V.length t.cv], .agg #[.int .i64 x.1, .int .i64 x.2], .agg #[.int .i64 y.1, .int .i64 y.2]] w fun e w' => e = .returned (.bool (lsB t x y)) ∧ Below w.heap.size w w' := by
  obtain ⟨q1, q2, q3, q4⟩ := ctB_len hct
  have hx : 1 ≤ t.X.length ∧ t.X.length ≤ 1000000 := ⟨by omega, by omega⟩
  have hy : 1 ≤ t.Y.length ∧ t.Y.length ≤ 1000000 := ⟨by omega, by omega⟩
  unfold lsB
  cases e1 : vS x with
  | false => simpa using rlies_f1 t x y w ht hx hy e1
  | true =>
  cases e2 : vS y with
  | false => simpa using rlies_f2 t x y w ht hx hy e1 e2
  | true =>
  cases e3 : osB t.X x with
  | false => simpa using rlies_f3 t x y w ht hx hy e1 e2 e3
  | true => simpa using rlies_ok t x y w ht hx hy e1 e2 e3
theorem rbnd_any (l : LO) (w : World) (ht : TG w l.t) (hc : cbE l.t.X l.t.Y l.t.V l.x.1 l.x.2 l.y.1 l.y.2 = 0) : Calls Try.prog 68 #[.agg #[.slice l.t.ax l.t.X.length l.t.cx, .slice l.t.ay l.t.Y.length l.t.cy, .slice l.t.av l.t.V.length l.t.cv], .agg #[.int .i64 l.x.1, .int .i64 l.x.2], .agg #[.int .i64 l.y.1, .int .i64 l.y.2]] w fun e w' => e = .returned (.agg #[.int .i64 l.bn.1, .int .i64 l.bn.2]) ∧ Below w.heap.size w w' := by
  have HC := Lib.hid (fun (W : World) (hW : Below w.heap.size w W) => show Calls Try.prog 111 #[.agg #[.slice l.t.ax l.t.X.length l.t.cx, .slice l.t.ay l.t.Y.length l.t.cy, .slice l.t.av l.t.V.length l.t.cv], .agg #[.int .i64 l.x.1, .int .i64 l.x.2], .agg #[.int .i64 l.y.1, .int .i64 l.y.2]] W fun e w' => e = .returned (.tuple #[.agg #[.int .i64 l.bn.1, .int .i64 l.bn.2], .int .i64 0]) ∧ Below W.heap.size W w' by
    have := rBound_any l.t.ax l.t.ay l.t.av l.t.X.length l.t.cx l.t.Y.length l.t.cy l.t.V.length l.t.cv W.heap.size l.t.X l.t.Y l.t.V l.x.1 l.x.2 l.y.1 l.y.2 W rfl rfl rfl ht.hx ht.hy ht.hv ht.hr (Nat.le_refl _) (ht.below hW).tb
    unfold bndS at this
    rw [if_pos hc] at this
    exact this)
  clear ht hc
  generalize l.bn = p at *
  have X4 := Lib.hid (BK.newg (w := ((w.alloc (.cells #[.slice l.t.ax l.t.X.length l.t.cx, .slice l.t.ay l.t.Y.length l.t.cy, .slice l.t.av l.t.V.length l.t.cv] 25)).alloc (.cells #[.int .i64 l.x.1, .int .i64 l.x.2] 34)).alloc (.cells #[.int .i64 l.y.1, .int .i64 l.y.2] 34)) (g := w.heap.size + 1 + 1 + 1) (cs := #[.int .i64 0, .int .i64 0]) (T := 34) (by simp))
  go_enter Try.func68, Try.ntmps68
  go_wp2_with (first
    | (go_at_call 111; refine Calls.mono (HC.out _ (by go_grown)) ?_; rintro e w1 ⟨rfl, hb1⟩; have K := Lib.hid (X4.out.keep hb1); have HB1 := Lib.hid (Below.trans (show Below w.heap.size w _ by go_grown) (hb1.mono (by simp <;> omega))); clear hb1)
    | ((with_reducible refine stS (CS := ?_) (K.out.old) ?_ ?_ ?_ ?_ ?_ ?_); rotate_left; rfl; rfl; rfl; rfl; simp [Value.oneCell']))
  go_simp
  refine bodyPost_ret (v := .agg #[.int .i64 p.1, .int .i64 p.2]) (resS Try.results68 (by rfl) (K.out.old).row (by rfl)) rfl ?_
  exact ⟨rfl, below_setRow (HB1.out.alloc HB1.out.size _) (by omega) _⟩
theorem rup_any (a b : Int) (w : World) (h1 : 1 ≤ b) (h2 : b ≤ 1000000) (h3 : 0 ≤ a) (h4 : a ≤ 1000000000000) : Calls Try.prog 102 #[.int .i64 a, .int .i64 b] w fun e w' => e = .returned (.int .i64 (cl a b)) ∧ w = w' := by
  have hd := tdiv_bd (a := a + b - 1) (b := b) (M := 2000000000000) (by omega) (by omega)
  have HE := Lib.hid (up_cl h3 h1)
  go_enter Try.func102, Try.ntmps102
  go_wp2
  go_ret
  exact ⟨ret_int HE.out, rfl⟩
end Go.Proofs.Ythhokiigdgpmcaa

/- Level and Flow of both sides. -/
namespace Go.Proofs.Ythhokiigdgpmcaa
open Go.RowKit

set_option maxRecDepth 100000
theorem ready_lev (r : RO) (a : AI) (CS MS : Array Value) (s : Int × Int) (gs g : Nat) (W : World) (rg : RG W r) (hc : CS = #[.slice r.h.ax r.h.X.length r.h.cx, .slice r.h.ay r.h.Y.length r.h.cy, .slice r.h.av r.h.V.length r.h.cv, .slice r.g.ax r.g.X.length r.g.cx, .slice r.g.ay r.g.Y.length r.g.cy, .slice r.g.av r.g.V.length r.g.cv, .slice r.l.ax r.l.X.length r.l.cx, .slice r.l.ay r.l.Y.length r.l.cy, .slice r.l.av r.l.V.length r.l.cv, .slice r.p.ax r.p.X.length r.p.cx, .slice r.p.ay r.p.Y.length r.p.cy, .slice r.p.av r.p.V.length r.p.cv, .slice r.n.ax r.n.X.length r.n.cx, .slice r.n.ay r.n.Y.length r.n.cy, .slice r.n.av r.n.V.length r.n.cv, .slice r.a.ax r.a.X.length r.a.cx, .slice r.a.ay r.a.Y.length r.a.cy, .slice r.a.av r.a.V.length r.a.cv, .slice r.b.ax r.b.X.length r.b.cx, .slice r.b.ay r.b.Y.length r.b.cy, .slice r.b.av r.b.V.length r.b.cv, .slice r.d.ax r.d.X.length r.d.cx, .slice r.d.ay r.d.Y.length r.d.cy, .slice r.d.av r.d.V.length r.d.cv, .int .i64 r.cl, .int .i64 r.bu]) (hm : MS = #[.slice r.h.ax r.h.X.length r.h.cx, .slice r.h.ay r.h.Y.length r.h.cy, .slice r.h.av r.h.V.length r.h.cv, .slice r.g.ax r.g.X.length r.g.cx, .slice r.g.ay r.g.Y.length r.g.cy, .slice r.g.av r.g.V.length r.g.cv, .slice r.l.ax r.l.X.length r.l.cx, .slice r.l.ay r.l.Y.length r.l.cy, .slice r.l.av r.l.V.length r.l.cv, .slice r.p.ax r.p.X.length r.p.cx, .slice r.p.ay r.p.Y.length r.p.cy, .slice r.p.av r.p.V.length r.p.cv, .slice r.n.ax r.n.X.length r.n.cx, .slice r.n.ay r.n.Y.length r.n.cy, .slice r.n.av r.n.V.length r.n.cv, .slice r.a.ax r.a.X.length r.a.cx, .slice r.a.ay r.a.Y.length r.a.cy, .slice r.a.av r.a.V.length r.a.cv, .slice r.b.ax r.b.X.length r.b.cx, .slice r.b.ay r.b.Y.length r.b.cy, .slice r.b.av r.b.V.length r.b.cv, .slice r.d.ax r.d.X.length r.d.cx, .slice r.d.ay r.d.Y.length r.d.cy, .slice r.d.av r.d.V.length r.d.cv, .int .i64 r.cl, .int .i64 r.bu, .int .i64 a.w.1, .int .i64 a.w.2, .int .i64 a.t.1, .int .i64 a.t.2, .int .i64 a.h.1, .int .i64 a.h.2, .int .i64 a.v.1, .int .i64 a.v.2]) (h0 : W.cell? ⟨gs, 0, none⟩ = some (.int .i64 s.1)) (h1 : W.cell? ⟨gs, 1, none⟩ = some (.int .i64 s.2)) (hg : g < W.heap.size) (hF : RS W (g + 1) (some ⟨g, 0, none⟩) [s]) :
    Calls Try.prog 58 #[.agg CS, .agg #[.int .i64 a.w.1, .int .i64 a.w.2, .int .i64 a.t.1, .int .i64 a.t.2, .int .i64 a.h.1, .int .i64 a.h.2, .int .i64 a.v.1, .int .i64 a.v.2], .func (.func 79) #[] #[.pointer (some ⟨gs, 0, none⟩)], .slice (some ⟨g, 0, none⟩) 1 1] W fun e w' => e = .returned (.tuple #[.agg MS, .int .i64 (redE r a [loL r a s] [s])]) ∧ Below W.heap.size W w' := by
  refine ready_any 79 #[.pointer (some ⟨gs, 0, none⟩)] r a [loL r a s] [s] W (some ⟨g, 0, none⟩) 1 CS MS rg hc hm (hF.more hg) (le_maxLen (by simp)) (by simp) ?_ ?_ Try.call79 ?_
  · intro l hl
    simp at hl
    subst hl
    exact rg.l
  · intro h l hl
    have o := ok_of h
    simp at hl
    subst hl
    exact filB_ct o.l
  · intro _ W' hW
    refine (level1_any r a MS hm s gs W' (cell_keep hW h0) (cell_keep hW h1)).mono ?_
    rintro e w' ⟨v, rfl, ⟨A, c, rfl, h⟩, hb⟩
    exact ⟨A, c, rfl, h, hb⟩

def lvE (r : RO) (a : AI) (s : Int × Int) : Int := redE r a [loL r a s] [s]
def lvS (r : RO) (a : AI) (s : Int × Int) : (Int × Int) × Int := if lvE r a s = 0 then ((loL r a s).bn, 0) else ((0, 0), lvE r a s)
/-- What Level has looked up. -/
structure Lvl (r : RO) (a : AI) (s : Int × Int) : Prop where
  ro : r.ok = true
  ao : a.ok = true
  so : vS s = true
  l : LOk 0 100000 (loL r a s)
theorem lvl_of {r : RO} {a : AI} {s : Int × Int} (h : lvE r a s = 0) : Lvl r a s := by
  obtain ⟨h1, h2, h3, h4⟩ := rdy_of h
  obtain ⟨k1, k2, k3, k4⟩ := AI.ok_get h2
  have o := ok_of h1
  simp only [List.all_cons, List.all_nil, Bool.and_true] at h3 h4
  exact ⟨h1, h2, h3, ⟨o.l, h3, k1, h4⟩⟩
set_option maxHeartbeats 4000000 in
theorem level_call (r : RO) (a : AI) (CS : Array Value) (s : Int × Int) (w : World) (rg : RG w r) (hc : CS = #[.slice r.h.ax r.h.X.length r.h.cx, .slice r.h.ay r.h.Y.length r.h.cy, .slice r.h.av r.h.V.length r.h.cv, .slice r.g.ax r.g.X.length r.g.cx, .slice r.g.ay r.g.Y.length r.g.cy, .slice r.g.av r.g.V.length r.g.cv, .slice r.l.ax r.l.X.length r.l.cx, .slice r.l.ay r.l.Y.length r.l.cy, .slice r.l.av r.l.V.length r.l.cv, .slice r.p.ax r.p.X.length r.p.cx, .slice r.p.ay r.p.Y.length r.p.cy, .slice r.p.av r.p.V.length r.p.cv, .slice r.n.ax r.n.X.length r.n.cx, .slice r.n.ay r.n.Y.length r.n.cy, .slice r.n.av r.n.V.length r.n.cv, .slice r.a.ax r.a.X.length r.a.cx, .slice r.a.ay r.a.Y.length r.a.cy, .slice r.a.av r.a.V.length r.a.cv, .slice r.b.ax r.b.X.length r.b.cx, .slice r.b.ay r.b.Y.length r.b.cy, .slice r.b.av r.b.V.length r.b.cv, .slice r.d.ax r.d.X.length r.d.cx, .slice r.d.ay r.d.Y.length r.d.cy, .slice r.d.av r.d.V.length r.d.cv, .int .i64 r.cl, .int .i64 r.bu]) :
    Calls Try.prog 29 #[.agg CS, .agg #[.int .i64 a.w.1, .int .i64 a.w.2, .int .i64 a.t.1, .int .i64 a.t.2, .int .i64 a.h.1, .int .i64 a.h.2, .int .i64 a.v.1, .int .i64 a.v.2], .agg #[.int .i64 s.1, .int .i64 s.2]] w fun e w' => e = .returned (.tuple #[.agg #[.int .i64 (lvS r a s).1.1, .int .i64 (lvS r a s).1.2], .int .i64 (lvS r a s).2]) ∧ Below w.heap.size w w' := by
  obtain ⟨MS, hm⟩ : ∃ MS : Array Value, MS = #[.slice r.h.ax r.h.X.length r.h.cx, .slice r.h.ay r.h.Y.length r.h.cy, .slice r.h.av r.h.V.length r.h.cv, .slice r.g.ax r.g.X.length r.g.cx, .slice r.g.ay r.g.Y.length r.g.cy, .slice r.g.av r.g.V.length r.g.cv, .slice r.l.ax r.l.X.length r.l.cx, .slice r.l.ay r.l.Y.length r.l.cy, .slice r.l.av r.l.V.length r.l.cv, .slice r.p.ax r.p.X.length r.p.cx, .slice r.p.ay r.p.Y.length r.p.cy, .slice r.p.av r.p.V.length r.p.cv, .slice r.n.ax r.n.X.length r.n.cx, .slice r.n.ay r.n.Y.length r.n.cy, .slice r.n.av r.n.V.length r.n.cv, .slice r.a.ax r.a.X.length r.a.cx, .slice r.a.ay r.a.Y.length r.a.cy, .slice r.a.av r.a.V.length r.a.cv, .slice r.b.ax r.b.X.length r.b.cx, .slice r.b.ay r.b.Y.length r.b.cy, .slice r.b.av r.b.V.length r.b.cv, .slice r.d.ax r.d.X.length r.d.cx, .slice r.d.ay r.d.Y.length r.d.cy, .slice r.d.av r.d.V.length r.d.cv, .int .i64 r.cl, .int .i64 r.bu, .int .i64 a.w.1, .int .i64 a.w.2, .int .i64 a.t.1, .int .i64 a.t.2, .int .i64 a.h.1, .int .i64 a.h.2, .int .i64 a.v.1, .int .i64 a.v.2] := ⟨_, rfl⟩
  have HR := Lib.hid (fun (gs g : Nat) (W : World) (hW : Below w.heap.size w W) h0 h1 hg hF => ready_lev r a CS MS s gs g W (rg.below hW) hc hm h0 h1 hg hF)
  have HSZ := Lib.hid (show CS.size = 26 by rw [hc]; rfl)
  have HMZ := Lib.hid (show MS.size = 34 by rw [hm]; rfl)
  have HMO := Lib.hid (show MS.all (·.oneCell') = true by rw [hm]; simp [Value.oneCell'])
  have X1 := Lib.hid ((((BK.newg (w := w) (g := w.heap.size) (cs := CS) (T := 27) rfl).old (x := .cells #[.int .i64 a.w.1, .int .i64 a.w.2, .int .i64 a.t.1, .int .i64 a.t.2, .int .i64 a.h.1, .int .i64 a.h.2, .int .i64 a.v.1, .int .i64 a.v.2] 36)).old (x := .cells #[.int .i64 s.1, .int .i64 s.2] 34)).old (x := .cells #[.int .i64 0, .int .i64 0] 34))
  have X2 := Lib.hid (((BK.newg (w := (w.alloc (.cells CS 27))) (g := w.heap.size + 1) (cs := #[.int .i64 a.w.1, .int .i64 a.w.2, .int .i64 a.t.1, .int .i64 a.t.2, .int .i64 a.h.1, .int .i64 a.h.2, .int .i64 a.v.1, .int .i64 a.v.2]) (T := 36) (by simp)).old (x := .cells #[.int .i64 s.1, .int .i64 s.2] 34)).old (x := .cells #[.int .i64 0, .int .i64 0] 34))
  have X3 := Lib.hid ((BK.newg (w := ((w.alloc (.cells CS 27)).alloc (.cells #[.int .i64 a.w.1, .int .i64 a.w.2, .int .i64 a.t.1, .int .i64 a.t.2, .int .i64 a.h.1, .int .i64 a.h.2, .int .i64 a.v.1, .int .i64 a.v.2] 36))) (g := w.heap.size + 1 + 1) (cs := #[.int .i64 s.1, .int .i64 s.2]) (T := 34) (by simp)).old (x := .cells #[.int .i64 0, .int .i64 0] 34))
  have X4 := Lib.hid (BK.newg (w := (((w.alloc (.cells CS 27)).alloc (.cells #[.int .i64 a.w.1, .int .i64 a.w.2, .int .i64 a.t.1, .int .i64 a.t.2, .int .i64 a.h.1, .int .i64 a.h.2, .int .i64 a.v.1, .int .i64 a.v.2] 36)).alloc (.cells #[.int .i64 s.1, .int .i64 s.2] 34))) (g := w.heap.size + 1 + 1 + 1) (cs := #[.int .i64 0, .int .i64 0]) (T := 34) (by simp))
  have HB := Lib.hid (show Below w.heap.size w ((((w.alloc (.cells CS 27)).alloc (.cells #[.int .i64 a.w.1, .int .i64 a.w.2, .int .i64 a.t.1, .int .i64 a.t.2, .int .i64 a.h.1, .int .i64 a.h.2, .int .i64 a.v.1, .int .i64 a.v.2] 36)).alloc (.cells #[.int .i64 s.1, .int .i64 s.2] 34)).alloc (.cells #[.int .i64 0, .int .i64 0] 34)) by go_grown)
  have HE := Lib.hid (show redE r a [loL r a s] [s] = lvE r a s from rfl)
  unfold lvS
  by_cases hE : lvE r a s = 0
  · rw [if_pos hE]
    have hE' := hE
    unfold lvE at hE'
    have hv := lvl_of hE
    have HL := Lib.hid (fun (W : World) => show Calls Try.prog 80 #[.agg MS, .agg #[.int .i64 s.1, .int .i64 s.2]] W fun e w' => e = .returned (.agg #[.slice r.l.ax r.l.X.length r.l.cx, .slice r.l.ay r.l.Y.length r.l.cy, .slice r.l.av r.l.V.length r.l.cv, .int .i64 s.1, .int .i64 s.2, .int .i64 a.w.1, .int .i64 a.w.2]) ∧ Below W.heap.size W w' by rw [hm]; exact level_any r a s W)
    have HBL := Lib.hid (fun (W : World) (hW : Below w.heap.size w W) => show Calls Try.prog 67 #[.agg #[.slice r.l.ax r.l.X.length r.l.cx, .slice r.l.ay r.l.Y.length r.l.cy, .slice r.l.av r.l.V.length r.l.cv, .int .i64 s.1, .int .i64 s.2, .int .i64 a.w.1, .int .i64 a.w.2]] W fun e w' => e = .returned (.agg #[.int .i64 (loL r a s).bn.1, .int .i64 (loL r a s).bn.2]) ∧ Below W.heap.size W w' from lbound_any (loL r a s) W (rg.l.below hW) hv.l.cb)
    rw [hE'] at HR
    generalize (loL r a s).bn = p at *
    clear rg hc hm hE hE' HE hv
    go_enter Try.func29, Try.ntmps29
    go_upto_region 1 with fail
    generalize ((((w.alloc (.cells CS 27)).alloc (.cells #[.int .i64 a.w.1, .int .i64 a.w.2, .int .i64 a.t.1, .int .i64 a.t.2, .int .i64 a.h.1, .int .i64 a.h.2, .int .i64 a.v.1, .int .i64 a.v.2] 36)).alloc (.cells #[.int .i64 s.1, .int .i64 s.2] 34)).alloc (.cells #[.int .i64 0, .int .i64 0] 34)) = V1 at *
    have s0 : V1.cell? ⟨w.heap.size + 1 + 1, 0, none⟩ = some (.int .i64 s.1) := X3.out.cell 0
    have s1 : V1.cell? ⟨w.heap.size + 1 + 1, 1, none⟩ = some (.int .i64 s.2) := X3.out.cell 1
    have l3 := X4.out.lt
    go_wp2_with (first
      | ((with_reducible refine ldR X1.out HSZ.out ?_ ?_); rfl)
      | ((with_reducible refine ldA X2.out ?_ ?_ ?_); rfl; rfl)
      | (go_at_call 58; refine Calls.mono (HR.out _ _ _ (HB.out.alloc HB.out.size _) (cell_keep ((Below.refl _ _).alloc (Nat.le_refl _) _) s0) (cell_keep ((Below.refl _ _).alloc (Nat.le_refl _) _) s1) (by simp) (RS.new1 (by simp))) ?_; rintro e w1 ⟨rfl, hb1⟩; have X3 := Lib.hid (X3.out.old.keep hb1); have X4 := Lib.hid (X4.out.old.keep hb1); have KM := Lib.hid (BK.newg (w := w1) (g := w1.heap.size) (cs := #[.slice none 0 0, .slice none 0 0, .slice none 0 0, .slice none 0 0, .slice none 0 0, .slice none 0 0, .slice none 0 0, .slice none 0 0, .slice none 0 0, .slice none 0 0, .slice none 0 0, .slice none 0 0, .slice none 0 0, .slice none 0 0, .slice none 0 0, .slice none 0 0, .slice none 0 0, .slice none 0 0, .slice none 0 0, .slice none 0 0, .slice none 0 0, .slice none 0 0, .slice none 0 0, .slice none 0 0, .int .i64 0, .int .i64 0, .int .i64 0, .int .i64 0, .int .i64 0, .int .i64 0, .int .i64 0, .int .i64 0, .int .i64 0, .int .i64 0]) (T := 87) rfl); have HB1 := Lib.hid ((HB.out.alloc HB.out.size _).trans (hb1.mono (by simp; have := HB.out.size; omega))); clear hb1 s0 s1 l3)
      | ((with_reducible refine stM KM.out ?_ ?_ ?_ HMZ.out HMO.out ?_); rfl; rfl; rfl; (have KN := Lib.hid (KM.out.row (ds := MS))); (have HB2 := Lib.hid (below_setRow (HB1.out.alloc HB1.out.size (.cells #[.slice none 0 0, .slice none 0 0, .slice none 0 0, .slice none 0 0, .slice none 0 0, .slice none 0 0, .slice none 0 0, .slice none 0 0, .slice none 0 0, .slice none 0 0, .slice none 0 0, .slice none 0 0, .slice none 0 0, .slice none 0 0, .slice none 0 0, .slice none 0 0, .slice none 0 0, .slice none 0 0, .slice none 0 0, .slice none 0 0, .slice none 0 0, .slice none 0 0, .slice none 0 0, .slice none 0 0, .int .i64 0, .int .i64 0, .int .i64 0, .int .i64 0, .int .i64 0, .int .i64 0, .int .i64 0, .int .i64 0, .int .i64 0, .int .i64 0] 87)) (g := w1.heap.size) HB1.out.size MS)); (have hl3 := X3.out.lt); (have X3 := Lib.hid ((X3.out.old (x := .cells #[.slice none 0 0, .slice none 0 0, .slice none 0 0, .slice none 0 0, .slice none 0 0, .slice none 0 0, .slice none 0 0, .slice none 0 0, .slice none 0 0, .slice none 0 0, .slice none 0 0, .slice none 0 0, .slice none 0 0, .slice none 0 0, .slice none 0 0, .slice none 0 0, .slice none 0 0, .slice none 0 0, .slice none 0 0, .slice none 0 0, .slice none 0 0, .slice none 0 0, .slice none 0 0, .slice none 0 0, .int .i64 0, .int .i64 0, .int .i64 0, .int .i64 0, .int .i64 0, .int .i64 0, .int .i64 0, .int .i64 0, .int .i64 0, .int .i64 0] 87)).rowO (g := w1.heap.size) (ds := MS) (by omega))); (have hl4 := X4.out.lt); (have X4 := Lib.hid ((X4.out.old (x := .cells #[.slice none 0 0, .slice none 0 0, .slice none 0 0, .slice none 0 0, .slice none 0 0, .slice none 0 0, .slice none 0 0, .slice none 0 0, .slice none 0 0, .slice none 0 0, .slice none 0 0, .slice none 0 0, .slice none 0 0, .slice none 0 0, .slice none 0 0, .slice none 0 0, .slice none 0 0, .slice none 0 0, .slice none 0 0, .slice none 0 0, .slice none 0 0, .slice none 0 0, .slice none 0 0, .slice none 0 0, .int .i64 0, .int .i64 0, .int .i64 0, .int .i64 0, .int .i64 0, .int .i64 0, .int .i64 0, .int .i64 0, .int .i64 0, .int .i64 0] 87)).rowO (g := w1.heap.size) (ds := MS) (by omega))); clear KM; generalize (w1.alloc (.cells #[.slice none 0 0, .slice none 0 0, .slice none 0 0, .slice none 0 0, .slice none 0 0, .slice none 0 0, .slice none 0 0, .slice none 0 0, .slice none 0 0, .slice none 0 0, .slice none 0 0, .slice none 0 0, .slice none 0 0, .slice none 0 0, .slice none 0 0, .slice none 0 0, .slice none 0 0, .slice none 0 0, .slice none 0 0, .slice none 0 0, .slice none 0 0, .slice none 0 0, .slice none 0 0, .slice none 0 0, .int .i64 0, .int .i64 0, .int .i64 0, .int .i64 0, .int .i64 0, .int .i64 0, .int .i64 0, .int .i64 0, .int .i64 0, .int .i64 0] 87)).setRow w1.heap.size MS = V2 at *; (have c3 := X3.out.cell); (have l3 := X3.out.lt))
      | ((with_reducible refine ldM KN.out HMZ.out ?_ ?_); rfl)
      | (go_at_call 80; refine Calls.mono (HL.out _) ?_; rintro e w3 ⟨rfl, hb3⟩; have HB3 := Lib.hid (HB2.out.trans (hb3.mono HB2.out.size)); have X4 := Lib.hid (X4.out.keep hb3); clear hb3 c3 l3)
      | (go_at_call 67; refine Calls.mono (HBL.out _ HB3.out) ?_; rintro e w4 ⟨rfl, hb4⟩; have HB4 := Lib.hid (HB3.out.trans (hb4.mono HB3.out.size)); have X4 := Lib.hid (X4.out.keep hb4); clear hb4)
      | ((with_reducible refine stS (CS := ?_) X4.out ?_ ?_ ?_ ?_ ?_ ?_); rotate_left; rfl; rfl; rfl; rfl; simp [Value.oneCell']))
    go_simp
    refine bodyPost_ret (v := .tuple #[.agg #[.int .i64 p.1, .int .i64 p.2], .int .i64 0]) (revS Try.results29 (by rfl) (by rfl) X4.out.row (by rfl)) rfl ?_
    exact ⟨rfl, below_setRow HB4.out (by omega) _⟩
  · rw [if_neg hE]
    generalize lvE r a s = E at *
    rw [HE.out] at HR
    clear rg hc hm
    go_enter Try.func29, Try.ntmps29
    go_upto_region 1 with fail
    generalize ((((w.alloc (.cells CS 27)).alloc (.cells #[.int .i64 a.w.1, .int .i64 a.w.2, .int .i64 a.t.1, .int .i64 a.t.2, .int .i64 a.h.1, .int .i64 a.h.2, .int .i64 a.v.1, .int .i64 a.v.2] 36)).alloc (.cells #[.int .i64 s.1, .int .i64 s.2] 34)).alloc (.cells #[.int .i64 0, .int .i64 0] 34)) = V1 at *
    have s0 : V1.cell? ⟨w.heap.size + 1 + 1, 0, none⟩ = some (.int .i64 s.1) := X3.out.cell 0
    have s1 : V1.cell? ⟨w.heap.size + 1 + 1, 1, none⟩ = some (.int .i64 s.2) := X3.out.cell 1
    have l3 := X4.out.lt
    go_wp2_with (first
      | ((with_reducible refine ldR X1.out HSZ.out ?_ ?_); rfl)
      | ((with_reducible refine ldA X2.out ?_ ?_ ?_); rfl; rfl)
      | (go_at_call 58; refine Calls.mono (HR.out _ _ _ (HB.out.alloc HB.out.size _) (cell_keep ((Below.refl _ _).alloc (Nat.le_refl _) _) s0) (cell_keep ((Below.refl _ _).alloc (Nat.le_refl _) _) s1) (by simp) (RS.new1 (by simp))) ?_; rintro e w1 ⟨rfl, hb1⟩; have X4 := Lib.hid (X4.out.old.keep hb1); have KM := Lib.hid (BK.newg (w := w1) (g := w1.heap.size) (cs := #[.slice none 0 0, .slice none 0 0, .slice none 0 0, .slice none 0 0, .slice none 0 0, .slice none 0 0, .slice none 0 0, .slice none 0 0, .slice none 0 0, .slice none 0 0, .slice none 0 0, .slice none 0 0, .slice none 0 0, .slice none 0 0, .slice none 0 0, .slice none 0 0, .slice none 0 0, .slice none 0 0, .slice none 0 0, .slice none 0 0, .slice none 0 0, .slice none 0 0, .slice none 0 0, .slice none 0 0, .int .i64 0, .int .i64 0, .int .i64 0, .int .i64 0, .int .i64 0, .int .i64 0, .int .i64 0, .int .i64 0, .int .i64 0, .int .i64 0]) (T := 87) rfl); have HB1 := Lib.hid ((HB.out.alloc HB.out.size _).trans (hb1.mono (by simp; have := HB.out.size; omega))); clear hb1 s0 s1 l3)
      | ((with_reducible refine stM KM.out ?_ ?_ ?_ HMZ.out HMO.out ?_); rfl; rfl; rfl; (have KN := Lib.hid (KM.out.row (ds := MS))); (have HB2 := Lib.hid (below_setRow (HB1.out.alloc HB1.out.size (.cells #[.slice none 0 0, .slice none 0 0, .slice none 0 0, .slice none 0 0, .slice none 0 0, .slice none 0 0, .slice none 0 0, .slice none 0 0, .slice none 0 0, .slice none 0 0, .slice none 0 0, .slice none 0 0, .slice none 0 0, .slice none 0 0, .slice none 0 0, .slice none 0 0, .slice none 0 0, .slice none 0 0, .slice none 0 0, .slice none 0 0, .slice none 0 0, .slice none 0 0, .slice none 0 0, .slice none 0 0, .int .i64 0, .int .i64 0, .int .i64 0, .int .i64 0, .int .i64 0, .int .i64 0, .int .i64 0, .int .i64 0, .int .i64 0, .int .i64 0] 87)) (g := w1.heap.size) HB1.out.size MS)); (have hl4 := X4.out.lt); (have X4 := Lib.hid ((X4.out.old (x := .cells #[.slice none 0 0, .slice none 0 0, .slice none 0 0, .slice none 0 0, .slice none 0 0, .slice none 0 0, .slice none 0 0, .slice none 0 0, .slice none 0 0, .slice none 0 0, .slice none 0 0, .slice none 0 0, .slice none 0 0, .slice none 0 0, .slice none 0 0, .slice none 0 0, .slice none 0 0, .slice none 0 0, .slice none 0 0, .slice none 0 0, .slice none 0 0, .slice none 0 0, .slice none 0 0, .slice none 0 0, .int .i64 0, .int .i64 0, .int .i64 0, .int .i64 0, .int .i64 0, .int .i64 0, .int .i64 0, .int .i64 0, .int .i64 0, .int .i64 0] 87)).rowO (g := w1.heap.size) (ds := MS) (by omega))); clear KM; generalize (w1.alloc (.cells #[.slice none 0 0, .slice none 0 0, .slice none 0 0, .slice none 0 0, .slice none 0 0, .slice none 0 0, .slice none 0 0, .slice none 0 0, .slice none 0 0, .slice none 0 0, .slice none 0 0, .slice none 0 0, .slice none 0 0, .slice none 0 0, .slice none 0 0, .slice none 0 0, .slice none 0 0, .slice none 0 0, .slice none 0 0, .slice none 0 0, .slice none 0 0, .slice none 0 0, .slice none 0 0, .slice none 0 0, .int .i64 0, .int .i64 0, .int .i64 0, .int .i64 0, .int .i64 0, .int .i64 0, .int .i64 0, .int .i64 0, .int .i64 0, .int .i64 0] 87)).setRow w1.heap.size MS = V2 at *)
      | ((with_reducible refine stS (CS := ?_) X4.out ?_ ?_ ?_ ?_ ?_ ?_); rotate_left; rfl; rfl; rfl; rfl; simp [Value.oneCell']))
    go_simp
    refine bodyPost_ret (v := .tuple #[.agg #[.int .i64 0, .int .i64 0], .int .i64 E]) (revS Try.results29 (by rfl) (by rfl) X4.out.row (by rfl)) rfl ?_
    exact ⟨rfl, below_setRow HB2.out (by omega) _⟩
end Go.Proofs.Ythhokiigdgpmcaa

/- Level of layer 2's reference; Flow of both sides. -/
namespace Go.Proofs.Ythhokiigdgpmcaa
open Go.RowKit

set_option maxRecDepth 100000
theorem lvE_ref (r : RO) (a : AI) (s : Int × Int) : lvE r a s = if airE r a = 0 then (if lsB r.l s a.w then 0 else 1) else airE r a := by
  unfold lvE redE airE lsB
  cases h1 : r.ok with
  | false => rfl
  | true =>
    cases h2 : a.ok with
    | false => rfl
    | true =>
      obtain ⟨k1, _, _, _⟩ := AI.ok_get h2
      simp only [List.all_cons, List.all_nil, Bool.and_true, LO.on, loL, k1, Bool.true_and]
      cases h3 : vS s <;> simp
theorem airE_ok {r : RO} {a : AI} (h : airE r a = 0) : r.ok = true ∧ a.ok = true := by
  unfold airE at h
  cases h1 : r.ok with
  | false => rw [h1] at h; simp at h
  | true =>
    cases h2 : a.ok with
    | false => rw [h1, h2] at h; simp at h
    | true => exact ⟨rfl, rfl⟩
set_option maxHeartbeats 4000000 in
theorem rlevel_call (r : RO) (a : AI) (CS : Array Value) (s : Int × Int) (w : World) (rg : RG w r) (hc : CS = #[.slice r.h.ax r.h.X.length r.h.cx, .slice r.h.ay r.h.Y.length r.h.cy, .slice r.h.av r.h.V.length r.h.cv, .slice r.g.ax r.g.X.length r.g.cx, .slice r.g.ay r.g.Y.length r.g.cy, .slice r.g.av r.g.V.length r.g.cv, .slice r.l.ax r.l.X.length r.l.cx, .slice r.l.ay r.l.Y.length r.l.cy, .slice r.l.av r.l.V.length r.l.cv, .slice r.p.ax r.p.X.length r.p.cx, .slice r.p.ay r.p.Y.length r.p.cy, .slice r.p.av r.p.V.length r.p.cv, .slice r.n.ax r.n.X.length r.n.cx, .slice r.n.ay r.n.Y.length r.n.cy, .slice r.n.av r.n.V.length r.n.cv, .slice r.a.ax r.a.X.length r.a.cx, .slice r.a.ay r.a.Y.length r.a.cy, .slice r.a.av r.a.V.length r.a.cv, .slice r.b.ax r.b.X.length r.b.cx, .slice r.b.ay r.b.Y.length r.b.cy, .slice r.b.av r.b.V.length r.b.cv, .slice r.d.ax r.d.X.length r.d.cx, .slice r.d.ay r.d.Y.length r.d.cy, .slice r.d.av r.d.V.length r.d.cv, .int .i64 r.cl, .int .i64 r.bu]) :
    Calls Try.prog 30 #[.agg CS, .agg #[.int .i64 a.w.1, .int .i64 a.w.2, .int .i64 a.t.1, .int .i64 a.t.2, .int .i64 a.h.1, .int .i64 a.h.2, .int .i64 a.v.1, .int .i64 a.v.2], .agg #[.int .i64 s.1, .int .i64 s.2]] w fun e w' => e = .returned (.tuple #[.agg #[.int .i64 (lvS r a s).1.1, .int .i64 (lvS r a s).1.2], .int .i64 (lvS r a s).2]) ∧ Below w.heap.size w w' := by
  have HCA := Lib.hid (fun (W : World) (hW : Below w.heap.size w W) => checkAir_any r a CS W (rg.below hW) hc)
  have HSZ := Lib.hid (show CS.size = 26 by rw [hc]; rfl)
  have HC := Lib.hid hc
  have X1 := Lib.hid ((((BK.newg (w := w) (g := w.heap.size) (cs := CS) (T := 27) rfl).old (x := .cells #[.int .i64 a.w.1, .int .i64 a.w.2, .int .i64 a.t.1, .int .i64 a.t.2, .int .i64 a.h.1, .int .i64 a.h.2, .int .i64 a.v.1, .int .i64 a.v.2] 36)).old (x := .cells #[.int .i64 s.1, .int .i64 s.2] 34)).old (x := .cells #[.int .i64 0, .int .i64 0] 34))
  have X2 := Lib.hid (((BK.newg (w := (w.alloc (.cells CS 27))) (g := w.heap.size + 1) (cs := #[.int .i64 a.w.1, .int .i64 a.w.2, .int .i64 a.t.1, .int .i64 a.t.2, .int .i64 a.h.1, .int .i64 a.h.2, .int .i64 a.v.1, .int .i64 a.v.2]) (T := 36) (by simp)).old (x := .cells #[.int .i64 s.1, .int .i64 s.2] 34)).old (x := .cells #[.int .i64 0, .int .i64 0] 34))
  have X3 := Lib.hid ((BK.newg (w := ((w.alloc (.cells CS 27)).alloc (.cells #[.int .i64 a.w.1, .int .i64 a.w.2, .int .i64 a.t.1, .int .i64 a.t.2, .int .i64 a.h.1, .int .i64 a.h.2, .int .i64 a.v.1, .int .i64 a.v.2] 36))) (g := w.heap.size + 1 + 1) (cs := #[.int .i64 s.1, .int .i64 s.2]) (T := 34) (by simp)).old (x := .cells #[.int .i64 0, .int .i64 0] 34))
  have X4 := Lib.hid (BK.newg (w := (((w.alloc (.cells CS 27)).alloc (.cells #[.int .i64 a.w.1, .int .i64 a.w.2, .int .i64 a.t.1, .int .i64 a.t.2, .int .i64 a.h.1, .int .i64 a.h.2, .int .i64 a.v.1, .int .i64 a.v.2] 36)).alloc (.cells #[.int .i64 s.1, .int .i64 s.2] 34))) (g := w.heap.size + 1 + 1 + 1) (cs := #[.int .i64 0, .int .i64 0]) (T := 34) (by simp))
  have HB := Lib.hid (show Below w.heap.size w ((((w.alloc (.cells CS 27)).alloc (.cells #[.int .i64 a.w.1, .int .i64 a.w.2, .int .i64 a.t.1, .int .i64 a.t.2, .int .i64 a.h.1, .int .i64 a.h.2, .int .i64 a.v.1, .int .i64 a.v.2] 36)).alloc (.cells #[.int .i64 s.1, .int .i64 s.2] 34)).alloc (.cells #[.int .i64 0, .int .i64 0] 34)) by go_grown)
  by_cases h0 : airE r a = 0
  · obtain ⟨ho, ha⟩ := airE_ok h0
    have hct := filB_ct (ok_of ho).l
    have HLS := Lib.hid (fun (W : World) (hW : Below w.heap.size w W) => rlies_any r.l s a.w W (rg.l.below hW) hct)
    rw [h0] at HCA
    have hE := lvE_ref r a s
    rw [if_pos h0] at hE
    cases hl : lsB r.l s a.w with
    | false =>
      rw [hl] at HLS hE
      rw [show lvS r a s = ((0, 0), 1) by unfold lvS; rw [hE]; rfl]
      clear rg hc h0 ho ha hct hE hl
      go_enter Try.func30, Try.ntmps30
      go_upto_region 1 with fail
      generalize ((((w.alloc (.cells CS 27)).alloc (.cells #[.int .i64 a.w.1, .int .i64 a.w.2, .int .i64 a.t.1, .int .i64 a.t.2, .int .i64 a.h.1, .int .i64 a.h.2, .int .i64 a.v.1, .int .i64 a.v.2] 36)).alloc (.cells #[.int .i64 s.1, .int .i64 s.2] 34)).alloc (.cells #[.int .i64 0, .int .i64 0] 34)) = V1 at *
      go_wp2_with (first
      | ((with_reducible refine ldR X1.out HSZ.out ?_ ?_); rfl)
      | ((with_reducible refine ldA X2.out ?_ ?_ ?_); rfl; rfl)
      | (go_at_call 42; refine Calls.mono (HCA.out _ HB.out) ?_; rintro e w1 ⟨rfl, hb1⟩; have HB1 := Lib.hid (HB.out.trans (hb1.mono HB.out.size)); have X4 := Lib.hid (X4.out.keep hb1); have K1 := X1.out.keep hb1; have K2 := X2.out.keep hb1; have K3 := X3.out.keep hb1; have f0 : w1.cell? ⟨w.heap.size, 6, none⟩ = some (.slice r.l.ax r.l.X.length r.l.cx) := (K1.cell 6).trans (by rw [HC.out]; rfl); have f1 : w1.cell? ⟨w.heap.size, 7, none⟩ = some (.slice r.l.ay r.l.Y.length r.l.cy) := (K1.cell 7).trans (by rw [HC.out]; rfl); have f2 : w1.cell? ⟨w.heap.size, 8, none⟩ = some (.slice r.l.av r.l.V.length r.l.cv) := (K1.cell 8).trans (by rw [HC.out]; rfl); have c2 := K2.cell; have c3 := K3.cell; have l3 := K3.lt; clear hb1)
      | (go_at_call 63; refine Calls.mono (HLS.out _ HB1.out) ?_; rintro e w2 ⟨rfl, hb2⟩; have HB2 := Lib.hid (HB1.out.trans (hb2.mono HB1.out.size)); have X4 := Lib.hid (X4.out.keep hb2); clear hb2 c2 c3 l3 f0 f1 f2)
      | ((with_reducible refine stS (CS := ?_) X4.out ?_ ?_ ?_ ?_ ?_ ?_); rotate_left; rfl; rfl; rfl; rfl; simp [Value.oneCell']))
      go_simp
      refine bodyPost_ret (v := .tuple #[.agg #[.int .i64 0, .int .i64 0], .int .i64 1]) (revS Try.results30 (by rfl) (by rfl) X4.out.row (by rfl)) rfl ?_
      exact ⟨rfl, below_setRow HB2.out (by omega) _⟩
    | true =>
      rw [hl] at HLS hE
      have hE0 : lvE r a s = 0 := hE
      have hv := lvl_of hE0
      have HBN := Lib.hid (fun (W : World) (hW : Below w.heap.size w W) => show Calls Try.prog 68 #[.agg #[.slice r.l.ax r.l.X.length r.l.cx, .slice r.l.ay r.l.Y.length r.l.cy, .slice r.l.av r.l.V.length r.l.cv], .agg #[.int .i64 s.1, .int .i64 s.2], .agg #[.int .i64 a.w.1, .int .i64 a.w.2]] W fun e w' => e = .returned (.agg #[.int .i64 (loL r a s).bn.1, .int .i64 (loL r a s).bn.2]) ∧ Below W.heap.size W w' from rbnd_any (loL r a s) W (rg.l.below hW) hv.l.cb)
      rw [show lvS r a s = ((loL r a s).bn, 0) by unfold lvS; rw [if_pos hE0]]
      generalize (loL r a s).bn = p at *
      clear rg hc h0 ho ha hct hE hE0 hl hv
      go_enter Try.func30, Try.ntmps30
      go_upto_region 1 with fail
      generalize ((((w.alloc (.cells CS 27)).alloc (.cells #[.int .i64 a.w.1, .int .i64 a.w.2, .int .i64 a.t.1, .int .i64 a.t.2, .int .i64 a.h.1, .int .i64 a.h.2, .int .i64 a.v.1, .int .i64 a.v.2] 36)).alloc (.cells #[.int .i64 s.1, .int .i64 s.2] 34)).alloc (.cells #[.int .i64 0, .int .i64 0] 34)) = V1 at *
      go_wp2_with (first
      | ((with_reducible refine ldR X1.out HSZ.out ?_ ?_); rfl)
      | ((with_reducible refine ldA X2.out ?_ ?_ ?_); rfl; rfl)
      | (go_at_call 42; refine Calls.mono (HCA.out _ HB.out) ?_; rintro e w1 ⟨rfl, hb1⟩; have HB1 := Lib.hid (HB.out.trans (hb1.mono HB.out.size)); have X4 := Lib.hid (X4.out.keep hb1); have K1 := X1.out.keep hb1; have K2 := X2.out.keep hb1; have K3 := X3.out.keep hb1; have f0 : w1.cell? ⟨w.heap.size, 6, none⟩ = some (.slice r.l.ax r.l.X.length r.l.cx) := (K1.cell 6).trans (by rw [HC.out]; rfl); have f1 : w1.cell? ⟨w.heap.size, 7, none⟩ = some (.slice r.l.ay r.l.Y.length r.l.cy) := (K1.cell 7).trans (by rw [HC.out]; rfl); have f2 : w1.cell? ⟨w.heap.size, 8, none⟩ = some (.slice r.l.av r.l.V.length r.l.cv) := (K1.cell 8).trans (by rw [HC.out]; rfl); have c2 := K2.cell; have c3 := K3.cell; have l3 := K3.lt; clear hb1)
      | (go_at_call 63; refine Calls.mono (HLS.out _ HB1.out) ?_; rintro e w2 ⟨rfl, hb2⟩; have HB2 := Lib.hid (HB1.out.trans (hb2.mono HB1.out.size)); have X4 := Lib.hid (X4.out.keep hb2); clear c2 c3 l3 f0 f1 f2; have K1 := K1.keep hb2; have K2 := K2.keep hb2; have K3 := K3.keep hb2; have f0 : w2.cell? ⟨w.heap.size, 6, none⟩ = some (.slice r.l.ax r.l.X.length r.l.cx) := (K1.cell 6).trans (by rw [HC.out]; rfl); have f1 : w2.cell? ⟨w.heap.size, 7, none⟩ = some (.slice r.l.ay r.l.Y.length r.l.cy) := (K1.cell 7).trans (by rw [HC.out]; rfl); have f2 : w2.cell? ⟨w.heap.size, 8, none⟩ = some (.slice r.l.av r.l.V.length r.l.cv) := (K1.cell 8).trans (by rw [HC.out]; rfl); have c2 := K2.cell; have c3 := K3.cell; have l3 := K3.lt; clear hb2)
      | (go_at_call 68; refine Calls.mono (HBN.out _ HB2.out) ?_; rintro e w3 ⟨rfl, hb3⟩; have HB3 := Lib.hid (HB2.out.trans (hb3.mono HB2.out.size)); have X4 := Lib.hid (X4.out.keep hb3); clear hb3 c2 c3 l3 f0 f1 f2)
      | ((with_reducible refine stS (CS := ?_) X4.out ?_ ?_ ?_ ?_ ?_ ?_); rotate_left; rfl; rfl; rfl; rfl; simp [Value.oneCell']))
      go_simp
      refine bodyPost_ret (v := .tuple #[.agg #[.int .i64 p.1, .int .i64 p.2], .int .i64 0]) (revS Try.results30 (by rfl) (by rfl) X4.out.row (by rfl)) rfl ?_
      exact ⟨rfl, below_setRow HB3.out (by omega) _⟩
  · have hE := lvE_ref r a s
    rw [if_neg h0] at hE
    rw [show lvS r a s = ((0, 0), airE r a) by unfold lvS; rw [hE, if_neg h0]]
    clear hE
    generalize airE r a = E at *
    clear rg hc
    go_enter Try.func30, Try.ntmps30
    go_upto_region 1 with fail
    generalize ((((w.alloc (.cells CS 27)).alloc (.cells #[.int .i64 a.w.1, .int .i64 a.w.2, .int .i64 a.t.1, .int .i64 a.t.2, .int .i64 a.h.1, .int .i64 a.h.2, .int .i64 a.v.1, .int .i64 a.v.2] 36)).alloc (.cells #[.int .i64 s.1, .int .i64 s.2] 34)).alloc (.cells #[.int .i64 0, .int .i64 0] 34)) = V1 at *
    go_wp2_with (first
      | ((with_reducible refine ldR X1.out HSZ.out ?_ ?_); rfl)
      | ((with_reducible refine ldA X2.out ?_ ?_ ?_); rfl; rfl)
      | (go_at_call 42; refine Calls.mono (HCA.out _ HB.out) ?_; rintro e w1 ⟨rfl, hb1⟩; have HB1 := Lib.hid (HB.out.trans (hb1.mono HB.out.size)); have X4 := Lib.hid (X4.out.keep hb1); clear hb1)
      | ((with_reducible refine stS (CS := ?_) X4.out ?_ ?_ ?_ ?_ ?_ ?_); rotate_left; rfl; rfl; rfl; rfl; simp [Value.oneCell']))
    go_simp
    refine bodyPost_ret (v := .tuple #[.agg #[.int .i64 0, .int .i64 0], .int .i64 E]) (revS Try.results30 (by rfl) (by rfl) X4.out.row (by rfl)) rfl ?_
    exact ⟨rfl, below_setRow HB1.out (by omega) _⟩

def flS (r : RO) (a : AI) (s : Int × Int) : (Int × Int) × Int := if lvE r a s = 0 then partS (loL r a s).bn.1 (loL r a s).bn.2 r.bu 1000 else ((0, 0), lvE r a s)
set_option maxHeartbeats 4000000 in
theorem flow_call (r : RO) (a : AI) (CS : Array Value) (s : Int × Int) (w : World) (rg : RG w r) (hc : CS = #[.slice r.h.ax r.h.X.length r.h.cx, .slice r.h.ay r.h.Y.length r.h.cy, .slice r.h.av r.h.V.length r.h.cv, .slice r.g.ax r.g.X.length r.g.cx, .slice r.g.ay r.g.Y.length r.g.cy, .slice r.g.av r.g.V.length r.g.cv, .slice r.l.ax r.l.X.length r.l.cx, .slice r.l.ay r.l.Y.length r.l.cy, .slice r.l.av r.l.V.length r.l.cv, .slice r.p.ax r.p.X.length r.p.cx, .slice r.p.ay r.p.Y.length r.p.cy, .slice r.p.av r.p.V.length r.p.cv, .slice r.n.ax r.n.X.length r.n.cx, .slice r.n.ay r.n.Y.length r.n.cy, .slice r.n.av r.n.V.length r.n.cv, .slice r.a.ax r.a.X.length r.a.cx, .slice r.a.ay r.a.Y.length r.a.cy, .slice r.a.av r.a.V.length r.a.cv, .slice r.b.ax r.b.X.length r.b.cx, .slice r.b.ay r.b.Y.length r.b.cy, .slice r.b.av r.b.V.length r.b.cv, .slice r.d.ax r.d.X.length r.d.cx, .slice r.d.ay r.d.Y.length r.d.cy, .slice r.d.av r.d.V.length r.d.cv, .int .i64 r.cl, .int .i64 r.bu]) :
    Calls Try.prog 31 #[.agg CS, .agg #[.int .i64 a.w.1, .int .i64 a.w.2, .int .i64 a.t.1, .int .i64 a.t.2, .int .i64 a.h.1, .int .i64 a.h.2, .int .i64 a.v.1, .int .i64 a.v.2], .agg #[.int .i64 s.1, .int .i64 s.2]] w fun e w' => e = .returned (.tuple #[.agg #[.int .i64 (flS r a s).1.1, .int .i64 (flS r a s).1.2], .int .i64 (flS r a s).2]) ∧ Below w.heap.size w w' := by
  have HSZ := Lib.hid (show CS.size = 26 by rw [hc]; rfl)
  have HC := Lib.hid hc
  have X1 := Lib.hid ((((BK.newg (w := w) (g := w.heap.size) (cs := CS) (T := 27) rfl).old (x := .cells #[.int .i64 a.w.1, .int .i64 a.w.2, .int .i64 a.t.1, .int .i64 a.t.2, .int .i64 a.h.1, .int .i64 a.h.2, .int .i64 a.v.1, .int .i64 a.v.2] 36)).old (x := .cells #[.int .i64 s.1, .int .i64 s.2] 34)).old (x := .cells #[.int .i64 0, .int .i64 0] 34))
  have X2 := Lib.hid (((BK.newg (w := (w.alloc (.cells CS 27))) (g := w.heap.size + 1) (cs := #[.int .i64 a.w.1, .int .i64 a.w.2, .int .i64 a.t.1, .int .i64 a.t.2, .int .i64 a.h.1, .int .i64 a.h.2, .int .i64 a.v.1, .int .i64 a.v.2]) (T := 36) (by simp)).old (x := .cells #[.int .i64 s.1, .int .i64 s.2] 34)).old (x := .cells #[.int .i64 0, .int .i64 0] 34))
  have X3 := Lib.hid ((BK.newg (w := ((w.alloc (.cells CS 27)).alloc (.cells #[.int .i64 a.w.1, .int .i64 a.w.2, .int .i64 a.t.1, .int .i64 a.t.2, .int .i64 a.h.1, .int .i64 a.h.2, .int .i64 a.v.1, .int .i64 a.v.2] 36))) (g := w.heap.size + 1 + 1) (cs := #[.int .i64 s.1, .int .i64 s.2]) (T := 34) (by simp)).old (x := .cells #[.int .i64 0, .int .i64 0] 34))
  have X4 := Lib.hid (BK.newg (w := (((w.alloc (.cells CS 27)).alloc (.cells #[.int .i64 a.w.1, .int .i64 a.w.2, .int .i64 a.t.1, .int .i64 a.t.2, .int .i64 a.h.1, .int .i64 a.h.2, .int .i64 a.v.1, .int .i64 a.v.2] 36)).alloc (.cells #[.int .i64 s.1, .int .i64 s.2] 34))) (g := w.heap.size + 1 + 1 + 1) (cs := #[.int .i64 0, .int .i64 0]) (T := 34) (by simp))
  have HB := Lib.hid (show Below w.heap.size w ((((w.alloc (.cells CS 27)).alloc (.cells #[.int .i64 a.w.1, .int .i64 a.w.2, .int .i64 a.t.1, .int .i64 a.t.2, .int .i64 a.h.1, .int .i64 a.h.2, .int .i64 a.v.1, .int .i64 a.v.2] 36)).alloc (.cells #[.int .i64 s.1, .int .i64 s.2] 34)).alloc (.cells #[.int .i64 0, .int .i64 0] 34)) by go_grown)
  by_cases hE : lvE r a s = 0
  · have HL := Lib.hid (fun (W : World) (hW : Below w.heap.size w W) => show Calls Try.prog 29 #[.agg CS, .agg #[.int .i64 a.w.1, .int .i64 a.w.2, .int .i64 a.t.1, .int .i64 a.t.2, .int .i64 a.h.1, .int .i64 a.h.2, .int .i64 a.v.1, .int .i64 a.v.2], .agg #[.int .i64 s.1, .int .i64 s.2]] W fun e w' => e = .returned (.tuple #[.agg #[.int .i64 (loL r a s).bn.1, .int .i64 (loL r a s).bn.2], .int .i64 0]) ∧ Below W.heap.size W w' by
      have := level_call r a CS s W (rg.below hW) hc
      rw [show lvS r a s = ((loL r a s).bn, 0) by unfold lvS; rw [if_pos hE]] at this
      exact this)
    have HP := Lib.hid (fun (W : World) => part_span_any (loL r a s).bn.1 (loL r a s).bn.2 r.bu 1000 W)
    rw [show flS r a s = partS (loL r a s).bn.1 (loL r a s).bn.2 r.bu 1000 by unfold flS; rw [if_pos hE]]
    generalize partS (loL r a s).bn.1 (loL r a s).bn.2 r.bu 1000 = q at *
    obtain ⟨⟨q1, q2⟩, q3⟩ := q
    dsimp only at HP ⊢
    generalize (loL r a s).bn.1 = p1 at *
    generalize (loL r a s).bn.2 = p2 at *
    clear rg hc hE
    go_enter Try.func31, Try.ntmps31
    go_upto_region 1 with fail
    generalize ((((w.alloc (.cells CS 27)).alloc (.cells #[.int .i64 a.w.1, .int .i64 a.w.2, .int .i64 a.t.1, .int .i64 a.t.2, .int .i64 a.h.1, .int .i64 a.h.2, .int .i64 a.v.1, .int .i64 a.v.2] 36)).alloc (.cells #[.int .i64 s.1, .int .i64 s.2] 34)).alloc (.cells #[.int .i64 0, .int .i64 0] 34)) = V1 at *
    have c3 := X3.out.cell
    have l3 := X3.out.lt
    go_wp2_with (first
      | ((with_reducible refine ldR X1.out HSZ.out ?_ ?_); rfl)
      | ((with_reducible refine ldA X2.out ?_ ?_ ?_); rfl; rfl)
      | (go_at_call 29; refine Calls.mono (HL.out _ HB.out) ?_; rintro e w1 ⟨rfl, hb1⟩; have HB1 := Lib.hid (HB.out.trans (hb1.mono HB.out.size)); have X4 := Lib.hid (X4.out.keep hb1); have K1 := X1.out.keep hb1; have l1 := K1.lt; have f0 : w1.cell? ⟨w.heap.size, 25, none⟩ = some (.int .i64 r.bu) := (K1.cell 25).trans (by rw [HC.out]; rfl); clear hb1 c3 l3)
      | (go_at_call 33; refine Calls.mono (HP.out _) ?_; rintro e w2 ⟨rfl, hb2⟩; have X4 := Lib.hid (X4.out.old.keep hb2); have HB2 := Lib.hid ((HB1.out.alloc HB1.out.size _).trans (hb2.mono (by simp; have := HB1.out.size; omega))); clear hb2 f0)
      | ((with_reducible refine stS (CS := ?_) X4.out ?_ ?_ ?_ ?_ ?_ ?_); rotate_left; rfl; rfl; rfl; rfl; simp [Value.oneCell']))
    go_simp
    refine bodyPost_ret (v := .tuple #[.agg #[.int .i64 q1, .int .i64 q2], .int .i64 q3]) (revS Try.results31 (by rfl) (by rfl) X4.out.row (by rfl)) rfl ?_
    exact ⟨rfl, below_setRow HB2.out (by omega) _⟩
  · have HL := Lib.hid (fun (W : World) (hW : Below w.heap.size w W) => show Calls Try.prog 29 #[.agg CS, .agg #[.int .i64 a.w.1, .int .i64 a.w.2, .int .i64 a.t.1, .int .i64 a.t.2, .int .i64 a.h.1, .int .i64 a.h.2, .int .i64 a.v.1, .int .i64 a.v.2], .agg #[.int .i64 s.1, .int .i64 s.2]] W fun e w' => e = .returned (.tuple #[.agg #[.int .i64 0, .int .i64 0], .int .i64 (lvE r a s)]) ∧ Below W.heap.size W w' by
      have := level_call r a CS s W (rg.below hW) hc
      rw [show lvS r a s = ((0, 0), lvE r a s) by unfold lvS; rw [if_neg hE]] at this
      exact this)
    rw [show flS r a s = ((0, 0), lvE r a s) by unfold flS; rw [if_neg hE]]
    generalize lvE r a s = E at *
    clear rg hc
    go_enter Try.func31, Try.ntmps31
    go_upto_region 1 with fail
    generalize ((((w.alloc (.cells CS 27)).alloc (.cells #[.int .i64 a.w.1, .int .i64 a.w.2, .int .i64 a.t.1, .int .i64 a.t.2, .int .i64 a.h.1, .int .i64 a.h.2, .int .i64 a.v.1, .int .i64 a.v.2] 36)).alloc (.cells #[.int .i64 s.1, .int .i64 s.2] 34)).alloc (.cells #[.int .i64 0, .int .i64 0] 34)) = V1 at *
    have c3 := X3.out.cell
    have l3 := X3.out.lt
    go_wp2_with (first
      | ((with_reducible refine ldR X1.out HSZ.out ?_ ?_); rfl)
      | ((with_reducible refine ldA X2.out ?_ ?_ ?_); rfl; rfl)
      | (go_at_call 29; refine Calls.mono (HL.out _ HB.out) ?_; rintro e w1 ⟨rfl, hb1⟩; have HB1 := Lib.hid (HB.out.trans (hb1.mono HB.out.size)); have X4 := Lib.hid (X4.out.keep hb1); clear hb1 c3 l3)
      | ((with_reducible refine stS (CS := ?_) (X4.out.old) ?_ ?_ ?_ ?_ ?_ ?_); rotate_left; rfl; rfl; rfl; rfl; simp [Value.oneCell']))
    go_simp
    refine bodyPost_ret (v := .tuple #[.agg #[.int .i64 0, .int .i64 0], .int .i64 E]) (revS Try.results31 (by rfl) (by rfl) (X4.out.old).row (by rfl)) rfl ?_
    exact ⟨rfl, below_setRow (HB1.out.alloc HB1.out.size _) (by omega) _⟩
set_option maxHeartbeats 4000000 in
theorem rflow_call (r : RO) (a : AI) (CS : Array Value) (s : Int × Int) (w : World) (rg : RG w r) (hc : CS = #[.slice r.h.ax r.h.X.length r.h.cx, .slice r.h.ay r.h.Y.length r.h.cy, .slice r.h.av r.h.V.length r.h.cv, .slice r.g.ax r.g.X.length r.g.cx, .slice r.g.ay r.g.Y.length r.g.cy, .slice r.g.av r.g.V.length r.g.cv, .slice r.l.ax r.l.X.length r.l.cx, .slice r.l.ay r.l.Y.length r.l.cy, .slice r.l.av r.l.V.length r.l.cv, .slice r.p.ax r.p.X.length r.p.cx, .slice r.p.ay r.p.Y.length r.p.cy, .slice r.p.av r.p.V.length r.p.cv, .slice r.n.ax r.n.X.length r.n.cx, .slice r.n.ay r.n.Y.length r.n.cy, .slice r.n.av r.n.V.length r.n.cv, .slice r.a.ax r.a.X.length r.a.cx, .slice r.a.ay r.a.Y.length r.a.cy, .slice r.a.av r.a.V.length r.a.cv, .slice r.b.ax r.b.X.length r.b.cx, .slice r.b.ay r.b.Y.length r.b.cy, .slice r.b.av r.b.V.length r.b.cv, .slice r.d.ax r.d.X.length r.d.cx, .slice r.d.ay r.d.Y.length r.d.cy, .slice r.d.av r.d.V.length r.d.cv, .int .i64 r.cl, .int .i64 r.bu]) :
    Calls Try.prog 32 #[.agg CS, .agg #[.int .i64 a.w.1, .int .i64 a.w.2, .int .i64 a.t.1, .int .i64 a.t.2, .int .i64 a.h.1, .int .i64 a.h.2, .int .i64 a.v.1, .int .i64 a.v.2], .agg #[.int .i64 s.1, .int .i64 s.2]] w fun e w' => e = .returned (.tuple #[.agg #[.int .i64 (flS r a s).1.1, .int .i64 (flS r a s).1.2], .int .i64 (flS r a s).2]) ∧ Below w.heap.size w w' := by
  have HSZ := Lib.hid (show CS.size = 26 by rw [hc]; rfl)
  have HC := Lib.hid hc
  have X1 := Lib.hid ((((BK.newg (w := w) (g := w.heap.size) (cs := CS) (T := 27) rfl).old (x := .cells #[.int .i64 a.w.1, .int .i64 a.w.2, .int .i64 a.t.1, .int .i64 a.t.2, .int .i64 a.h.1, .int .i64 a.h.2, .int .i64 a.v.1, .int .i64 a.v.2] 36)).old (x := .cells #[.int .i64 s.1, .int .i64 s.2] 34)).old (x := .cells #[.int .i64 0, .int .i64 0] 34))
  have X2 := Lib.hid (((BK.newg (w := (w.alloc (.cells CS 27))) (g := w.heap.size + 1) (cs := #[.int .i64 a.w.1, .int .i64 a.w.2, .int .i64 a.t.1, .int .i64 a.t.2, .int .i64 a.h.1, .int .i64 a.h.2, .int .i64 a.v.1, .int .i64 a.v.2]) (T := 36) (by simp)).old (x := .cells #[.int .i64 s.1, .int .i64 s.2] 34)).old (x := .cells #[.int .i64 0, .int .i64 0] 34))
  have X3 := Lib.hid ((BK.newg (w := ((w.alloc (.cells CS 27)).alloc (.cells #[.int .i64 a.w.1, .int .i64 a.w.2, .int .i64 a.t.1, .int .i64 a.t.2, .int .i64 a.h.1, .int .i64 a.h.2, .int .i64 a.v.1, .int .i64 a.v.2] 36))) (g := w.heap.size + 1 + 1) (cs := #[.int .i64 s.1, .int .i64 s.2]) (T := 34) (by simp)).old (x := .cells #[.int .i64 0, .int .i64 0] 34))
  have X4 := Lib.hid (BK.newg (w := (((w.alloc (.cells CS 27)).alloc (.cells #[.int .i64 a.w.1, .int .i64 a.w.2, .int .i64 a.t.1, .int .i64 a.t.2, .int .i64 a.h.1, .int .i64 a.h.2, .int .i64 a.v.1, .int .i64 a.v.2] 36)).alloc (.cells #[.int .i64 s.1, .int .i64 s.2] 34))) (g := w.heap.size + 1 + 1 + 1) (cs := #[.int .i64 0, .int .i64 0]) (T := 34) (by simp))
  have HB := Lib.hid (show Below w.heap.size w ((((w.alloc (.cells CS 27)).alloc (.cells #[.int .i64 a.w.1, .int .i64 a.w.2, .int .i64 a.t.1, .int .i64 a.t.2, .int .i64 a.h.1, .int .i64 a.h.2, .int .i64 a.v.1, .int .i64 a.v.2] 36)).alloc (.cells #[.int .i64 s.1, .int .i64 s.2] 34)).alloc (.cells #[.int .i64 0, .int .i64 0] 34)) by go_grown)
  by_cases hE : lvE r a s = 0
  · have HL := Lib.hid (fun (W : World) (hW : Below w.heap.size w W) => show Calls Try.prog 30 #[.agg CS, .agg #[.int .i64 a.w.1, .int .i64 a.w.2, .int .i64 a.t.1, .int .i64 a.t.2, .int .i64 a.h.1, .int .i64 a.h.2, .int .i64 a.v.1, .int .i64 a.v.2], .agg #[.int .i64 s.1, .int .i64 s.2]] W fun e w' => e = .returned (.tuple #[.agg #[.int .i64 (loL r a s).bn.1, .int .i64 (loL r a s).bn.2], .int .i64 0]) ∧ Below W.heap.size W w' by
      have := rlevel_call r a CS s W (rg.below hW) hc
      rw [show lvS r a s = ((loL r a s).bn, 0) by unfold lvS; rw [if_pos hE]] at this
      exact this)
    have HP := Lib.hid (fun (W : World) => rpart_any (loL r a s).bn.1 (loL r a s).bn.2 r.bu 1000 W)
    rw [show flS r a s = partS (loL r a s).bn.1 (loL r a s).bn.2 r.bu 1000 by unfold flS; rw [if_pos hE]]
    generalize partS (loL r a s).bn.1 (loL r a s).bn.2 r.bu 1000 = q at *
    obtain ⟨⟨q1, q2⟩, q3⟩ := q
    dsimp only at HP ⊢
    generalize (loL r a s).bn.1 = p1 at *
    generalize (loL r a s).bn.2 = p2 at *
    clear rg hc hE
    go_enter Try.func32, Try.ntmps32
    go_upto_region 1 with fail
    generalize ((((w.alloc (.cells CS 27)).alloc (.cells #[.int .i64 a.w.1, .int .i64 a.w.2, .int .i64 a.t.1, .int .i64 a.t.2, .int .i64 a.h.1, .int .i64 a.h.2, .int .i64 a.v.1, .int .i64 a.v.2] 36)).alloc (.cells #[.int .i64 s.1, .int .i64 s.2] 34)).alloc (.cells #[.int .i64 0, .int .i64 0] 34)) = V1 at *
    have c3 := X3.out.cell
    have l3 := X3.out.lt
    go_wp2_with (first
      | ((with_reducible refine ldR X1.out HSZ.out ?_ ?_); rfl)
      | ((with_reducible refine ldA X2.out ?_ ?_ ?_); rfl; rfl)
      | (go_at_call 30; refine Calls.mono (HL.out _ HB.out) ?_; rintro e w1 ⟨rfl, hb1⟩; have HB1 := Lib.hid (HB.out.trans (hb1.mono HB.out.size)); have X4 := Lib.hid (X4.out.keep hb1); have K1 := X1.out.keep hb1; have l1 := K1.lt; have f0 : w1.cell? ⟨w.heap.size, 25, none⟩ = some (.int .i64 r.bu) := (K1.cell 25).trans (by rw [HC.out]; rfl); clear hb1 c3 l3)
      | (go_at_call 81; refine Calls.mono (HP.out _) ?_; rintro e w2 ⟨rfl, hb2⟩; have X4 := Lib.hid (X4.out.old.keep hb2); have HB2 := Lib.hid ((HB1.out.alloc HB1.out.size _).trans (hb2.mono (by simp; have := HB1.out.size; omega))); clear hb2 f0)
      | ((with_reducible refine stS (CS := ?_) X4.out ?_ ?_ ?_ ?_ ?_ ?_); rotate_left; rfl; rfl; rfl; rfl; simp [Value.oneCell']))
    go_simp
    refine bodyPost_ret (v := .tuple #[.agg #[.int .i64 q1, .int .i64 q2], .int .i64 q3]) (revS Try.results32 (by rfl) (by rfl) X4.out.row (by rfl)) rfl ?_
    exact ⟨rfl, below_setRow HB2.out (by omega) _⟩
  · have HL := Lib.hid (fun (W : World) (hW : Below w.heap.size w W) => show Calls Try.prog 30 #[.agg CS, .agg #[.int .i64 a.w.1, .int .i64 a.w.2, .int .i64 a.t.1, .int .i64 a.t.2, .int .i64 a.h.1, .int .i64 a.h.2, .int .i64 a.v.1, .int .i64 a.v.2], .agg #[.int .i64 s.1, .int .i64 s.2]] W fun e w' => e = .returned (.tuple #[.agg #[.int .i64 0, .int .i64 0], .int .i64 (lvE r a s)]) ∧ Below W.heap.size W w' by
      have := rlevel_call r a CS s W (rg.below hW) hc
      rw [show lvS r a s = ((0, 0), lvE r a s) by unfold lvS; rw [if_neg hE]] at this
      exact this)
    rw [show flS r a s = ((0, 0), lvE r a s) by unfold flS; rw [if_neg hE]]
    generalize lvE r a s = E at *
    clear rg hc
    go_enter Try.func32, Try.ntmps32
    go_upto_region 1 with fail
    generalize ((((w.alloc (.cells CS 27)).alloc (.cells #[.int .i64 a.w.1, .int .i64 a.w.2, .int .i64 a.t.1, .int .i64 a.t.2, .int .i64 a.h.1, .int .i64 a.h.2, .int .i64 a.v.1, .int .i64 a.v.2] 36)).alloc (.cells #[.int .i64 s.1, .int .i64 s.2] 34)).alloc (.cells #[.int .i64 0, .int .i64 0] 34)) = V1 at *
    have c3 := X3.out.cell
    have l3 := X3.out.lt
    go_wp2_with (first
      | ((with_reducible refine ldR X1.out HSZ.out ?_ ?_); rfl)
      | ((with_reducible refine ldA X2.out ?_ ?_ ?_); rfl; rfl)
      | (go_at_call 30; refine Calls.mono (HL.out _ HB.out) ?_; rintro e w1 ⟨rfl, hb1⟩; have HB1 := Lib.hid (HB.out.trans (hb1.mono HB.out.size)); have X4 := Lib.hid (X4.out.keep hb1); clear hb1 c3 l3)
      | ((with_reducible refine stS (CS := ?_) (X4.out.old) ?_ ?_ ?_ ?_ ?_ ?_); rotate_left; rfl; rfl; rfl; rfl; simp [Value.oneCell']))
    go_simp
    refine bodyPost_ret (v := .tuple #[.agg #[.int .i64 0, .int .i64 0], .int .i64 E]) (revS Try.results32 (by rfl) (by rfl) (X4.out.old).row (by rfl)) rfl ?_
    exact ⟨rfl, below_setRow (HB1.out.alloc HB1.out.size _) (by omega) _⟩
end Go.Proofs.Ythhokiigdgpmcaa

/- law of RotorLevels. -/
namespace Go.Proofs.Ythhokiigdgpmcaa
open Go.RowKit

set_option maxRecDepth 100000
theorem bound_same {t u : TV} (h : t.same u) (x y : Int × Int) (W : World) (ht : TG W u) (hc : cbE t.X t.Y t.V x.1 x.2 y.1 y.2 = 0) : Calls Try.prog 25 #[.agg #[.slice u.ax u.X.length u.cx, .slice u.ay u.Y.length u.cy, .slice u.av u.V.length u.cv], .agg #[.int .i64 x.1, .int .i64 x.2], .agg #[.int .i64 y.1, .int .i64 y.2]] W fun e w' => e = .returned (.tuple #[.agg #[.int .i64 (bnT t x y).1, .int .i64 (bnT t x y).2], .int .i64 0]) ∧ Below W.heap.size W w' := by
  obtain ⟨a1, a2, a3⟩ := h
  have := bound_ok u.ax u.ay u.av u.X.length u.cx u.Y.length u.cy u.V.length u.cv W.heap.size u.X u.Y u.V x.1 x.2 y.1 y.2 W rfl rfl rfl ht.hx ht.hy ht.hv ht.hr (Nat.le_refl _) ht.tb (by rw [a1, a2, a3]; exact hc)
  unfold bnT
  rw [← a1, ← a2, ← a3]
  exact this
theorem same_lvE {r q : RO} (h : r.same q) (a : AI) (s : Int × Int) : lvE q a s = lvE r a s := by
  have hok := same_ok h
  obtain ⟨_, _, ⟨c1, c2, c3⟩, _⟩ := h
  unfold lvE redE
  rw [hok]
  simp only [List.all_cons, List.all_nil, LO.on, loL, c1, c2]
  rfl
theorem same_lvS {r q : RO} (h : r.same q) (a : AI) (s : Int × Int) : lvS q a s = lvS r a s := by
  unfold lvS
  rw [same_lvE h, same_bn (l := loL r a s) (m := loL q a s) h.l rfl rfl]
theorem same_flS {r q : RO} (h : r.same q) (a : AI) (s : Int × Int) : flS q a s = flS r a s := by
  unfold flS
  rw [same_lvE h, same_bn (l := loL r a s) (m := loL q a s) h.l rfl rfl, h.bu]
theorem flS_lv {r : RO} {a : AI} {s : Int × Int} (h : (flS r a s).2 = 0) : lvE r a s = 0 ∧ flS r a s = partS (loL r a s).bn.1 (loL r a s).bn.2 r.bu 1000 := by
  unfold flS at h ⊢
  split at h
  · rename_i h1
    exact ⟨h1, if_pos h1⟩
  · rename_i h1
    exact absurd h h1
set_option maxHeartbeats 8000000 in
theorem law_levels (wk : WK2) (w : World) (r : RO) (rg : RG w r) (a : AI) (s : Int × Int) : Calls Try.prog 6 #[.agg #[.slice r.h.ax r.h.X.length r.h.cx, .slice r.h.ay r.h.Y.length r.h.cy, .slice r.h.av r.h.V.length r.h.cv, .slice r.g.ax r.g.X.length r.g.cx, .slice r.g.ay r.g.Y.length r.g.cy, .slice r.g.av r.g.V.length r.g.cv, .slice r.l.ax r.l.X.length r.l.cx, .slice r.l.ay r.l.Y.length r.l.cy, .slice r.l.av r.l.V.length r.l.cv, .slice r.p.ax r.p.X.length r.p.cx, .slice r.p.ay r.p.Y.length r.p.cy, .slice r.p.av r.p.V.length r.p.cv, .slice r.n.ax r.n.X.length r.n.cx, .slice r.n.ay r.n.Y.length r.n.cy, .slice r.n.av r.n.V.length r.n.cv, .slice r.a.ax r.a.X.length r.a.cx, .slice r.a.ay r.a.Y.length r.a.cy, .slice r.a.av r.a.V.length r.a.cv, .slice r.b.ax r.b.X.length r.b.cx, .slice r.b.ay r.b.Y.length r.b.cy, .slice r.b.av r.b.V.length r.b.cv, .slice r.d.ax r.d.X.length r.d.cx, .slice r.d.ay r.d.Y.length r.d.cy, .slice r.d.av r.d.V.length r.d.cv, .int .i64 r.cl, .int .i64 r.bu], .agg #[.int .i64 a.w.1, .int .i64 a.w.2, .int .i64 a.t.1, .int .i64 a.t.2, .int .i64 a.h.1, .int .i64 a.h.2, .int .i64 a.v.1, .int .i64 a.v.2], .agg #[.int .i64 s.1, .int .i64 s.2]] w fun e w' => e = .returned (.bool true) ∧ Below w.heap.size w w' := by
  obtain ⟨CS, hc⟩ : ∃ CS : Array Value, #[.slice r.h.ax r.h.X.length r.h.cx, .slice r.h.ay r.h.Y.length r.h.cy, .slice r.h.av r.h.V.length r.h.cv, .slice r.g.ax r.g.X.length r.g.cx, .slice r.g.ay r.g.Y.length r.g.cy, .slice r.g.av r.g.V.length r.g.cv, .slice r.l.ax r.l.X.length r.l.cx, .slice r.l.ay r.l.Y.length r.l.cy, .slice r.l.av r.l.V.length r.l.cv, .slice r.p.ax r.p.X.length r.p.cx, .slice r.p.ay r.p.Y.length r.p.cy, .slice r.p.av r.p.V.length r.p.cv, .slice r.n.ax r.n.X.length r.n.cx, .slice r.n.ay r.n.Y.length r.n.cy, .slice r.n.av r.n.V.length r.n.cv, .slice r.a.ax r.a.X.length r.a.cx, .slice r.a.ay r.a.Y.length r.a.cy, .slice r.a.av r.a.V.length r.a.cv, .slice r.b.ax r.b.X.length r.b.cx, .slice r.b.ay r.b.Y.length r.b.cy, .slice r.b.av r.b.V.length r.b.cv, .slice r.d.ax r.d.X.length r.d.cx, .slice r.d.ay r.d.Y.length r.d.cy, .slice r.d.av r.d.V.length r.d.cv, .int .i64 r.cl, .int .i64 r.bu] = CS := ⟨_, rfl⟩
  have HFA := Lib.hid (fun (W : World) (hW : Below w.heap.size w W) => show Calls Try.prog 14 #[.agg CS] W fun e w' => e = .returned (.bool r.far) ∧ Below W.heap.size W w' by rw [← hc]; exact rfar_any r W (rg.below hW))
  have HSZ := Lib.hid (show CS.size = 26 by rw [← hc]; rfl)
  have HC := Lib.hid hc.symm
  have X1 := Lib.hid (((BK.newg (w := w) (g := w.heap.size) (cs := CS) (T := 27) rfl).old (x := .cells #[.int .i64 a.w.1, .int .i64 a.w.2, .int .i64 a.t.1, .int .i64 a.t.2, .int .i64 a.h.1, .int .i64 a.h.2, .int .i64 a.v.1, .int .i64 a.v.2] 36)).old (x := .cells #[.int .i64 s.1, .int .i64 s.2] 34))
  have X2 := Lib.hid ((BK.newg (w := (w.alloc (.cells CS 27))) (g := w.heap.size + 1) (cs := #[.int .i64 a.w.1, .int .i64 a.w.2, .int .i64 a.t.1, .int .i64 a.t.2, .int .i64 a.h.1, .int .i64 a.h.2, .int .i64 a.v.1, .int .i64 a.v.2]) (T := 36) (by simp)).old (x := .cells #[.int .i64 s.1, .int .i64 s.2] 34))
  have X3 := Lib.hid (BK.newg (w := ((w.alloc (.cells CS 27)).alloc (.cells #[.int .i64 a.w.1, .int .i64 a.w.2, .int .i64 a.t.1, .int .i64 a.t.2, .int .i64 a.h.1, .int .i64 a.h.2, .int .i64 a.v.1, .int .i64 a.v.2] 36))) (g := w.heap.size + 1 + 1) (cs := #[.int .i64 s.1, .int .i64 s.2]) (T := 34) (by simp))
  have HB := Lib.hid (show Below w.heap.size w (((w.alloc (.cells CS 27)).alloc (.cells #[.int .i64 a.w.1, .int .i64 a.w.2, .int .i64 a.t.1, .int .i64 a.t.2, .int .i64 a.h.1, .int .i64 a.h.2, .int .i64 a.v.1, .int .i64 a.v.2] 36)).alloc (.cells #[.int .i64 s.1, .int .i64 s.2] 34)) by go_grown)
  have HW := Lib.hid wk
  have HRR := Lib.hid (fun (W : World) (hW : Below w.heap.size w W) => rg.below hW)
  rw [hc]
  cases hf : r.far with
  | true =>
    rw [hf] at HFA
    clear rg hc hf
    go_enter Try.func6, Try.ntmps6
    go_upto_region 1 with fail
    generalize (((w.alloc (.cells CS 27)).alloc (.cells #[.int .i64 a.w.1, .int .i64 a.w.2, .int .i64 a.t.1, .int .i64 a.t.2, .int .i64 a.h.1, .int .i64 a.h.2, .int .i64 a.v.1, .int .i64 a.v.2] 36)).alloc (.cells #[.int .i64 s.1, .int .i64 s.2] 34)) = V1 at *
    go_wp2_with (first
      | ((with_reducible refine ldR X1.out HSZ.out ?_ ?_); rfl)
      | (go_at_call 14; refine Calls.mono (HFA.out _ HB.out) ?_; rintro e w1 ⟨rfl, hb1⟩; have HB1 := Lib.hid (HB.out.trans (hb1.mono HB.out.size)); clear hb1)
      | (go_at_call 15; refine Calls.mono (HW.out _) ?_; rintro e w2 ⟨rfl, hb2⟩; have HB2 := Lib.hid (HB1.out.trans (hb2.mono HB1.out.size)); clear hb2))
    go_ret
    exact ⟨rfl, HB2.out⟩
  | false =>
    have HO := Lib.hid (fun (W : World) (hW : Below w.heap.size w W) => own_any r W (rg.below hW) (RO.small_of hf) CS hc.symm)
    rw [hf] at HFA
    clear rg hc hf
    go_enter Try.func6, Try.ntmps6
    go_upto_region 1 with fail
    generalize (((w.alloc (.cells CS 27)).alloc (.cells #[.int .i64 a.w.1, .int .i64 a.w.2, .int .i64 a.t.1, .int .i64 a.t.2, .int .i64 a.h.1, .int .i64 a.h.2, .int .i64 a.v.1, .int .i64 a.v.2] 36)).alloc (.cells #[.int .i64 s.1, .int .i64 s.2] 34)) = V1 at *
    go_upto_region 4 with (first
      | ((with_reducible refine ldR X1.out HSZ.out ?_ ?_); rfl)
      | (go_at_call 14; refine Calls.mono (HFA.out _ HB.out) ?_; rintro e w1 ⟨rfl, hb1⟩; have HB1 := Lib.hid (HB.out.trans (hb1.mono HB.out.size)); have X1 := Lib.hid (X1.out.keep hb1); have X2 := Lib.hid (X2.out.keep hb1); have X3 := Lib.hid (X3.out.keep hb1); clear hb1)
      | (go_at_call 17; refine Calls.mono (HO.out _ HB1.out) ?_; rintro e w2 ⟨q, rfl, hs, hg, hb2⟩; (obtain ⟨QS, hq⟩ : ∃ QS : Array Value, #[.slice q.h.ax q.h.X.length q.h.cx, .slice q.h.ay q.h.Y.length q.h.cy, .slice q.h.av q.h.V.length q.h.cv, .slice q.g.ax q.g.X.length q.g.cx, .slice q.g.ay q.g.Y.length q.g.cy, .slice q.g.av q.g.V.length q.g.cv, .slice q.l.ax q.l.X.length q.l.cx, .slice q.l.ay q.l.Y.length q.l.cy, .slice q.l.av q.l.V.length q.l.cv, .slice q.p.ax q.p.X.length q.p.cx, .slice q.p.ay q.p.Y.length q.p.cy, .slice q.p.av q.p.V.length q.p.cv, .slice q.n.ax q.n.X.length q.n.cx, .slice q.n.ay q.n.Y.length q.n.cy, .slice q.n.av q.n.V.length q.n.cv, .slice q.a.ax q.a.X.length q.a.cx, .slice q.a.ay q.a.Y.length q.a.cy, .slice q.a.av q.a.V.length q.a.cv, .slice q.b.ax q.b.X.length q.b.cx, .slice q.b.ay q.b.Y.length q.b.cy, .slice q.b.av q.b.V.length q.b.cv, .slice q.d.ax q.d.X.length q.d.cx, .slice q.d.ay q.d.Y.length q.d.cy, .slice q.d.av q.d.V.length q.d.cv, .int .i64 q.cl, .int .i64 q.bu] = QS := ⟨_, rfl⟩); rw [hq]; have HB2 := Lib.hid (HB1.out.trans (hb2.mono HB1.out.size)); have X1 := Lib.hid (X1.out.keep hb2); have X2 := Lib.hid (X2.out.keep hb2); have X3 := Lib.hid (X3.out.keep hb2); have HS := Lib.hid hs; have HG := Lib.hid hg.now; have HQ := Lib.hid hq.symm; have HQZ := Lib.hid (show QS.size = 26 by rw [← hq]; rfl); have HQO := Lib.hid (show QS.all (·.oneCell') = true by rw [← hq]; simp [Value.oneCell']); have XQ := Lib.hid (BK.newg (w := w2) (g := w2.heap.size) (cs := #[.slice none 0 0, .slice none 0 0, .slice none 0 0, .slice none 0 0, .slice none 0 0, .slice none 0 0, .slice none 0 0, .slice none 0 0, .slice none 0 0, .slice none 0 0, .slice none 0 0, .slice none 0 0, .slice none 0 0, .slice none 0 0, .slice none 0 0, .slice none 0 0, .slice none 0 0, .slice none 0 0, .slice none 0 0, .slice none 0 0, .slice none 0 0, .slice none 0 0, .slice none 0 0, .slice none 0 0, .int .i64 0, .int .i64 0]) (T := 27) rfl); clear hs hg hq hb2)
      | ((with_reducible refine stR XQ.out ?_ ?_ ?_ HQZ.out HQO.out ?_); rfl; rfl; rfl))
    obtain ⟨V3, hV3⟩ : ∃ W, (w2.alloc (.cells #[.slice none 0 0, .slice none 0 0, .slice none 0 0, .slice none 0 0, .slice none 0 0, .slice none 0 0, .slice none 0 0, .slice none 0 0, .slice none 0 0, .slice none 0 0, .slice none 0 0, .slice none 0 0, .slice none 0 0, .slice none 0 0, .slice none 0 0, .slice none 0 0, .slice none 0 0, .slice none 0 0, .slice none 0 0, .slice none 0 0, .slice none 0 0, .slice none 0 0, .slice none 0 0, .slice none 0 0, .int .i64 0, .int .i64 0] 27)).setRow w2.heap.size QS = W := ⟨_, rfl⟩
    rw [hV3]
    have hb3 : Below w2.heap.size w2 V3 := by rw [← hV3]; exact below_setRow ((Below.refl _ _).alloc (Nat.le_refl _) _) (Nat.le_refl _) _
    have XQ := Lib.hid (show BK V3 w2.heap.size QS 27 by rw [← hV3]; exact XQ.out.row)
    have X1 := Lib.hid (X1.out.keep hb3)
    have X2 := Lib.hid (X2.out.keep hb3)
    have X3 := Lib.hid (X3.out.keep hb3)
    have HB3 := Lib.hid (HB2.out.trans (hb3.mono HB2.out.size))
    have HRQ := Lib.hid (HG.out.below hb3)
    clear hb3 hV3 HG HB1 HB2 HQO HO HFA HB
    generalize w2.heap.size = gq at *
    have H1 := Lib.hid (fun (W : World) (hq : RG W q) => show Calls Try.prog 29 #[.agg QS, .agg #[.int .i64 a.w.1, .int .i64 a.w.2, .int .i64 a.t.1, .int .i64 a.t.2, .int .i64 a.h.1, .int .i64 a.h.2, .int .i64 a.v.1, .int .i64 a.v.2], .agg #[.int .i64 s.1, .int .i64 s.2]] W fun e w' => e = .returned (.tuple #[.agg #[.int .i64 (lvS r a s).1.1, .int .i64 (lvS r a s).1.2], .int .i64 (lvS r a s).2]) ∧ Below W.heap.size W w' by
      have := level_call q a QS s W hq HQ.out
      rw [same_lvS HS.out] at this
      exact this)
    have H2 := Lib.hid (fun (W : World) (hW : Below w.heap.size w W) => rlevel_call r a CS s W (HRR.out W hW) HC.out)
    have H3 := Lib.hid (fun (W : World) (hq : RG W q) => show Calls Try.prog 31 #[.agg QS, .agg #[.int .i64 a.w.1, .int .i64 a.w.2, .int .i64 a.t.1, .int .i64 a.t.2, .int .i64 a.h.1, .int .i64 a.h.2, .int .i64 a.v.1, .int .i64 a.v.2], .agg #[.int .i64 s.1, .int .i64 s.2]] W fun e w' => e = .returned (.tuple #[.agg #[.int .i64 (flS r a s).1.1, .int .i64 (flS r a s).1.2], .int .i64 (flS r a s).2]) ∧ Below W.heap.size W w' by
      have := flow_call q a QS s W hq HQ.out
      rw [same_flS HS.out] at this
      exact this)
    have H4 := Lib.hid (fun (W : World) (hW : Below w.heap.size w W) => rflow_call r a CS s W (HRR.out W hW) HC.out)
    have HFL := Lib.hid (@flS_lv r a s)
    have H5 := Lib.hid (fun (h0 : (flS r a s).2 = 0) (W : World) (hq : RG W q) => show Calls Try.prog 25 #[.agg #[.slice q.l.ax q.l.X.length q.l.cx, .slice q.l.ay q.l.Y.length q.l.cy, .slice q.l.av q.l.V.length q.l.cv], .agg #[.int .i64 s.1, .int .i64 s.2], .agg #[.int .i64 a.w.1, .int .i64 a.w.2]] W fun e w' => e = .returned (.tuple #[.agg #[.int .i64 (lvS r a s).1.1, .int .i64 (lvS r a s).1.2], .int .i64 (lvS r a s).2]) ∧ Below W.heap.size W w' by
      have hE := (HFL.out h0).1
      have hv := lvl_of hE
      have := bound_same HS.out.l s a.w W hq.l hv.l.cb
      unfold lvS
      rw [if_pos hE]
      exact this)
    have H6 := Lib.hid (fun (h0 : (flS r a s).2 = 0) (W : World) => show Calls Try.prog 33 #[.agg #[.int .i64 (lvS r a s).1.1, .int .i64 (lvS r a s).1.2], .int .i64 r.bu, .int .i64 1000] W fun e w' => e = .returned (.tuple #[.agg #[.int .i64 (flS r a s).1.1, .int .i64 (flS r a s).1.2], .int .i64 (flS r a s).2]) ∧ Below W.heap.size W w' by
      obtain ⟨hE, hp⟩ := HFL.out h0
      rw [hp]
      unfold lvS
      rw [if_pos hE]
      exact part_span_any (loL r a s).bn.1 (loL r a s).bn.2 r.bu 1000 W)
    have HLZ := Lib.hid (fun (h0 : (flS r a s).2 = 0) => show (lvS r a s).2 = 0 by unfold lvS; rw [if_pos (HFL.out h0).1])
    clear HFL
    generalize lvS r a s = lv at *
    generalize flS r a s = fl at *
    obtain ⟨⟨p1, p2⟩, pe⟩ := lv
    obtain ⟨⟨q1, q2⟩, qe⟩ := fl
    dsimp only at H1 H2 H3 H4 H5 H6 HLZ
    by_cases hz : qe = 0
    · subst hz
      have HZ := Lib.hid (HLZ.out rfl)
      have J5 := Lib.hid (H5.out rfl)
      have J6 := Lib.hid (H6.out rfl)
      have e9 := HZ.out
      subst e9
      go_wp2_with (first
      | ((with_reducible refine ldR X1.out HSZ.out ?_ ?_); rfl)
      | ((with_reducible refine ldR X1.out.old HSZ.out ?_ ?_); rfl)
      | ((with_reducible refine ldR XQ.out HQZ.out ?_ ?_); rfl)
      | ((with_reducible refine ldR XQ.out.old HQZ.out ?_ ?_); rfl)
      | ((with_reducible refine ldA X2.out ?_ ?_ ?_); rfl; rfl)
      | ((with_reducible refine ldA X2.out.old ?_ ?_ ?_); rfl; rfl)
      | ((with_reducible refine ldS X3.out ?_ ?_ ?_); rfl; rfl)
      | ((with_reducible refine ldS X3.out.old ?_ ?_ ?_); rfl; rfl)
      | (go_at_call 29; refine Calls.mono (H1.out _ HRQ.out) ?_; rintro e w4 ⟨rfl, hb4⟩; have X1 := Lib.hid (X1.out.keep hb4); have X2 := Lib.hid (X2.out.keep hb4); have X3 := Lib.hid (X3.out.keep hb4); have XQ := Lib.hid (XQ.out.keep hb4); have HB4 := Lib.hid (HB3.out.trans (hb4.mono HB3.out.size)); have HRQ := Lib.hid ((HRQ.out).below hb4); clear hb4)
      | (go_at_call 30; refine Calls.mono (H2.out _ (HB4.out.alloc HB4.out.size _)) ?_; rintro e w5 ⟨rfl, hb5⟩; have X1 := Lib.hid (X1.out.old.keep hb5); have X2 := Lib.hid (X2.out.old.keep hb5); have X3 := Lib.hid (X3.out.old.keep hb5); have XQ := Lib.hid (XQ.out.old.keep hb5); have K1 := Lib.hid ((BK.newg (w := w4) (g := w4.heap.size) (cs := #[.int .i64 p1, .int .i64 p2]) (T := 34) rfl).keep hb5); have HB5 := Lib.hid ((HB4.out.alloc HB4.out.size _).trans (hb5.mono (by simp; have := HB4.out.size; omega))); have HRQ := Lib.hid ((HRQ.out.below ((Below.refl _ _).alloc (Nat.le_refl _) _)).below hb5); clear hb5)
      | (go_at_call 31; refine Calls.mono (H3.out _ (HRQ.out.below ((Below.refl _ _).alloc (Nat.le_refl _) _))) ?_; rintro e w6 ⟨rfl, hb6⟩; have X1 := Lib.hid (X1.out.old.keep hb6); have X2 := Lib.hid (X2.out.old.keep hb6); have X3 := Lib.hid (X3.out.old.keep hb6); have XQ := Lib.hid (XQ.out.old.keep hb6); have K1 := Lib.hid (K1.out.old.keep hb6); have K2 := Lib.hid ((BK.newg (w := w5) (g := w5.heap.size) (cs := #[.int .i64 p1, .int .i64 p2]) (T := 34) rfl).keep hb6); have HB6 := Lib.hid ((HB5.out.alloc HB5.out.size _).trans (hb6.mono (by simp; have := HB5.out.size; omega))); have HRQ := Lib.hid ((HRQ.out.below ((Below.refl _ _).alloc (Nat.le_refl _) _)).below hb6); clear hb6)
      | (go_at_call 32; refine Calls.mono (H4.out _ (HB6.out.alloc HB6.out.size _)) ?_; rintro e w7 ⟨rfl, hb7⟩; have X1 := Lib.hid (X1.out.old.keep hb7); have X2 := Lib.hid (X2.out.old.keep hb7); have X3 := Lib.hid (X3.out.old.keep hb7); have XQ := Lib.hid (XQ.out.old.keep hb7); have K1 := Lib.hid (K1.out.old.keep hb7); have K2 := Lib.hid (K2.out.old.keep hb7); have K3 := Lib.hid ((BK.newg (w := w6) (g := w6.heap.size) (cs := #[.int .i64 q1, .int .i64 q2]) (T := 34) rfl).keep hb7); have HB7 := Lib.hid ((HB6.out.alloc HB6.out.size _).trans (hb7.mono (by simp; have := HB6.out.size; omega))); have HRQ := Lib.hid ((HRQ.out.below ((Below.refl _ _).alloc (Nat.le_refl _) _)).below hb7); have c1 := K1.out.cell; have l1 := K1.out.lt; have c2 := K2.out.cell; have l2 := K2.out.lt; have c3 := K3.out.cell; have l3 := K3.out.lt; have f0 : w7.cell? ⟨gq, 6, none⟩ = some (.slice q.l.ax q.l.X.length q.l.cx) := (XQ.out.cell 6).trans (by rw [HQ.out]; rfl); have f1 : w7.cell? ⟨gq, 7, none⟩ = some (.slice q.l.ay q.l.Y.length q.l.cy) := (XQ.out.cell 7).trans (by rw [HQ.out]; rfl); have f2 : w7.cell? ⟨gq, 8, none⟩ = some (.slice q.l.av q.l.V.length q.l.cv) := (XQ.out.cell 8).trans (by rw [HQ.out]; rfl); have lq := XQ.out.lt; have d2 := X2.out.cell; have d3 := X3.out.cell; have m3 := X3.out.lt; have m2 := X2.out.lt; clear hb7)
      | (go_at_call 25; refine Calls.mono (J5.out _ (HRQ.out.below ((Below.refl _ _).alloc (Nat.le_refl _) _))) ?_; rintro e w8 ⟨rfl, hb8⟩; have X1 := Lib.hid (X1.out.old.keep hb8); have K1 := Lib.hid (K1.out.old.keep hb8); have K2 := Lib.hid (K2.out.old.keep hb8); have K3 := Lib.hid (K3.out.old.keep hb8); have K4 := Lib.hid ((BK.newg (w := w7) (g := w7.heap.size) (cs := #[.int .i64 q1, .int .i64 q2]) (T := 34) rfl).keep hb8); have HB8 := Lib.hid ((HB7.out.alloc HB7.out.size _).trans (hb8.mono (by simp; have := HB7.out.size; omega))); clear c1 c2 c3 l1 l2 l3 f0 f1 f2 lq d2 d3 m2 m3; have fb : w8.cell? ⟨w.heap.size, 25, none⟩ = some (.int .i64 r.bu) := (X1.out.cell 25).trans (by rw [HC.out]; rfl); have lb := X1.out.lt; clear hb8)
      | (go_at_call 33; refine Calls.mono (J6.out _) ?_; rintro e w9 ⟨rfl, hb9⟩; have K1 := Lib.hid (K1.out.old.keep hb9); have K3 := Lib.hid (K3.out.old.keep hb9); have K5 := Lib.hid ((BK.newg (w := w8) (g := w8.heap.size) (cs := #[.int .i64 p1, .int .i64 p2]) (T := 34) rfl).keep hb9); have HB9 := Lib.hid ((HB8.out.alloc HB8.out.size _).trans (hb9.mono (by simp; have := HB8.out.size; omega))); clear fb lb; have c1 := K1.out.cell; have l1 := K1.out.lt; have c3 := K3.out.cell; have l3 := K3.out.lt; have c5 := K5.out.cell; have l5 := K5.out.lt; clear hb9)
      | (go_at_call 15; refine Calls.mono (HW.out _) ?_; rintro e w10 ⟨rfl, hb10⟩; have HB10 := Lib.hid ((HB9.out.alloc HB9.out.size _).trans (hb10.mono (by simp; have := HB9.out.size; omega))); clear hb10))
      go_ret
      exact ⟨rfl, HB10.out⟩
    · have hz' : (qe != 0) = true := by rw [bne_iff_ne]; exact hz
      go_wp2_with (first
      | ((with_reducible refine ldR X1.out HSZ.out ?_ ?_); rfl)
      | ((with_reducible refine ldR X1.out.old HSZ.out ?_ ?_); rfl)
      | ((with_reducible refine ldR XQ.out HQZ.out ?_ ?_); rfl)
      | ((with_reducible refine ldR XQ.out.old HQZ.out ?_ ?_); rfl)
      | ((with_reducible refine ldA X2.out ?_ ?_ ?_); rfl; rfl)
      | ((with_reducible refine ldA X2.out.old ?_ ?_ ?_); rfl; rfl)
      | ((with_reducible refine ldS X3.out ?_ ?_ ?_); rfl; rfl)
      | ((with_reducible refine ldS X3.out.old ?_ ?_ ?_); rfl; rfl)
      | (go_at_call 29; refine Calls.mono (H1.out _ HRQ.out) ?_; rintro e w4 ⟨rfl, hb4⟩; have X1 := Lib.hid (X1.out.keep hb4); have X2 := Lib.hid (X2.out.keep hb4); have X3 := Lib.hid (X3.out.keep hb4); have XQ := Lib.hid (XQ.out.keep hb4); have HB4 := Lib.hid (HB3.out.trans (hb4.mono HB3.out.size)); have HRQ := Lib.hid ((HRQ.out).below hb4); clear hb4)
      | (go_at_call 30; refine Calls.mono (H2.out _ (HB4.out.alloc HB4.out.size _)) ?_; rintro e w5 ⟨rfl, hb5⟩; have X1 := Lib.hid (X1.out.old.keep hb5); have X2 := Lib.hid (X2.out.old.keep hb5); have X3 := Lib.hid (X3.out.old.keep hb5); have XQ := Lib.hid (XQ.out.old.keep hb5); have K1 := Lib.hid ((BK.newg (w := w4) (g := w4.heap.size) (cs := #[.int .i64 p1, .int .i64 p2]) (T := 34) rfl).keep hb5); have HB5 := Lib.hid ((HB4.out.alloc HB4.out.size _).trans (hb5.mono (by simp; have := HB4.out.size; omega))); have HRQ := Lib.hid ((HRQ.out.below ((Below.refl _ _).alloc (Nat.le_refl _) _)).below hb5); clear hb5)
      | (go_at_call 31; refine Calls.mono (H3.out _ (HRQ.out.below ((Below.refl _ _).alloc (Nat.le_refl _) _))) ?_; rintro e w6 ⟨rfl, hb6⟩; have X1 := Lib.hid (X1.out.old.keep hb6); have X2 := Lib.hid (X2.out.old.keep hb6); have X3 := Lib.hid (X3.out.old.keep hb6); have XQ := Lib.hid (XQ.out.old.keep hb6); have K1 := Lib.hid (K1.out.old.keep hb6); have K2 := Lib.hid ((BK.newg (w := w5) (g := w5.heap.size) (cs := #[.int .i64 p1, .int .i64 p2]) (T := 34) rfl).keep hb6); have HB6 := Lib.hid ((HB5.out.alloc HB5.out.size _).trans (hb6.mono (by simp; have := HB5.out.size; omega))); have HRQ := Lib.hid ((HRQ.out.below ((Below.refl _ _).alloc (Nat.le_refl _) _)).below hb6); clear hb6)
      | (go_at_call 32; refine Calls.mono (H4.out _ (HB6.out.alloc HB6.out.size _)) ?_; rintro e w7 ⟨rfl, hb7⟩; have X1 := Lib.hid (X1.out.old.keep hb7); have X2 := Lib.hid (X2.out.old.keep hb7); have X3 := Lib.hid (X3.out.old.keep hb7); have XQ := Lib.hid (XQ.out.old.keep hb7); have K1 := Lib.hid (K1.out.old.keep hb7); have K2 := Lib.hid (K2.out.old.keep hb7); have K3 := Lib.hid ((BK.newg (w := w6) (g := w6.heap.size) (cs := #[.int .i64 q1, .int .i64 q2]) (T := 34) rfl).keep hb7); have HB7 := Lib.hid ((HB6.out.alloc HB6.out.size _).trans (hb7.mono (by simp; have := HB6.out.size; omega))); have HRQ := Lib.hid ((HRQ.out.below ((Below.refl _ _).alloc (Nat.le_refl _) _)).below hb7); have c1 := K1.out.cell; have l1 := K1.out.lt; have c2 := K2.out.cell; have l2 := K2.out.lt; have c3 := K3.out.cell; have l3 := K3.out.lt; clear hb7)
      | (go_at_call 15; refine Calls.mono (HW.out _) ?_; rintro e w8 ⟨rfl, hb8⟩; have HB8 := Lib.hid ((HB7.out.alloc HB7.out.size _).trans (hb8.mono (by simp; have := HB7.out.size; omega))); clear hb8))
      go_ret
      exact ⟨rfl, HB8.out⟩
end Go.Proofs.Ythhokiigdgpmcaa

/- swashplatelaw02.RotorLevels returns true at every input, and the input reads as it did: no condition. -/
namespace Go.Proofs.Ythhokiigdgpmcaa
open Go.RowKit Go.WideShapes Go.ChangeShapes Go.ChangeAt Go.Joins

set_option maxRecDepth 100000 in
theorem levels_lifted (os : Os) (started : os.Started) (H : Type) (enc : TypeId × Value → H) :
    ReturnsInHanded {} Try.checked os 6 .any (Rows.rotorLevelsSpec.pre6 enc Try.prog Try.f6 Rows.rotorLevelsRow.domain false) (Rows.rotorLevelsSpec.post enc Try.prog Try.f6 false true false false) := by
  refine returnsInHanded_of_change (C := Try.checked) own started (by kernel_rfl) Try.func6
    (ChangeSpec.witness6 (enc := enc) (C := Try.checked) false ⟨#[], #[.agg #[.slice none 0 0, .slice none 0 0, .slice none 0 0, .slice none 0 0, .slice none 0 0, .slice none 0 0, .slice none 0 0, .slice none 0 0, .slice none 0 0, .slice none 0 0, .slice none 0 0, .slice none 0 0, .slice none 0 0, .slice none 0 0, .slice none 0 0, .slice none 0 0, .slice none 0 0, .slice none 0 0, .slice none 0 0, .slice none 0 0, .slice none 0 0, .slice none 0 0, .slice none 0 0, .slice none 0 0, .int .i64 0, .int .i64 0], .agg #[.int .i64 0, .int .i64 0, .int .i64 0, .int .i64 0, .int .i64 0, .int .i64 0, .int .i64 0, .int .i64 0], .agg #[.int .i64 0, .int .i64 0]], []⟩ 8 (by kernel_rfl) (by kernel_rfl) (by kernel_rfl) (by kernel_rfl)) ?_
  intro W base args ds gs before hval0 hW hcnd _
  have hval : ∀ (j : Nat) t v, Try.f6.params[j]? = some t → args[j]? = some v → Value.okWide Try.prog W .any base t v := hval0
  have hW' := hW
  obtain ⟨p, q, hA0, hV, rfl, hfz, hnd⟩ := hW
  have hA : DataW.TrodAll enc Try.prog W 0 (fun _ => true) true Try.f6.params.toList args.toList ds p := hA0
  rw [Try.params6] at hA hval
  obtain ⟨v0, v1, v2, d0, d1, d2, p0, p1, p2, rfl, rfl, rfl, h0, h1, h2⟩ := trodAll_three hA
  obtain ⟨rfl, rfl⟩ := trodVars_none hV
  obtain ⟨r0, rfl, rg0⟩ := rotor_open (hval 0 27 v0 rfl rfl) h0
  obtain ⟨a1, rfl⟩ := air_open (hval 1 36 v1 rfl rfl) h1
  obtain ⟨s2, rfl⟩ := spanD_open (hval 2 34 v2 rfl rfl) h2
  clear hA0 hval0
  simp only [List.append_nil] at hW'
  have hlt : ∀ x ∈ p0 ++ p1 ++ p2, x.block < W.heap.size := fun x hx => hW'.lt x hx
  refine (law_levels works2_any W r0 rg0 a1 s2).mono fun e W' ⟨he, hb⟩ => ?_
  subst he
  exact ⟨_, rfl, law_post hW' (by kernel_rfl) Try.underlying4 rfl rfl (fun sp hsp => (by simp only [List.append_assoc]; exact trodAll_mk3 (again (by kernel_rfl) (of_decide_eq_true (by kernel_rfl)) h0 hb (fun x hx => hlt x (List.mem_append_left _ (List.mem_append_left _ hx))) (fun x hx => hsp x (List.mem_append_left _ (List.mem_append_left _ hx)))) (again (by kernel_rfl) (of_decide_eq_true (by kernel_rfl)) h1 hb (fun x hx => hlt x (List.mem_append_left _ (List.mem_append_right _ hx))) (fun x hx => hsp x (List.mem_append_left _ (List.mem_append_right _ hx)))) (again (by kernel_rfl) (of_decide_eq_true (by kernel_rfl)) h2 hb (fun x hx => hlt x (List.mem_append_right _ hx)) (fun x hx => hsp x (List.mem_append_right _ hx))))) hb⟩

theorem levels_holds : Rows.RotorLevelsSaid :=
  OpenClaim.holds_of_wide 6 Try.f6 rfl rfl rfl rfl rfl rfl rfl ⟨rfl, rfl, rfl, rfl, rfl⟩ rfl rfl rfl rfl rfl (by kernel_rfl) Try.func6 (by kernel_rfl)
    (of_decide_eq_true (by kernel_rfl)) (by unfold Func.isWrapper; first | (rw [if_pos (by decide +kernel)]; kernel_rfl) | (rw [if_neg (by decide +kernel)]; exact ⟨rfl, rfl⟩))
    (fun os started H enc _ => levels_lifted os started H enc)
#print axioms levels_holds

end Go.Proofs.Ythhokiigdgpmcaa

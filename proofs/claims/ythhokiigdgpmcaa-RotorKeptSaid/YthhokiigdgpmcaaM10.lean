/- Contracts of the functions that the statement reaches: DMarg, DLast, DHeav, DHeav2, DEx, DSameF, DWorks. -/
import Derived.Test.YthhokiigdgpmcaaM9
import Derived.Test.YthhokiigdgpmcaaM8
import Derived.Test.YthhokiigdgpmcaaM7

/- margin of a machine; hovering; Margin. -/
namespace Go.Proofs.Ythhokiigdgpmcaa
open Go.RowKit

set_option maxRecDepth 100000
theorem mmargin_any (r : RO) (a : AI) (MS : Array Value) (hm : MS = #[.slice r.h.ax r.h.X.length r.h.cx, .slice r.h.ay r.h.Y.length r.h.cy, .slice r.h.av r.h.V.length r.h.cv, .slice r.g.ax r.g.X.length r.g.cx, .slice r.g.ay r.g.Y.length r.g.cy, .slice r.g.av r.g.V.length r.g.cv, .slice r.l.ax r.l.X.length r.l.cx, .slice r.l.ay r.l.Y.length r.l.cy, .slice r.l.av r.l.V.length r.l.cv, .slice r.p.ax r.p.X.length r.p.cx, .slice r.p.ay r.p.Y.length r.p.cy, .slice r.p.av r.p.V.length r.p.cv, .slice r.n.ax r.n.X.length r.n.cx, .slice r.n.ay r.n.Y.length r.n.cy, .slice r.n.av r.n.V.length r.n.cv, .slice r.a.ax r.a.X.length r.a.cx, .slice r.a.ay r.a.Y.length r.a.cy, .slice r.a.av r.a.V.length r.a.cv, .slice r.b.ax r.b.X.length r.b.cx, .slice r.b.ay r.b.Y.length r.b.cy, .slice r.b.av r.b.V.length r.b.cv, .slice r.d.ax r.d.X.length r.d.cx, .slice r.d.ay r.d.Y.length r.d.cy, .slice r.d.av r.d.V.length r.d.cv, .int .i64 r.cl, .int .i64 r.bu, .int .i64 a.w.1, .int .i64 a.w.2, .int .i64 a.t.1, .int .i64 a.t.2, .int .i64 a.h.1, .int .i64 a.h.2, .int .i64 a.v.1, .int .i64 a.v.2]) (s : Int × Int) (w : World) (rg : RG w r) (hv : Mrg r a s) :
    Calls Try.prog 70 #[.agg MS, .agg #[.int .i64 s.1, .int .i64 s.2]] w fun e w' => e = .returned (.int .i64 (mgN r a s)) ∧ Below w.heap.size w w' := by
  have HP := Lib.hid (fun (W : World) => show Calls Try.prog 66 #[.agg MS] W fun e w' => e = .returned (.agg #[.slice r.p.ax r.p.X.length r.p.cx, .slice r.p.ay r.p.Y.length r.p.cy, .slice r.p.av r.p.V.length r.p.cv, .int .i64 a.t.1, .int .i64 a.t.2, .int .i64 a.h.1, .int .i64 a.h.2]) ∧ Below W.heap.size W w' by rw [hm]; exact power_any r a W)
  have HBP := Lib.hid (fun (W : World) (hW : Below w.heap.size w W) => show Calls Try.prog 67 #[.agg #[.slice r.p.ax r.p.X.length r.p.cx, .slice r.p.ay r.p.Y.length r.p.cy, .slice r.p.av r.p.V.length r.p.cv, .int .i64 a.t.1, .int .i64 a.t.2, .int .i64 a.h.1, .int .i64 a.h.2]] W fun e w' => e = .returned (.agg #[.int .i64 (loP r a).bn.1, .int .i64 (loP r a).bn.2]) ∧ Below W.heap.size W w' from lbound_any (loP r a) W (rg.p.below hW) hv.p.cb)
  have HN := Lib.hid (fun (W : World) (hW : Below w.heap.size w W) => mneeds_any r a MS hm s W (rg.below hW) hv.hov)
  have b1 := hv.p.bd (by omega) (by omega)
  have b2 := hv.p.le
  have b3 := nd_bd hv.hov
  unfold mgN
  generalize (loP r a).bn.1 = p1 at *
  generalize (loP r a).bn.2 = p2 at *
  generalize (ndN r a s).1 = n1 at *
  generalize (ndN r a s).2 = n2 at *
  have hw : IntKind.i64.wrap (p1 - n2) = p1 - n2 := IntWalk.i64_in _ (by omega)
  clear b1 b2 b3
  generalize hx1 : p1 - n2 = x1 at *
  have HMZ := Lib.hid (show MS.size = 34 by rw [hm]; rfl)
  have X1 := Lib.hid ((BK.new (w := w) (cs := MS) (T := 87)).old (x := .cells #[.int .i64 s.1, .int .i64 s.2] 34))
  have X2 := Lib.hid (BK.newg (w := w.alloc (.cells MS 87)) (g := w.heap.size + 1) (cs := #[.int .i64 s.1, .int .i64 s.2]) (T := 34) (by simp))
  have HB := Lib.hid (show Below w.heap.size w ((w.alloc (.cells MS 87)).alloc (.cells #[.int .i64 s.1, .int .i64 s.2] 34)) by go_grown)
  clear hm hv rg
  go_enter Try.func70, Try.ntmps70
  go_upto_region 1 with fail
  generalize (w.alloc (.cells MS 87)).alloc (.cells #[.int .i64 s.1, .int .i64 s.2] 34) = W1 at *
  have s0 : W1.cell? ⟨w.heap.size + 1, 0, none⟩ = some (.int .i64 s.1) := X2.out.cell 0
  have s1 : W1.cell? ⟨w.heap.size + 1, 1, none⟩ = some (.int .i64 s.2) := X2.out.cell 1
  obtain ⟨Qa, hQa⟩ : ∃ q9 : Nat → Value → World → Prop, q9 = QG [some (.agg MS), some (.agg #[.slice r.p.ax r.p.X.length r.p.cx, .slice r.p.ay r.p.Y.length r.p.cy, .slice r.p.av r.p.V.length r.p.cv, .int .i64 a.t.1, .int .i64 a.t.2, .int .i64 a.h.1, .int .i64 a.h.2]), some (.agg #[.int .i64 p1, .int .i64 p2]), some (.int .i64 p1), some (.agg MS), some (.agg #[.int .i64 s.1, .int .i64 s.2]), some (.agg #[.int .i64 n1, .int .i64 n2]), some (.int .i64 n2), some (.int .i64 x1), some (.int .i64 x1)] (fun _ _ _ => True) := ⟨_, rfl⟩
  have hst : Stays Qa := by rw [hQa]; exact QG.stays (fun _ _ _ _ _ _ => trivial)
  have HQa := Lib.hid hQa
  clear hQa
  refine wpIn_wide.1 (region_inv2 (n := 9) (by kernel_rfl) (RQ Qa W1) (by kernel_rfl) rfl (RQ.start _ _ _) ?hstepa ?henda)
  case hstepa =>
    intro i' o ho val L b' x hF hR hpre hl
    match i', ho with
    | 0, ho =>
      simp at ho; subst ho; refine step_plain rfl ?_; have e2 := hF.was 2 (by kernel_rfl) rfl; have hgoal := hR.go hst HQa 0 rfl
      exact inM (X1.out.keep hR.1) HMZ.out (e2.trans rfl) ⟨_, rfl, hgoal _ _ (Below.refl _ _) rfl⟩
    | 1, ho =>
      simp at ho; subst ho; refine step_plain rfl ?_; have e5 := hF.gv hR.2 HQa 0 rfl (hpre ⟨0, .data⟩ (by simp) rfl) rfl; have hgoal := hR.go hst HQa 1 rfl
      have hM := Lib.hid hR.1
      clear hF hpre hl hR; go_simp
      refine ⟨trivial, ?_⟩
      refine CallsIn.mono (callsIn_wide.2 (HP.out _)) ?_
      rintro e w9 ⟨rfl, hb9⟩
      exact ⟨_, rfl, hgoal _ _ hb9 rfl⟩
    | 2, ho =>
      simp at ho; subst ho; refine step_plain rfl ?_; have e6 := hF.gv hR.2 HQa 1 rfl (hpre ⟨1, .data⟩ (by simp) rfl) rfl; have hgoal := hR.go hst HQa 2 rfl
      have hM := Lib.hid hR.1
      clear hF hpre hl hR; go_simp
      refine ⟨trivial, ?_⟩
      refine CallsIn.mono (callsIn_wide.2 (HBP.out _ (HB.out.trans (hM.out.mono HB.out.size)))) ?_
      rintro e w9 ⟨rfl, hb9⟩
      exact ⟨_, rfl, hgoal _ _ hb9 rfl⟩
    | 3, ho =>
      simp at ho; subst ho; refine step_plain rfl ?_; have e7 := hF.gv hR.2 HQa 2 rfl (hpre ⟨2, .data⟩ (by simp) rfl) rfl; have hgoal := hR.go hst HQa 3 rfl; clear hF hpre hl hR; go_simp; exact ⟨_, rfl, hgoal _ _ (Below.refl _ _) rfl⟩
    | 4, ho =>
      simp at ho; subst ho; refine step_plain rfl ?_; have e2 := hF.was 2 (by kernel_rfl) rfl; have hgoal := hR.go hst HQa 4 rfl
      exact inM (X1.out.keep hR.1) HMZ.out (e2.trans rfl) ⟨_, rfl, hgoal _ _ (Below.refl _ _) rfl⟩
    | 5, ho =>
      simp at ho; subst ho; refine step_plain rfl ?_; have e3 := hF.was 3 (by kernel_rfl) rfl; have hgoal := hR.go hst HQa 5 rfl; have q0 := cell_keep hR.1 s0; have q1 := cell_keep hR.1 s1; clear hF hpre hl hR; go_simp; exact ⟨_, rfl, hgoal _ _ (Below.refl _ _) rfl⟩
    | 6, ho =>
      simp at ho; subst ho; refine step_plain rfl ?_; have e9 := hF.gv hR.2 HQa 4 rfl (hpre ⟨4, .data⟩ (by simp) rfl) rfl; have e10 := hF.gv hR.2 HQa 5 rfl (hpre ⟨5, .data⟩ (by simp) rfl) rfl; have hgoal := hR.go hst HQa 6 rfl
      have hM := Lib.hid hR.1
      clear hF hpre hl hR; go_simp
      refine ⟨trivial, ?_⟩
      refine CallsIn.mono (callsIn_wide.2 (HN.out _ (HB.out.trans (hM.out.mono HB.out.size)))) ?_
      rintro e w9 ⟨rfl, hb9⟩
      exact ⟨_, rfl, hgoal _ _ hb9 rfl⟩
    | 7, ho =>
      simp at ho; subst ho; refine step_plain rfl ?_; have e11 := hF.gv hR.2 HQa 6 rfl (hpre ⟨6, .data⟩ (by simp) rfl) rfl; have hgoal := hR.go hst HQa 7 rfl; clear hF hpre hl hR; go_simp; exact ⟨_, rfl, hgoal _ _ (Below.refl _ _) rfl⟩
    | 8, ho =>
      simp at ho; subst ho; refine step_plain rfl ?_; have e8 := hF.gv hR.2 HQa 3 rfl (hpre ⟨3, .data⟩ (by simp) rfl) rfl; have e12 := hF.gv hR.2 HQa 7 rfl (hpre ⟨7, .data⟩ (by simp) rfl) rfl; have hgoal := hR.go hst HQa 8 rfl; clear hF hpre hl hR; go_simp; exact ⟨_, rfl, hgoal _ _ (Below.refl _ _) rfl⟩
    | 9, ho =>
      simp at ho; subst ho; refine step_plain rfl ?_; have e13 := hF.gv hR.2 HQa 8 rfl (hpre ⟨8, .data⟩ (by simp) rfl) rfl; have hgoal := hR.go hst HQa 9 rfl; clear hF hpre hl hR; go_simp; exact ⟨_, rfl, hgoal _ _ (Below.refl _ _) rfl⟩
    | i + 10, ho => simp at ho
  case henda =>
    intro val L b' x hF hall hR
    have e := hF.all (by kernel_rfl) hall
    have ka9 := QG.val HQa rfl (hR.2 9 (hall 9 (by decide)))
    have hBa := Lib.hid hR.1
    clear hF hall hR hst HQa 
    subst e
    simp [final, dstOf, List.range, List.range.loop]
    rw [ka9]
    go_wp2
    exact bodyPost_ret (v := .int .i64 x1) (by simp [results, Try.results70, go_sem]) rfl ⟨rfl, HB.out.trans (hBa.out.mono HB.out.size)⟩

/-- ready, as hovering calls it. -/
theorem ready_hov (r : RO) (a : AI) (CS MS : Array Value) (s : Int × Int) (gs g : Nat) (W : World) (rg : RG W r) (hc : CS = #[.slice r.h.ax r.h.X.length r.h.cx, .slice r.h.ay r.h.Y.length r.h.cy, .slice r.h.av r.h.V.length r.h.cv, .slice r.g.ax r.g.X.length r.g.cx, .slice r.g.ay r.g.Y.length r.g.cy, .slice r.g.av r.g.V.length r.g.cv, .slice r.l.ax r.l.X.length r.l.cx, .slice r.l.ay r.l.Y.length r.l.cy, .slice r.l.av r.l.V.length r.l.cv, .slice r.p.ax r.p.X.length r.p.cx, .slice r.p.ay r.p.Y.length r.p.cy, .slice r.p.av r.p.V.length r.p.cv, .slice r.n.ax r.n.X.length r.n.cx, .slice r.n.ay r.n.Y.length r.n.cy, .slice r.n.av r.n.V.length r.n.cv, .slice r.a.ax r.a.X.length r.a.cx, .slice r.a.ay r.a.Y.length r.a.cy, .slice r.a.av r.a.V.length r.a.cv, .slice r.b.ax r.b.X.length r.b.cx, .slice r.b.ay r.b.Y.length r.b.cy, .slice r.b.av r.b.V.length r.b.cv, .slice r.d.ax r.d.X.length r.d.cx, .slice r.d.ay r.d.Y.length r.d.cy, .slice r.d.av r.d.V.length r.d.cv, .int .i64 r.cl, .int .i64 r.bu]) (hm : MS = #[.slice r.h.ax r.h.X.length r.h.cx, .slice r.h.ay r.h.Y.length r.h.cy, .slice r.h.av r.h.V.length r.h.cv, .slice r.g.ax r.g.X.length r.g.cx, .slice r.g.ay r.g.Y.length r.g.cy, .slice r.g.av r.g.V.length r.g.cv, .slice r.l.ax r.l.X.length r.l.cx, .slice r.l.ay r.l.Y.length r.l.cy, .slice r.l.av r.l.V.length r.l.cv, .slice r.p.ax r.p.X.length r.p.cx, .slice r.p.ay r.p.Y.length r.p.cy, .slice r.p.av r.p.V.length r.p.cv, .slice r.n.ax r.n.X.length r.n.cx, .slice r.n.ay r.n.Y.length r.n.cy, .slice r.n.av r.n.V.length r.n.cv, .slice r.a.ax r.a.X.length r.a.cx, .slice r.a.ay r.a.Y.length r.a.cy, .slice r.a.av r.a.V.length r.a.cv, .slice r.b.ax r.b.X.length r.b.cx, .slice r.b.ay r.b.Y.length r.b.cy, .slice r.b.av r.b.V.length r.b.cv, .slice r.d.ax r.d.X.length r.d.cx, .slice r.d.ay r.d.Y.length r.d.cy, .slice r.d.av r.d.V.length r.d.cv, .int .i64 r.cl, .int .i64 r.bu, .int .i64 a.w.1, .int .i64 a.w.2, .int .i64 a.t.1, .int .i64 a.t.2, .int .i64 a.h.1, .int .i64 a.h.2, .int .i64 a.v.1, .int .i64 a.v.2]) (h0 : W.cell? ⟨gs, 0, none⟩ = some (.int .i64 s.1)) (h1 : W.cell? ⟨gs, 1, none⟩ = some (.int .i64 s.2)) (hg : g < W.heap.size) (hF : RS W (g + 1) (some ⟨g, 0, none⟩) [s]) :
    Calls Try.prog 58 #[.agg CS, .agg #[.int .i64 a.w.1, .int .i64 a.w.2, .int .i64 a.t.1, .int .i64 a.t.2, .int .i64 a.h.1, .int .i64 a.h.2, .int .i64 a.v.1, .int .i64 a.v.2], .func (.func 112) #[] #[.pointer (some ⟨gs, 0, none⟩)], .slice (some ⟨g, 0, none⟩) 1 1] W fun e w' => e = .returned (.tuple #[.agg MS, .int .i64 (redE r a [loH r a, loG r a s, loP r a] [s])]) ∧ Below W.heap.size W w' := by
  refine ready_any 112 #[.pointer (some ⟨gs, 0, none⟩)] r a [loH r a, loG r a s, loP r a] [s] W (some ⟨g, 0, none⟩) 1 CS MS rg hc hm (hF.more hg) (le_maxLen (by simp)) (by simp) ?_ ?_ Try.call112 ?_
  · intro l hl
    simp at hl
    rcases hl with rfl | rfl | rfl
    · exact rg.h
    · exact rg.g
    · exact rg.p
  · intro h l hl
    have o := ok_of h
    simp at hl
    rcases hl with rfl | rfl | rfl
    · exact filB_ct o.h
    · exact filB_ct o.g
    · exact filB_ct o.p
  · intro _ W' hW
    refine (hovering1_any r a MS hm s gs W' (cell_keep hW h0) (cell_keep hW h1)).mono ?_
    rintro e w' ⟨v, rfl, ⟨A, c, rfl, h⟩, hb⟩
    exact ⟨A, c, rfl, h, hb⟩
set_option maxHeartbeats 2000000 in
theorem hovering_any (r : RO) (a : AI) (CS MS : Array Value) (s : Int × Int) (w : World) (rg : RG w r) (hc : CS = #[.slice r.h.ax r.h.X.length r.h.cx, .slice r.h.ay r.h.Y.length r.h.cy, .slice r.h.av r.h.V.length r.h.cv, .slice r.g.ax r.g.X.length r.g.cx, .slice r.g.ay r.g.Y.length r.g.cy, .slice r.g.av r.g.V.length r.g.cv, .slice r.l.ax r.l.X.length r.l.cx, .slice r.l.ay r.l.Y.length r.l.cy, .slice r.l.av r.l.V.length r.l.cv, .slice r.p.ax r.p.X.length r.p.cx, .slice r.p.ay r.p.Y.length r.p.cy, .slice r.p.av r.p.V.length r.p.cv, .slice r.n.ax r.n.X.length r.n.cx, .slice r.n.ay r.n.Y.length r.n.cy, .slice r.n.av r.n.V.length r.n.cv, .slice r.a.ax r.a.X.length r.a.cx, .slice r.a.ay r.a.Y.length r.a.cy, .slice r.a.av r.a.V.length r.a.cv, .slice r.b.ax r.b.X.length r.b.cx, .slice r.b.ay r.b.Y.length r.b.cy, .slice r.b.av r.b.V.length r.b.cv, .slice r.d.ax r.d.X.length r.d.cx, .slice r.d.ay r.d.Y.length r.d.cy, .slice r.d.av r.d.V.length r.d.cv, .int .i64 r.cl, .int .i64 r.bu]) (hm : MS = #[.slice r.h.ax r.h.X.length r.h.cx, .slice r.h.ay r.h.Y.length r.h.cy, .slice r.h.av r.h.V.length r.h.cv, .slice r.g.ax r.g.X.length r.g.cx, .slice r.g.ay r.g.Y.length r.g.cy, .slice r.g.av r.g.V.length r.g.cv, .slice r.l.ax r.l.X.length r.l.cx, .slice r.l.ay r.l.Y.length r.l.cy, .slice r.l.av r.l.V.length r.l.cv, .slice r.p.ax r.p.X.length r.p.cx, .slice r.p.ay r.p.Y.length r.p.cy, .slice r.p.av r.p.V.length r.p.cv, .slice r.n.ax r.n.X.length r.n.cx, .slice r.n.ay r.n.Y.length r.n.cy, .slice r.n.av r.n.V.length r.n.cv, .slice r.a.ax r.a.X.length r.a.cx, .slice r.a.ay r.a.Y.length r.a.cy, .slice r.a.av r.a.V.length r.a.cv, .slice r.b.ax r.b.X.length r.b.cx, .slice r.b.ay r.b.Y.length r.b.cy, .slice r.b.av r.b.V.length r.b.cv, .slice r.d.ax r.d.X.length r.d.cx, .slice r.d.ay r.d.Y.length r.d.cy, .slice r.d.av r.d.V.length r.d.cv, .int .i64 r.cl, .int .i64 r.bu, .int .i64 a.w.1, .int .i64 a.w.2, .int .i64 a.t.1, .int .i64 a.t.2, .int .i64 a.h.1, .int .i64 a.h.2, .int .i64 a.v.1, .int .i64 a.v.2]) :
    Calls Try.prog 69 #[.agg CS, .agg #[.int .i64 a.w.1, .int .i64 a.w.2, .int .i64 a.t.1, .int .i64 a.t.2, .int .i64 a.h.1, .int .i64 a.h.2, .int .i64 a.v.1, .int .i64 a.v.2], .agg #[.int .i64 s.1, .int .i64 s.2]] w fun e w' => e = .returned (.tuple #[.agg MS, .int .i64 (redE r a [loH r a, loG r a s, loP r a] [s])]) ∧ Below w.heap.size w w' := by
  have HR := Lib.hid (fun (gs g : Nat) (W : World) (hW : Below w.heap.size w W) h0 h1 hg hF => ready_hov r a CS MS s gs g W (rg.below hW) hc hm h0 h1 hg hF)
  generalize redE r a [loH r a, loG r a s, loP r a] [s] = E at *
  have HSZ := Lib.hid (show CS.size = 26 by rw [hc]; rfl)
  have HMZ := Lib.hid (show MS.size = 34 by rw [hm]; rfl)
  have HMO := Lib.hid (show MS.all (·.oneCell') = true by rw [hm]; simp [Value.oneCell'])
  clear rg hc hm
  have W1 := Lib.hid ((((BK.new (w := w) (cs := CS) (T := 27)).old (x := .cells #[.int .i64 a.w.1, .int .i64 a.w.2, .int .i64 a.t.1, .int .i64 a.t.2, .int .i64 a.h.1, .int .i64 a.h.2, .int .i64 a.v.1, .int .i64 a.v.2] 36)).old (x := .cells #[.int .i64 s.1, .int .i64 s.2] 34)).old (x := .cells #[.slice none 0 0, .slice none 0 0, .slice none 0 0, .slice none 0 0, .slice none 0 0, .slice none 0 0, .slice none 0 0, .slice none 0 0, .slice none 0 0, .slice none 0 0, .slice none 0 0, .slice none 0 0, .slice none 0 0, .slice none 0 0, .slice none 0 0, .slice none 0 0, .slice none 0 0, .slice none 0 0, .slice none 0 0, .slice none 0 0, .slice none 0 0, .slice none 0 0, .slice none 0 0, .slice none 0 0, .int .i64 0, .int .i64 0, .int .i64 0, .int .i64 0, .int .i64 0, .int .i64 0, .int .i64 0, .int .i64 0, .int .i64 0, .int .i64 0] 87))
  have W2 := Lib.hid (((BK.newg (w := w.alloc (.cells CS 27)) (g := w.heap.size + 1) (cs := #[.int .i64 a.w.1, .int .i64 a.w.2, .int .i64 a.t.1, .int .i64 a.t.2, .int .i64 a.h.1, .int .i64 a.h.2, .int .i64 a.v.1, .int .i64 a.v.2]) (T := 36) (by simp)).old (x := .cells #[.int .i64 s.1, .int .i64 s.2] 34)).old (x := .cells #[.slice none 0 0, .slice none 0 0, .slice none 0 0, .slice none 0 0, .slice none 0 0, .slice none 0 0, .slice none 0 0, .slice none 0 0, .slice none 0 0, .slice none 0 0, .slice none 0 0, .slice none 0 0, .slice none 0 0, .slice none 0 0, .slice none 0 0, .slice none 0 0, .slice none 0 0, .slice none 0 0, .slice none 0 0, .slice none 0 0, .slice none 0 0, .slice none 0 0, .slice none 0 0, .slice none 0 0, .int .i64 0, .int .i64 0, .int .i64 0, .int .i64 0, .int .i64 0, .int .i64 0, .int .i64 0, .int .i64 0, .int .i64 0, .int .i64 0] 87))
  have W3 := Lib.hid ((BK.newg (w := (w.alloc (.cells CS 27)).alloc (.cells #[.int .i64 a.w.1, .int .i64 a.w.2, .int .i64 a.t.1, .int .i64 a.t.2, .int .i64 a.h.1, .int .i64 a.h.2, .int .i64 a.v.1, .int .i64 a.v.2] 36)) (g := w.heap.size + 1 + 1) (cs := #[.int .i64 s.1, .int .i64 s.2]) (T := 34) (by simp)).old (x := .cells #[.slice none 0 0, .slice none 0 0, .slice none 0 0, .slice none 0 0, .slice none 0 0, .slice none 0 0, .slice none 0 0, .slice none 0 0, .slice none 0 0, .slice none 0 0, .slice none 0 0, .slice none 0 0, .slice none 0 0, .slice none 0 0, .slice none 0 0, .slice none 0 0, .slice none 0 0, .slice none 0 0, .slice none 0 0, .slice none 0 0, .slice none 0 0, .slice none 0 0, .slice none 0 0, .slice none 0 0, .int .i64 0, .int .i64 0, .int .i64 0, .int .i64 0, .int .i64 0, .int .i64 0, .int .i64 0, .int .i64 0, .int .i64 0, .int .i64 0] 87))
  have W4 := Lib.hid (BK.newg (w := ((w.alloc (.cells CS 27)).alloc (.cells #[.int .i64 a.w.1, .int .i64 a.w.2, .int .i64 a.t.1, .int .i64 a.t.2, .int .i64 a.h.1, .int .i64 a.h.2, .int .i64 a.v.1, .int .i64 a.v.2] 36)).alloc (.cells #[.int .i64 s.1, .int .i64 s.2] 34)) (g := w.heap.size + 1 + 1 + 1) (cs := #[.slice none 0 0, .slice none 0 0, .slice none 0 0, .slice none 0 0, .slice none 0 0, .slice none 0 0, .slice none 0 0, .slice none 0 0, .slice none 0 0, .slice none 0 0, .slice none 0 0, .slice none 0 0, .slice none 0 0, .slice none 0 0, .slice none 0 0, .slice none 0 0, .slice none 0 0, .slice none 0 0, .slice none 0 0, .slice none 0 0, .slice none 0 0, .slice none 0 0, .slice none 0 0, .slice none 0 0, .int .i64 0, .int .i64 0, .int .i64 0, .int .i64 0, .int .i64 0, .int .i64 0, .int .i64 0, .int .i64 0, .int .i64 0, .int .i64 0]) (T := 87) (by simp))
  have HB := Lib.hid (show Below w.heap.size w ((((w.alloc (.cells CS 27)).alloc (.cells #[.int .i64 a.w.1, .int .i64 a.w.2, .int .i64 a.t.1, .int .i64 a.t.2, .int .i64 a.h.1, .int .i64 a.h.2, .int .i64 a.v.1, .int .i64 a.v.2] 36)).alloc (.cells #[.int .i64 s.1, .int .i64 s.2] 34)).alloc (.cells #[.slice none 0 0, .slice none 0 0, .slice none 0 0, .slice none 0 0, .slice none 0 0, .slice none 0 0, .slice none 0 0, .slice none 0 0, .slice none 0 0, .slice none 0 0, .slice none 0 0, .slice none 0 0, .slice none 0 0, .slice none 0 0, .slice none 0 0, .slice none 0 0, .slice none 0 0, .slice none 0 0, .slice none 0 0, .slice none 0 0, .slice none 0 0, .slice none 0 0, .slice none 0 0, .slice none 0 0, .int .i64 0, .int .i64 0, .int .i64 0, .int .i64 0, .int .i64 0, .int .i64 0, .int .i64 0, .int .i64 0, .int .i64 0, .int .i64 0] 87)) by go_grown)
  go_enter Try.func69, Try.ntmps69
  go_upto_region 1 with fail
  generalize (((w.alloc (.cells CS 27)).alloc (.cells #[.int .i64 a.w.1, .int .i64 a.w.2, .int .i64 a.t.1, .int .i64 a.t.2, .int .i64 a.h.1, .int .i64 a.h.2, .int .i64 a.v.1, .int .i64 a.v.2] 36)).alloc (.cells #[.int .i64 s.1, .int .i64 s.2] 34)).alloc (.cells #[.slice none 0 0, .slice none 0 0, .slice none 0 0, .slice none 0 0, .slice none 0 0, .slice none 0 0, .slice none 0 0, .slice none 0 0, .slice none 0 0, .slice none 0 0, .slice none 0 0, .slice none 0 0, .slice none 0 0, .slice none 0 0, .slice none 0 0, .slice none 0 0, .slice none 0 0, .slice none 0 0, .slice none 0 0, .slice none 0 0, .slice none 0 0, .slice none 0 0, .slice none 0 0, .slice none 0 0, .int .i64 0, .int .i64 0, .int .i64 0, .int .i64 0, .int .i64 0, .int .i64 0, .int .i64 0, .int .i64 0, .int .i64 0, .int .i64 0] 87) = V1 at *
  have s0 : V1.cell? ⟨w.heap.size + 1 + 1, 0, none⟩ = some (.int .i64 s.1) := W3.out.cell 0
  have s1 : V1.cell? ⟨w.heap.size + 1 + 1, 1, none⟩ = some (.int .i64 s.2) := W3.out.cell 1
  have l4 := W4.out.lt
  go_wp2_with (first
    | ((with_reducible refine ldR W1.out HSZ.out ?_ ?_); rfl)
    | ((with_reducible refine ldA W2.out ?_ ?_ ?_); rfl; rfl)
    | (go_at_call 58; refine Calls.mono (HR.out _ _ _ (HB.out.alloc HB.out.size _) (cell_keep ((Below.refl _ _).alloc (Nat.le_refl _) _) s0) (cell_keep ((Below.refl _ _).alloc (Nat.le_refl _) _) s1) (by simp) (RS.new1 (by simp))) ?_; rintro e w1 ⟨rfl, hb1⟩; have K4 := Lib.hid (W4.out.old.keep hb1); have HB1 := Lib.hid ((HB.out.alloc HB.out.size _).trans (hb1.mono (by simp; have := HB.out.size; omega))); clear hb1)
    | ((with_reducible refine stM K4.out ?_ ?_ ?_ HMZ.out HMO.out ?_); rfl; rfl; rfl))
  go_simp
  refine bodyPost_ret (v := .tuple #[.agg MS, .int .i64 E]) (revM Try.results69 (by rfl) (by rfl) K4.out.row HMZ.out) rfl ?_
  exact ⟨rfl, below_setRow HB1.out (by omega) _⟩

def mgS (r : RO) (a : AI) (s : Int × Int) : Int × Int := if redE r a [loH r a, loG r a s, loP r a] [s] = 0 then (mgN r a s, 0) else (0, redE r a [loH r a, loG r a s, loP r a] [s])
set_option maxHeartbeats 2000000 in
theorem margin_any (r : RO) (a : AI) (CS : Array Value) (s : Int × Int) (w : World) (rg : RG w r) (hc : CS = #[.slice r.h.ax r.h.X.length r.h.cx, .slice r.h.ay r.h.Y.length r.h.cy, .slice r.h.av r.h.V.length r.h.cv, .slice r.g.ax r.g.X.length r.g.cx, .slice r.g.ay r.g.Y.length r.g.cy, .slice r.g.av r.g.V.length r.g.cv, .slice r.l.ax r.l.X.length r.l.cx, .slice r.l.ay r.l.Y.length r.l.cy, .slice r.l.av r.l.V.length r.l.cv, .slice r.p.ax r.p.X.length r.p.cx, .slice r.p.ay r.p.Y.length r.p.cy, .slice r.p.av r.p.V.length r.p.cv, .slice r.n.ax r.n.X.length r.n.cx, .slice r.n.ay r.n.Y.length r.n.cy, .slice r.n.av r.n.V.length r.n.cv, .slice r.a.ax r.a.X.length r.a.cx, .slice r.a.ay r.a.Y.length r.a.cy, .slice r.a.av r.a.V.length r.a.cv, .slice r.b.ax r.b.X.length r.b.cx, .slice r.b.ay r.b.Y.length r.b.cy, .slice r.b.av r.b.V.length r.b.cv, .slice r.d.ax r.d.X.length r.d.cx, .slice r.d.ay r.d.Y.length r.d.cy, .slice r.d.av r.d.V.length r.d.cv, .int .i64 r.cl, .int .i64 r.bu]) :
    Calls Try.prog 23 #[.agg CS, .agg #[.int .i64 a.w.1, .int .i64 a.w.2, .int .i64 a.t.1, .int .i64 a.t.2, .int .i64 a.h.1, .int .i64 a.h.2, .int .i64 a.v.1, .int .i64 a.v.2], .agg #[.int .i64 s.1, .int .i64 s.2]] w fun e w' => e = .returned (.tuple #[.int .i64 (mgS r a s).1, .int .i64 (mgS r a s).2]) ∧ Below w.heap.size w w' := by
  obtain ⟨MS, hm⟩ : ∃ MS : Array Value, MS = #[.slice r.h.ax r.h.X.length r.h.cx, .slice r.h.ay r.h.Y.length r.h.cy, .slice r.h.av r.h.V.length r.h.cv, .slice r.g.ax r.g.X.length r.g.cx, .slice r.g.ay r.g.Y.length r.g.cy, .slice r.g.av r.g.V.length r.g.cv, .slice r.l.ax r.l.X.length r.l.cx, .slice r.l.ay r.l.Y.length r.l.cy, .slice r.l.av r.l.V.length r.l.cv, .slice r.p.ax r.p.X.length r.p.cx, .slice r.p.ay r.p.Y.length r.p.cy, .slice r.p.av r.p.V.length r.p.cv, .slice r.n.ax r.n.X.length r.n.cx, .slice r.n.ay r.n.Y.length r.n.cy, .slice r.n.av r.n.V.length r.n.cv, .slice r.a.ax r.a.X.length r.a.cx, .slice r.a.ay r.a.Y.length r.a.cy, .slice r.a.av r.a.V.length r.a.cv, .slice r.b.ax r.b.X.length r.b.cx, .slice r.b.ay r.b.Y.length r.b.cy, .slice r.b.av r.b.V.length r.b.cv, .slice r.d.ax r.d.X.length r.d.cx, .slice r.d.ay r.d.Y.length r.d.cy, .slice r.d.av r.d.V.length r.d.cv, .int .i64 r.cl, .int .i64 r.bu, .int .i64 a.w.1, .int .i64 a.w.2, .int .i64 a.t.1, .int .i64 a.t.2, .int .i64 a.h.1, .int .i64 a.h.2, .int .i64 a.v.1, .int .i64 a.v.2] := ⟨_, rfl⟩
  have HH := Lib.hid (fun (W : World) (hW : Below w.heap.size w W) => hovering_any r a CS MS s W (rg.below hW) hc hm)
  have HSZ := Lib.hid (show CS.size = 26 by rw [hc]; rfl)
  have HMZ := Lib.hid (show MS.size = 34 by rw [hm]; rfl)
  have HMO := Lib.hid (show MS.all (·.oneCell') = true by rw [hm]; simp [Value.oneCell'])
  have W1 := Lib.hid (((BK.new (w := w) (cs := CS) (T := 27)).old (x := .cells #[.int .i64 a.w.1, .int .i64 a.w.2, .int .i64 a.t.1, .int .i64 a.t.2, .int .i64 a.h.1, .int .i64 a.h.2, .int .i64 a.v.1, .int .i64 a.v.2] 36)).old (x := .cells #[.int .i64 s.1, .int .i64 s.2] 34))
  have W2 := Lib.hid ((BK.newg (w := w.alloc (.cells CS 27)) (g := w.heap.size + 1) (cs := #[.int .i64 a.w.1, .int .i64 a.w.2, .int .i64 a.t.1, .int .i64 a.t.2, .int .i64 a.h.1, .int .i64 a.h.2, .int .i64 a.v.1, .int .i64 a.v.2]) (T := 36) (by simp)).old (x := .cells #[.int .i64 s.1, .int .i64 s.2] 34))
  have W3 := Lib.hid (BK.newg (w := (w.alloc (.cells CS 27)).alloc (.cells #[.int .i64 a.w.1, .int .i64 a.w.2, .int .i64 a.t.1, .int .i64 a.t.2, .int .i64 a.h.1, .int .i64 a.h.2, .int .i64 a.v.1, .int .i64 a.v.2] 36)) (g := w.heap.size + 1 + 1) (cs := #[.int .i64 s.1, .int .i64 s.2]) (T := 34) (by simp))
  have HB := Lib.hid (show Below w.heap.size w (((w.alloc (.cells CS 27)).alloc (.cells #[.int .i64 a.w.1, .int .i64 a.w.2, .int .i64 a.t.1, .int .i64 a.t.2, .int .i64 a.h.1, .int .i64 a.h.2, .int .i64 a.v.1, .int .i64 a.v.2] 36)).alloc (.cells #[.int .i64 s.1, .int .i64 s.2] 34)) by go_grown)
  unfold mgS
  by_cases hE : redE r a [loH r a, loG r a s, loP r a] [s] = 0
  · rw [if_pos hE]
    have HMM := Lib.hid (fun (W : World) (hW : Below w.heap.size w W) => mmargin_any r a MS hm s W (rg.below hW) (mrg_of hE))
    rw [hE] at HH
    generalize mgN r a s = N at *
    clear rg hc hm hE
    go_enter Try.func23, Try.ntmps23
    go_wp2_with (first
      | ((with_reducible refine ldR W1.out HSZ.out ?_ ?_); rfl)
      | ((with_reducible refine ldA W2.out ?_ ?_ ?_); rfl; rfl)
      | (go_at_call 69; refine Calls.mono (HH.out _ HB.out) ?_; rintro e w1 ⟨rfl, hb1⟩; have K3 := W3.out.keep hb1; have c3 := K3.cell; have l3 := K3.lt; have KM := Lib.hid (BK.newg (w := w1) (g := w1.heap.size) (cs := #[.slice none 0 0, .slice none 0 0, .slice none 0 0, .slice none 0 0, .slice none 0 0, .slice none 0 0, .slice none 0 0, .slice none 0 0, .slice none 0 0, .slice none 0 0, .slice none 0 0, .slice none 0 0, .slice none 0 0, .slice none 0 0, .slice none 0 0, .slice none 0 0, .slice none 0 0, .slice none 0 0, .slice none 0 0, .slice none 0 0, .slice none 0 0, .slice none 0 0, .slice none 0 0, .slice none 0 0, .int .i64 0, .int .i64 0, .int .i64 0, .int .i64 0, .int .i64 0, .int .i64 0, .int .i64 0, .int .i64 0, .int .i64 0, .int .i64 0]) (T := 87) rfl); have HB1 := Lib.hid (HB.out.trans (hb1.mono HB.out.size)); clear hb1 K3)
      | ((with_reducible refine stM KM.out ?_ ?_ ?_ HMZ.out HMO.out ?_); rfl; rfl; rfl; (have KN := Lib.hid (KM.out.row (ds := MS))); (have HB2 := Lib.hid (below_setRow (HB1.out.alloc HB1.out.size (.cells #[.slice none 0 0, .slice none 0 0, .slice none 0 0, .slice none 0 0, .slice none 0 0, .slice none 0 0, .slice none 0 0, .slice none 0 0, .slice none 0 0, .slice none 0 0, .slice none 0 0, .slice none 0 0, .slice none 0 0, .slice none 0 0, .slice none 0 0, .slice none 0 0, .slice none 0 0, .slice none 0 0, .slice none 0 0, .slice none 0 0, .slice none 0 0, .slice none 0 0, .slice none 0 0, .slice none 0 0, .int .i64 0, .int .i64 0, .int .i64 0, .int .i64 0, .int .i64 0, .int .i64 0, .int .i64 0, .int .i64 0, .int .i64 0, .int .i64 0] 87)) (g := w1.heap.size) HB1.out.size MS)); (have f0 : ((w1.alloc (.cells #[.slice none 0 0, .slice none 0 0, .slice none 0 0, .slice none 0 0, .slice none 0 0, .slice none 0 0, .slice none 0 0, .slice none 0 0, .slice none 0 0, .slice none 0 0, .slice none 0 0, .slice none 0 0, .slice none 0 0, .slice none 0 0, .slice none 0 0, .slice none 0 0, .slice none 0 0, .slice none 0 0, .slice none 0 0, .slice none 0 0, .slice none 0 0, .slice none 0 0, .slice none 0 0, .slice none 0 0, .int .i64 0, .int .i64 0, .int .i64 0, .int .i64 0, .int .i64 0, .int .i64 0, .int .i64 0, .int .i64 0, .int .i64 0, .int .i64 0] 87)).setRow w1.heap.size MS).cell? ⟨w.heap.size + 1 + 1, 0, none⟩ = some (.int .i64 s.1) := (cell_setRow_other _ _ _ _ (by simp; omega)).trans ((cell_keep ((Below.refl _ _).alloc (Nat.le_refl _) _) (c3 0)))); (have f1 : ((w1.alloc (.cells #[.slice none 0 0, .slice none 0 0, .slice none 0 0, .slice none 0 0, .slice none 0 0, .slice none 0 0, .slice none 0 0, .slice none 0 0, .slice none 0 0, .slice none 0 0, .slice none 0 0, .slice none 0 0, .slice none 0 0, .slice none 0 0, .slice none 0 0, .slice none 0 0, .slice none 0 0, .slice none 0 0, .slice none 0 0, .slice none 0 0, .slice none 0 0, .slice none 0 0, .slice none 0 0, .slice none 0 0, .int .i64 0, .int .i64 0, .int .i64 0, .int .i64 0, .int .i64 0, .int .i64 0, .int .i64 0, .int .i64 0, .int .i64 0, .int .i64 0] 87)).setRow w1.heap.size MS).cell? ⟨w.heap.size + 1 + 1, 1, none⟩ = some (.int .i64 s.2) := (cell_setRow_other _ _ _ _ (by simp; omega)).trans ((cell_keep ((Below.refl _ _).alloc (Nat.le_refl _) _) (c3 1)))); clear KM c3; generalize (w1.alloc (.cells #[.slice none 0 0, .slice none 0 0, .slice none 0 0, .slice none 0 0, .slice none 0 0, .slice none 0 0, .slice none 0 0, .slice none 0 0, .slice none 0 0, .slice none 0 0, .slice none 0 0, .slice none 0 0, .slice none 0 0, .slice none 0 0, .slice none 0 0, .slice none 0 0, .slice none 0 0, .slice none 0 0, .slice none 0 0, .slice none 0 0, .slice none 0 0, .slice none 0 0, .slice none 0 0, .slice none 0 0, .int .i64 0, .int .i64 0, .int .i64 0, .int .i64 0, .int .i64 0, .int .i64 0, .int .i64 0, .int .i64 0, .int .i64 0, .int .i64 0] 87)).setRow w1.heap.size MS = V2 at *)
      | ((with_reducible refine ldM KN.out HMZ.out ?_ ?_); rfl)
      | (go_at_call 70; refine Calls.mono (HMM.out _ HB2.out) ?_; rintro e w2 ⟨rfl, hb2⟩; have HB3 := Lib.hid (HB2.out.trans (hb2.mono HB2.out.size)); clear hb2))
    go_ret2
    exact ⟨rfl, HB3.out⟩
  · rw [if_neg hE]
    generalize redE r a [loH r a, loG r a s, loP r a] [s] = E at *
    clear rg hc hm
    go_enter Try.func23, Try.ntmps23
    go_wp2_with (first
      | ((with_reducible refine ldR W1.out HSZ.out ?_ ?_); rfl)
      | ((with_reducible refine ldA W2.out ?_ ?_ ?_); rfl; rfl)
      | (go_at_call 69; refine Calls.mono (HH.out _ HB.out) ?_; rintro e w1 ⟨rfl, hb1⟩; have K3 := W3.out.keep hb1; have l3 := K3.lt; have KM := Lib.hid (BK.newg (w := w1) (g := w1.heap.size) (cs := #[.slice none 0 0, .slice none 0 0, .slice none 0 0, .slice none 0 0, .slice none 0 0, .slice none 0 0, .slice none 0 0, .slice none 0 0, .slice none 0 0, .slice none 0 0, .slice none 0 0, .slice none 0 0, .slice none 0 0, .slice none 0 0, .slice none 0 0, .slice none 0 0, .slice none 0 0, .slice none 0 0, .slice none 0 0, .slice none 0 0, .slice none 0 0, .slice none 0 0, .slice none 0 0, .slice none 0 0, .int .i64 0, .int .i64 0, .int .i64 0, .int .i64 0, .int .i64 0, .int .i64 0, .int .i64 0, .int .i64 0, .int .i64 0, .int .i64 0]) (T := 87) rfl); have HB1 := Lib.hid (HB.out.trans (hb1.mono HB.out.size)); clear hb1 K3)
      | ((with_reducible refine stM KM.out ?_ ?_ ?_ HMZ.out HMO.out ?_); rfl; rfl; rfl))
    go_ret2
    exact ⟨rfl, below_setRow (HB1.out.alloc HB1.out.size _) HB1.out.size _⟩
end Go.Proofs.Ythhokiigdgpmcaa

/- whole.First, whole.Last, with a closure that has a box of its own to write in. -/
namespace Go.Proofs.Ythhokiigdgpmcaa
open Go.RowKit

/-- The function K, with what its closure keeps, answers p from lo to hi, where I holds; and I holds behind it. -/
def AnsI (I : World → Prop) (K : FuncId) (caps : Array Value) (lo hi : Int) (p : Int → Bool) : Prop :=
  (∀ args W, Sem.run Try.prog (callFunc K args) W = Result.ok (Next.enter K args) W) ∧
  ∀ W n, I W → lo ≤ n → n ≤ hi → Calls Try.prog K (#[.int .i64 n] ++ caps) W fun e w' => e = .returned (.bool (p n)) ∧ I w'

set_option maxRecDepth 100000 in
theorem firstI_any (I : World → Prop) (K : FuncId) (caps : Array Value) (lo hi : Int) (p : Int → Bool) (w : World) (h1 : -1000000000 ≤ lo) (h2 : hi ≤ 1000000000) (h3 : lo ≤ hi + 1) (mono : ∀ i j, lo ≤ i → i ≤ j → j ≤ hi → p i = true → p j = true)
    (HA : AnsI I K caps lo hi p) (hI : I w) :
    Calls Try.prog 115 #[.int .i64 lo, .int .i64 hi, .func (.func K) #[] caps] w fun e w' => e = .returned (.tuple #[.int .i64 (firB p lo (hi + 1 - lo).toNat), .bool (decide (firB p lo (hi + 1 - lo).toNat ≤ hi))]) ∧ I w' := by
  obtain ⟨eg, HI⟩ := HA
  obtain ⟨r, hr⟩ : ∃ r, firB p lo (hi + 1 - lo).toNat = r := ⟨_, rfl⟩
  rw [hr]
  have HR := Lib.hid hr
  clear hr
  have HC := Lib.hid HI
  have HM := Lib.hid mono
  clear HI mono
  go_enter Try.func115, Try.ntmps115
  go_wp2
  go_loopw [0, 1] (fun l h wr => ∃ a b : Int, l = .int .i64 a ∧ h = .int .i64 b ∧ lo ≤ a ∧ a ≤ b + 1 ∧ b ≤ hi ∧ (∀ j, lo ≤ j → j < a → p j = false) ∧ (b < hi → p (b + 1) = true) ∧ I wr) (fun l h _ => (intOf h + 1 - intOf l).toNat)
  case atStart => exact ⟨lo, hi, rfl, rfl, Int.le_refl _, h3, Int.le_refl _, fun j a b => by omega, fun a => by omega, hI⟩
  case round =>
    obtain ⟨a, b, rfl, rfl, ha, hab, hb, hf, ht, hbw⟩ := hrel
    have HF := Lib.hid hf
    have HT := Lib.hid ht
    have HBW := Lib.hid hbw
    clear hf ht hbw
    by_cases hlt : a ≤ b
    · obtain ⟨m, hm⟩ : ∃ m, a + (b - a) / 2 = m := ⟨_, rfl⟩
      have m1 : a ≤ m ∧ m ≤ b := by omega
      have HCm := Lib.hid (HC.out wr m HBW.out (by omega) (by omega))
      have hp0 : ∃ v, p m = v := ⟨_, rfl⟩
      obtain ⟨v, hp⟩ := hp0
      rw [hp] at HCm
      have HP := Lib.hid hp
      clear hp
      cases v with
      | true =>
        go_wp2_with (refine Calls.mono HCm.out ?_; rintro e w1 ⟨rfl, hb1⟩; have HB1 := Lib.hid hb1; clear hb1)
        go_roundw
        case rel => exact ⟨a, m - 1, rfl, rfl, ha, by omega, by omega, HF.out, fun _ => by rw [show m - 1 + 1 = m by omega]; exact HP.out, HB1.out⟩
        case measure => simp [intOf]; omega
      | false =>
        go_wp2_with (refine Calls.mono HCm.out ?_; rintro e w1 ⟨rfl, hb1⟩; have HB1 := Lib.hid hb1; clear hb1)
        go_roundw
        case rel => exact ⟨m + 1, b, rfl, rfl, by omega, by omega, hb, fun j j1 j2 => by
          by_cases hjm : j ≤ m
          · cases hj : p j with
            | false => rfl
            | true =>
              have := HM.out j m j1 hjm (by omega) hj
              rw [HP.out] at this
              cases this
          · omega, HT.out, HB1.out⟩
        case measure => simp [intOf]; omega
    · obtain rfl : b = a - 1 := by omega
      obtain rfl : r = a := by
        rw [← HR.out]
        exact firB_uniq ha (by omega) HF.out (fun h => by have := HT.out (by omega); rwa [show a - 1 + 1 = a by omega] at this)
      go_wp2
      go_ret2
      exact ⟨rfl, HBW.out⟩


/-- Last's closure. -/
theorem last1I_answers (I : World → Prop) (K : FuncId) (caps : Array Value) (lo hi : Int) (p : Int → Bool) (g : Nat) (HA : AnsI I K caps lo hi p) (hg : ∀ W, I W → W.cell? ⟨g, 0, none⟩ = some (.func (.func K) #[] caps)) :
    AnsI I 116 #[.pointer (some ⟨g, 0, none⟩)] lo hi (fun n => !p n) := by
  obtain ⟨eg, HI⟩ := HA
  refine ⟨Try.call116, fun W n hW n1 n2 => ?_⟩
  have HC := Lib.hid (HI W n hW n1 n2)
  have hcW := hg W hW
  clear HI hW hg
  show Calls Try.prog 116 #[.int .i64 n, .pointer (some ⟨g, 0, none⟩)] W fun e w' => e = .returned (.bool (!p n)) ∧ I w'
  generalize p n = v at *
  go_enter Try.func116, Try.ntmps116
  go_wp2_with (refine Calls.mono HC.out ?_; rintro e w1 ⟨rfl, hb1⟩; have HB1 := Lib.hid hb1; clear hb1)
  go_ret
  exact ⟨rfl, HB1.out⟩

set_option maxRecDepth 100000 in
theorem lastI_any (I : World → Prop) (K : FuncId) (caps : Array Value) (lo hi : Int) (p : Int → Bool) (w : World) (h1 : -1000000000 ≤ lo) (h2 : hi ≤ 1000000000) (h3 : lo ≤ hi) (mono : ∀ i j, lo ≤ i → i ≤ j → j ≤ hi → p j = true → p i = true)
    (HA : AnsI (fun W => I W ∧ W.cell? ⟨w.heap.size, 0, none⟩ = some (.func (.func K) #[] caps)) K caps lo hi p) (hI : I (w.alloc (.cells #[.func (.func K) #[] caps] 113))) :
    Calls Try.prog 78 #[.int .i64 lo, .int .i64 hi, .func (.func K) #[] caps] w fun e w' => e = .returned (.tuple #[.int .i64 (lastN p lo hi).1, .bool (lastN p lo hi).2]) ∧ I w' := by
  have hbd := firB_spec (fun n => !p n) (hi + 1 - lo).toNat lo
  have b1 := hbd.1
  have b2 := hbd.2.1
  have HF := Lib.hid (firstI_any _ 116 #[.pointer (some ⟨w.heap.size, 0, none⟩)] lo hi (fun n => !p n) (w.alloc (.cells #[.func (.func K) #[] caps] 113)) h1 h2 (by omega) (fun i j a b c d => by
    cases hj : p j with
    | false => rfl
    | true =>
      have := mono i j a b c hj
      rw [this] at d
      cases d) (last1I_answers _ K caps lo hi p w.heap.size HA (fun W h => h.2)) ⟨hI, by rw [cell_newest]; rfl⟩)
  unfold lastN
  clear HA mono hbd
  generalize firB (fun n => !p n) lo (hi + 1 - lo).toNat = r at *
  by_cases hr : r ≤ hi
  · have hd : decide (r ≤ hi) = true := decide_eq_true hr
    rw [hd] at HF
    clear hd
    go_enter Try.func78, Try.ntmps78
    go_wp2_with (go_at_call 115; refine Calls.mono HF.out ?_; rintro e w1 ⟨rfl, hb1⟩; have HB1 := Lib.hid hb1.1; clear hb1)
    go_ret2
    exact ⟨rfl, HB1.out⟩
  · have hd : decide (r ≤ hi) = false := decide_eq_false hr
    rw [hd] at HF
    obtain rfl : hi = r - 1 := by omega
    clear hd
    go_enter Try.func78, Try.ntmps78
    go_wp2_with (go_at_call 115; refine Calls.mono HF.out ?_; rintro e w1 ⟨rfl, hb1⟩; have HB1 := Lib.hid hb1.1; clear hb1)
    go_ret2
    exact ⟨by rw [show decide (lo < r) = true by simp; omega]; rfl, HB1.out⟩
end Go.Proofs.Ythhokiigdgpmcaa

/- Heaviest. -/
namespace Go.Proofs.Ythhokiigdgpmcaa
open Go.RowKit

set_option maxRecDepth 100000
/-- What holds while Heaviest looks at weights: its boxes; the one of the machine has some weight. -/
structure HvI (w : World) (gm ga gs gr : Nat) (r : RO) (a : AI) (s : Int × Int) (res : Int) (W : World) : Prop where
  b : Below w.heap.size w W
  m : ∃ b : AI, (∃ k, b = a.up k) ∧ BK W gm #[.slice r.h.ax r.h.X.length r.h.cx, .slice r.h.ay r.h.Y.length r.h.cy, .slice r.h.av r.h.V.length r.h.cv, .slice r.g.ax r.g.X.length r.g.cx, .slice r.g.ay r.g.Y.length r.g.cy, .slice r.g.av r.g.V.length r.g.cv, .slice r.l.ax r.l.X.length r.l.cx, .slice r.l.ay r.l.Y.length r.l.cy, .slice r.l.av r.l.V.length r.l.cv, .slice r.p.ax r.p.X.length r.p.cx, .slice r.p.ay r.p.Y.length r.p.cy, .slice r.p.av r.p.V.length r.p.cv, .slice r.n.ax r.n.X.length r.n.cx, .slice r.n.ay r.n.Y.length r.n.cy, .slice r.n.av r.n.V.length r.n.cv, .slice r.a.ax r.a.X.length r.a.cx, .slice r.a.ay r.a.Y.length r.a.cy, .slice r.a.av r.a.V.length r.a.cv, .slice r.b.ax r.b.X.length r.b.cx, .slice r.b.ay r.b.Y.length r.b.cy, .slice r.b.av r.b.V.length r.b.cv, .slice r.d.ax r.d.X.length r.d.cx, .slice r.d.ay r.d.Y.length r.d.cy, .slice r.d.av r.d.V.length r.d.cv, .int .i64 r.cl, .int .i64 r.bu, .int .i64 b.w.1, .int .i64 b.w.2, .int .i64 b.t.1, .int .i64 b.t.2, .int .i64 b.h.1, .int .i64 b.h.2, .int .i64 b.v.1, .int .i64 b.v.2] 87
  a : BK W ga #[.int .i64 a.w.1, .int .i64 a.w.2, .int .i64 a.t.1, .int .i64 a.t.2, .int .i64 a.h.1, .int .i64 a.h.2, .int .i64 a.v.1, .int .i64 a.v.2] 36
  s : BK W gs #[.int .i64 s.1, .int .i64 s.2] 34
  r : BK W gr #[.int .i64 res] 3
theorem HvI.next {w W W' : World} {gm ga gs gr : Nat} {r : RO} {a : AI} {s : Int × Int} {res : Int} (h : HvI w gm ga gs gr r a s res W) (hb : Below W.heap.size W W') : HvI w gm ga gs gr r a s res W' := by
  obtain ⟨h1, ⟨b, hb', h2⟩, h3, h4, h5⟩ := h
  exact ⟨h1.trans (hb.mono h1.size), ⟨b, hb', h2.keep hb⟩, h3.keep hb, h4.keep hb, h5.keep hb⟩
set_option maxHeartbeats 1000000 in
theorem heav1_any (w : World) (gm ga gs gr : Nat) (r : RO) (a : AI) (s : Int × Int) (res n : Int) (W : World) (rg : RG w r) (hv : Mrg r a s) (n1 : a.w.1 ≤ n) (n2 : n ≤ a.w.2) (hI : HvI w gm ga gs gr r a s res W) (h0 : w.heap.size ≤ gm) (h1 : gm ≠ ga) (h2 : gm ≠ gs) (h3 : gm ≠ gr) :
    Calls Try.prog 76 #[.int .i64 n, .pointer (some ⟨ga, 0, none⟩), .pointer (some ⟨gm, 0, none⟩), .pointer (some ⟨gs, 0, none⟩), .pointer (some ⟨gr, 0, none⟩)] W fun e w' =>
      e = .returned (.bool (hvP r a s res n)) ∧ HvI w gm ga gs gr r a s res w' ∧ W.heap.size ≤ w'.heap.size ∧ ∀ q, q < W.heap.size → q ≠ gm → w'.heap[q]? = W.heap[q]? := by
  obtain ⟨MS, hm⟩ : ∃ MS : Array Value, #[.slice r.h.ax r.h.X.length r.h.cx, .slice r.h.ay r.h.Y.length r.h.cy, .slice r.h.av r.h.V.length r.h.cv, .slice r.g.ax r.g.X.length r.g.cx, .slice r.g.ay r.g.Y.length r.g.cy, .slice r.g.av r.g.V.length r.g.cv, .slice r.l.ax r.l.X.length r.l.cx, .slice r.l.ay r.l.Y.length r.l.cy, .slice r.l.av r.l.V.length r.l.cv, .slice r.p.ax r.p.X.length r.p.cx, .slice r.p.ay r.p.Y.length r.p.cy, .slice r.p.av r.p.V.length r.p.cv, .slice r.n.ax r.n.X.length r.n.cx, .slice r.n.ay r.n.Y.length r.n.cy, .slice r.n.av r.n.V.length r.n.cv, .slice r.a.ax r.a.X.length r.a.cx, .slice r.a.ay r.a.Y.length r.a.cy, .slice r.a.av r.a.V.length r.a.cv, .slice r.b.ax r.b.X.length r.b.cx, .slice r.b.ay r.b.Y.length r.b.cy, .slice r.b.av r.b.V.length r.b.cv, .slice r.d.ax r.d.X.length r.d.cx, .slice r.d.ay r.d.Y.length r.d.cy, .slice r.d.av r.d.V.length r.d.cv, .int .i64 r.cl, .int .i64 r.bu, .int .i64 (a.up n).w.1, .int .i64 (a.up n).w.2, .int .i64 (a.up n).t.1, .int .i64 (a.up n).t.2, .int .i64 (a.up n).h.1, .int .i64 (a.up n).h.2, .int .i64 (a.up n).v.1, .int .i64 (a.up n).v.2] = MS := ⟨_, rfl⟩
  have HMM := Lib.hid (fun (V : World) (hV : Below w.heap.size w V) => mmargin_any r (a.up n) MS hm.symm s V (rg.below hV) (hv.up n1 n2))
  have HP := Lib.hid (show hvP r a s res n = decide (res ≤ mgN r (a.up n) s) from rfl)
  rw [HP.out]
  generalize mgN r (a.up n) s = N at *
  have HMZ := Lib.hid (show MS.size = 34 by rw [← hm]; rfl)
  obtain ⟨b, ⟨k, hbk⟩, KM⟩ := hI.m
  have HI := Lib.hid hI
  have a0 : W.cell? ⟨ga, 0, none⟩ = some (.int .i64 a.w.1) := hI.a.cell 0
  have la := hI.a.lt
  have lm := KM.lt
  have ls := hI.s.lt
  have lr := hI.r.lt
  have HKM := Lib.hid KM
  have HBK := Lib.hid hbk
  have HM := Lib.hid hm
  clear rg hv HP KM hI hbk hm
  go_enter Try.func76, Try.ntmps76
  go_upto_region 2 with (go_at_call 77; refine Calls.mono (rspan_any a.w.1 n _) ?_; rintro e w1 ⟨rfl, hb1⟩; have HN1 := Lib.hid (HI.out.next hb1); have K1 := HKM.out.keep hb1; have m0 : w1.cell? ⟨gm, 26, none⟩ = some (.int .i64 b.w.1) := K1.cell 26; have m1 : w1.cell? ⟨gm, 27, none⟩ = some (.int .i64 b.w.2) := K1.cell 27; have f0 := K1.free 26; have f1 := K1.free 27; have HK1 := Lib.hid K1; have HB1 := Lib.hid hb1; clear hb1 K1)
  have KN : BK ((w1.setCell ⟨gm, 26, none⟩ (.int .i64 a.w.1)).setCell ⟨gm, 27, none⟩ (.int .i64 n)) gm MS 87 := by
    rw [← HM.out]
    have e := HBK.out
    subst e
    exact (HK1.out.set2 (k := 26) rfl)
  have HI2 : HvI w gm ga gs gr r a s res ((w1.setCell ⟨gm, 26, none⟩ (.int .i64 a.w.1)).setCell ⟨gm, 27, none⟩ (.int .i64 n)) :=
    ⟨(HN1.out.b.setCell (p := ⟨gm, 26, none⟩) h0 _).setCell (p := ⟨gm, 27, none⟩) h0 _, ⟨a.up n, ⟨n, rfl⟩, by have := KN; rw [← HM.out] at this; exact this⟩, (HN1.out.a.setO (fun e => h1 e.symm)).setO (fun e => h1 e.symm), (HN1.out.s.setO (fun e => h2 e.symm)).setO (fun e => h2 e.symm), (HN1.out.r.setO (fun e => h3 e.symm)).setO (fun e => h3 e.symm)⟩
  have HQ2 : W.heap.size ≤ ((w1.setCell ⟨gm, 26, none⟩ (.int .i64 a.w.1)).setCell ⟨gm, 27, none⟩ (.int .i64 n)).heap.size ∧ ∀ q, q < W.heap.size → q ≠ gm → ((w1.setCell ⟨gm, 26, none⟩ (.int .i64 a.w.1)).setCell ⟨gm, 27, none⟩ (.int .i64 n)).heap[q]? = W.heap[q]? :=
    ⟨by simp [World.setCell]; exact HB1.out.size, fun q hq hn => by rw [Below.heap_setCell _ _ _ _ hn, Below.heap_setCell _ _ _ _ hn]; exact HB1.out.block q hq⟩
  clear m0 m1 f0 f1 HN1 HK1 HB1 HKM HBK HM a0 HI
  generalize (w1.setCell ⟨gm, 26, none⟩ (.int .i64 a.w.1)).setCell ⟨gm, 27, none⟩ (.int .i64 n) = W2 at *
  have KN' := Lib.hid KN
  have HI2' := Lib.hid HI2
  have HQ2' := Lib.hid HQ2
  have s0 : W2.cell? ⟨gs, 0, none⟩ = some (.int .i64 s.1) := HI2.s.cell 0
  have s1 : W2.cell? ⟨gs, 1, none⟩ = some (.int .i64 s.2) := HI2.s.cell 1
  have r0 : W2.cell? ⟨gr, 0, none⟩ = some (.int .i64 res) := HI2.r.cell 0
  clear KN HI2 HQ2
  obtain ⟨Qa, hQa⟩ : ∃ q9 : Nat → Value → World → Prop, q9 = QG [some (.agg MS), some (.agg #[.int .i64 s.1, .int .i64 s.2]), some (.int .i64 N), some (.int .i64 res), some (.bool (decide (res ≤ N))), some (.bool (decide (res ≤ N)))] (fun _ _ _ => True) := ⟨_, rfl⟩
  have hst : Stays Qa := by rw [hQa]; exact QG.stays (fun _ _ _ _ _ _ => trivial)
  have HQa := Lib.hid hQa
  clear hQa
  refine wpIn_wide.1 (region_inv2 (n := 9) (by kernel_rfl) (RQ Qa W2) (by kernel_rfl) rfl (RQ.start _ _ _) ?hstepa ?henda)
  case hstepa =>
    intro i' o ho val L b' x hF hR hpre hl
    match i', ho with
    | 0, ho =>
      simp at ho; subst ho; refine step_plain rfl ?_; have e2 := hF.was 2 (by kernel_rfl) rfl; have hgoal := hR.go hst HQa 0 rfl
      exact inM (KN'.out.keep hR.1) HMZ.out (e2.trans rfl) ⟨_, rfl, hgoal _ _ (Below.refl _ _) rfl⟩
    | 1, ho =>
      simp at ho; subst ho; refine step_plain rfl ?_; have e3 := hF.was 3 (by kernel_rfl) rfl; have hgoal := hR.go hst HQa 1 rfl; have q0 := cell_keep hR.1 s0; have q1 := cell_keep hR.1 s1; clear hF hpre hl hR; go_simp; exact ⟨_, rfl, hgoal _ _ (Below.refl _ _) rfl⟩
    | 2, ho =>
      simp at ho; subst ho; refine step_plain rfl ?_; have e14 := hF.gv hR.2 HQa 0 rfl (hpre ⟨0, .data⟩ (by simp) rfl) rfl; have e15 := hF.gv hR.2 HQa 1 rfl (hpre ⟨1, .data⟩ (by simp) rfl) rfl; have hgoal := hR.go hst HQa 2 rfl
      have hM := Lib.hid hR.1
      clear hF hpre hl hR; go_simp
      refine ⟨trivial, ?_⟩
      refine CallsIn.mono (callsIn_wide.2 (HMM.out _ (HI2'.out.b.trans (hM.out.mono HI2'.out.b.size)))) ?_
      rintro e w9 ⟨rfl, hb9⟩
      exact ⟨_, rfl, hgoal _ _ hb9 rfl⟩
    | 3, ho =>
      simp at ho; subst ho; refine step_plain rfl ?_; have e4 := hF.was 4 (by kernel_rfl) rfl; have hgoal := hR.go hst HQa 3 rfl; have q0 := cell_keep hR.1 r0; clear hF hpre hl hR; go_simp; exact ⟨_, rfl, hgoal _ _ (Below.refl _ _) rfl⟩
    | 4, ho =>
      simp at ho; subst ho; refine step_plain rfl ?_; have e16 := hF.gv hR.2 HQa 2 rfl (hpre ⟨2, .data⟩ (by simp) rfl) rfl; have e17 := hF.gv hR.2 HQa 3 rfl (hpre ⟨3, .data⟩ (by simp) rfl) rfl; have hgoal := hR.go hst HQa 4 rfl; clear hF hpre hl hR; go_simp; exact ⟨_, rfl, hgoal _ _ (Below.refl _ _) rfl⟩
    | 5, ho =>
      simp at ho; subst ho; refine step_plain rfl ?_; have e18 := hF.gv hR.2 HQa 4 rfl (hpre ⟨4, .data⟩ (by simp) rfl) rfl; have hgoal := hR.go hst HQa 5 rfl; clear hF hpre hl hR; go_simp; exact ⟨_, rfl, hgoal _ _ (Below.refl _ _) rfl⟩
    | i + 6, ho => simp at ho
  case henda =>
    intro val L b' x hF hall hR
    have e := hF.all (by kernel_rfl) hall
    have ka5 := QG.val HQa rfl (hR.2 5 (hall 5 (by decide)))
    have hBa := Lib.hid hR.1
    clear hF hall hR hst HQa 
    subst e
    simp [final, dstOf, List.range, List.range.loop]
    rw [ka5]
    go_wp2
    exact bodyPost_ret (v := .bool (decide (res ≤ N))) (by simp [results, Try.results76, go_sem]) rfl ⟨rfl, HI2'.out.next hBa.out, Nat.le_trans HQ2'.out.1 hBa.out.size, fun q hq hn => (hBa.out.block q (Nat.lt_of_lt_of_le hq HQ2'.out.1)).trans (HQ2'.out.2 q hq hn)⟩
end Go.Proofs.Ythhokiigdgpmcaa

/- Heaviest, the whole. -/
namespace Go.Proofs.Ythhokiigdgpmcaa
open Go.RowKit

set_option maxRecDepth 100000
theorem hv_last (w : World) (gm : Nat) (r : RO) (a : AI) (s : Int × Int) (res : Int) (V : World) (rg : RG w r) (hv : Mrg r a s) (hI : HvI w gm (w.heap.size + 1) (w.heap.size + 1 + 1) (w.heap.size + 1 + 1 + 1) r a s res V) (h0 : w.heap.size + 1 + 1 + 1 < gm) (hg : gm < V.heap.size) :
    Calls Try.prog 78 #[.int .i64 a.w.1, .int .i64 a.w.2, .func (.func 76) #[] #[.pointer (some ⟨w.heap.size + 1, 0, none⟩), .pointer (some ⟨gm, 0, none⟩), .pointer (some ⟨w.heap.size + 1 + 1, 0, none⟩), .pointer (some ⟨w.heap.size + 1 + 1 + 1, 0, none⟩)]] V fun e w' => e = .returned (.tuple #[.int .i64 (lastN (hvP r a s res) a.w.1 a.w.2).1, .bool (lastN (hvP r a s res) a.w.1 a.w.2).2]) ∧ Below w.heap.size w w' := by
  have hs := vS_get (a := a.w.1) (b := a.w.2) (AI.ok_get hv.ao).1
  refine (lastI_any (HvI w gm (w.heap.size + 1) (w.heap.size + 1 + 1) (w.heap.size + 1 + 1 + 1) r a s res) 76 _ a.w.1 a.w.2 (hvP r a s res) V (by omega) (by omega) hs.1 (fun i j => hvP_mono hv i j) ⟨Try.call76, fun W n hW n1 n2 => ?_⟩ (hI.next ((Below.refl _ _).alloc (Nat.le_refl _) _))).mono ?_
  · obtain ⟨h, hc⟩ := hW
    refine (heav1_any w gm (w.heap.size + 1) (w.heap.size + 1 + 1) (w.heap.size + 1 + 1 + 1) r a s res n W rg hv n1 n2 h (by omega) (by omega) (by omega) (by omega)).mono ?_
    rintro e w' ⟨rfl, h', hz, hq⟩
    refine ⟨rfl, h', ?_⟩
    have hl := World.block_lt_of_cell? _ _ hc
    simp only [World.cell?] at hc ⊢
    rw [hq _ hl (by simp; omega)]
    exact hc
  · rintro e w' ⟨rfl, h⟩
    exact ⟨rfl, h.b⟩

set_option maxHeartbeats 4000000 in
theorem heaviest_any (r : RO) (a : AI) (CS : Array Value) (s : Int × Int) (res : Int) (w : World) (rg : RG w r) (hc : CS = #[.slice r.h.ax r.h.X.length r.h.cx, .slice r.h.ay r.h.Y.length r.h.cy, .slice r.h.av r.h.V.length r.h.cv, .slice r.g.ax r.g.X.length r.g.cx, .slice r.g.ay r.g.Y.length r.g.cy, .slice r.g.av r.g.V.length r.g.cv, .slice r.l.ax r.l.X.length r.l.cx, .slice r.l.ay r.l.Y.length r.l.cy, .slice r.l.av r.l.V.length r.l.cv, .slice r.p.ax r.p.X.length r.p.cx, .slice r.p.ay r.p.Y.length r.p.cy, .slice r.p.av r.p.V.length r.p.cv, .slice r.n.ax r.n.X.length r.n.cx, .slice r.n.ay r.n.Y.length r.n.cy, .slice r.n.av r.n.V.length r.n.cv, .slice r.a.ax r.a.X.length r.a.cx, .slice r.a.ay r.a.Y.length r.a.cy, .slice r.a.av r.a.V.length r.a.cv, .slice r.b.ax r.b.X.length r.b.cx, .slice r.b.ay r.b.Y.length r.b.cy, .slice r.b.av r.b.V.length r.b.cv, .slice r.d.ax r.d.X.length r.d.cx, .slice r.d.ay r.d.Y.length r.d.cy, .slice r.d.av r.d.V.length r.d.cv, .int .i64 r.cl, .int .i64 r.bu]) :
    Calls Try.prog 26 #[.agg CS, .agg #[.int .i64 a.w.1, .int .i64 a.w.2, .int .i64 a.t.1, .int .i64 a.t.2, .int .i64 a.h.1, .int .i64 a.h.2, .int .i64 a.v.1, .int .i64 a.v.2], .agg #[.int .i64 s.1, .int .i64 s.2], .int .i64 res] w fun e w' => e = .returned (.tuple #[.int .i64 (hvN r a s res).1, .int .i64 (hvN r a s res).2]) ∧ Below w.heap.size w w' := by
  obtain ⟨MS, hm⟩ : ∃ MS : Array Value, MS = #[.slice r.h.ax r.h.X.length r.h.cx, .slice r.h.ay r.h.Y.length r.h.cy, .slice r.h.av r.h.V.length r.h.cv, .slice r.g.ax r.g.X.length r.g.cx, .slice r.g.ay r.g.Y.length r.g.cy, .slice r.g.av r.g.V.length r.g.cv, .slice r.l.ax r.l.X.length r.l.cx, .slice r.l.ay r.l.Y.length r.l.cy, .slice r.l.av r.l.V.length r.l.cv, .slice r.p.ax r.p.X.length r.p.cx, .slice r.p.ay r.p.Y.length r.p.cy, .slice r.p.av r.p.V.length r.p.cv, .slice r.n.ax r.n.X.length r.n.cx, .slice r.n.ay r.n.Y.length r.n.cy, .slice r.n.av r.n.V.length r.n.cv, .slice r.a.ax r.a.X.length r.a.cx, .slice r.a.ay r.a.Y.length r.a.cy, .slice r.a.av r.a.V.length r.a.cv, .slice r.b.ax r.b.X.length r.b.cx, .slice r.b.ay r.b.Y.length r.b.cy, .slice r.b.av r.b.V.length r.b.cv, .slice r.d.ax r.d.X.length r.d.cx, .slice r.d.ay r.d.Y.length r.d.cy, .slice r.d.av r.d.V.length r.d.cv, .int .i64 r.cl, .int .i64 r.bu, .int .i64 a.w.1, .int .i64 a.w.2, .int .i64 a.t.1, .int .i64 a.t.2, .int .i64 a.h.1, .int .i64 a.h.2, .int .i64 a.v.1, .int .i64 a.v.2] := ⟨_, rfl⟩
  have HH := Lib.hid (fun (W : World) (hW : Below w.heap.size w W) => hovering_any r a CS MS s W (rg.below hW) hc hm)
  have HSZ := Lib.hid (show CS.size = 26 by rw [hc]; rfl)
  have HMZ := Lib.hid (show MS.size = 34 by rw [hm]; rfl)
  have HMO := Lib.hid (show MS.all (·.oneCell') = true by rw [hm]; simp [Value.oneCell'])
  have W1 := Lib.hid ((((BK.new (w := w) (cs := CS) (T := 27)).old (x := .cells #[.int .i64 a.w.1, .int .i64 a.w.2, .int .i64 a.t.1, .int .i64 a.t.2, .int .i64 a.h.1, .int .i64 a.h.2, .int .i64 a.v.1, .int .i64 a.v.2] 36)).old (x := .cells #[.int .i64 s.1, .int .i64 s.2] 34)).old (x := .cells #[.int .i64 res] 3))
  have W2 := Lib.hid (((BK.newg (w := (w.alloc (.cells CS 27))) (g := w.heap.size + 1) (cs := #[.int .i64 a.w.1, .int .i64 a.w.2, .int .i64 a.t.1, .int .i64 a.t.2, .int .i64 a.h.1, .int .i64 a.h.2, .int .i64 a.v.1, .int .i64 a.v.2]) (T := 36) (by simp)).old (x := .cells #[.int .i64 s.1, .int .i64 s.2] 34)).old (x := .cells #[.int .i64 res] 3))
  have W3 := Lib.hid ((BK.newg (w := ((w.alloc (.cells CS 27)).alloc (.cells #[.int .i64 a.w.1, .int .i64 a.w.2, .int .i64 a.t.1, .int .i64 a.t.2, .int .i64 a.h.1, .int .i64 a.h.2, .int .i64 a.v.1, .int .i64 a.v.2] 36))) (g := w.heap.size + 1 + 1) (cs := #[.int .i64 s.1, .int .i64 s.2]) (T := 34) (by simp)).old (x := .cells #[.int .i64 res] 3))
  have W4 := Lib.hid (BK.newg (w := (((w.alloc (.cells CS 27)).alloc (.cells #[.int .i64 a.w.1, .int .i64 a.w.2, .int .i64 a.t.1, .int .i64 a.t.2, .int .i64 a.h.1, .int .i64 a.h.2, .int .i64 a.v.1, .int .i64 a.v.2] 36)).alloc (.cells #[.int .i64 s.1, .int .i64 s.2] 34))) (g := w.heap.size + 1 + 1 + 1) (cs := #[.int .i64 res]) (T := 3) (by simp))
  have HB := Lib.hid (show Below w.heap.size w ((((w.alloc (.cells CS 27)).alloc (.cells #[.int .i64 a.w.1, .int .i64 a.w.2, .int .i64 a.t.1, .int .i64 a.t.2, .int .i64 a.h.1, .int .i64 a.h.2, .int .i64 a.v.1, .int .i64 a.v.2] 36)).alloc (.cells #[.int .i64 s.1, .int .i64 s.2] 34)).alloc (.cells #[.int .i64 res] 3)) by go_grown)
  unfold hvN
  by_cases hE : redE r a [loH r a, loG r a s, loP r a] [s] = 0
  · rw [if_pos hE]
    have HLA := Lib.hid (fun (gm : Nat) (V : World) hI h0 hg => hv_last w gm r a s res V rg (mrg_of hE) hI h0 hg)
    rw [hE] at HH
    have HM := Lib.hid hm
    generalize lastN (hvP r a s res) a.w.1 a.w.2 = LN at *
    obtain ⟨ln, lb⟩ := LN
    dsimp only at HLA ⊢
    clear rg hc hm hE
    cases lb with
    | false =>
      go_enter Try.func26, Try.ntmps26
      go_wp2_with (first
      | ((with_reducible refine ldR W1.out HSZ.out ?_ ?_); rfl)
      | ((with_reducible refine ldA W2.out ?_ ?_ ?_); rfl; rfl)
      | (go_at_call 69; refine Calls.mono (HH.out _ HB.out) ?_; rintro e w1 ⟨rfl, hb1⟩; have K2 := Lib.hid (W2.out.keep hb1); have K3 := Lib.hid (W3.out.keep hb1); have K4 := Lib.hid (W4.out.keep hb1); have KM := Lib.hid (BK.newg (w := w1) (g := w1.heap.size) (cs := #[.slice none 0 0, .slice none 0 0, .slice none 0 0, .slice none 0 0, .slice none 0 0, .slice none 0 0, .slice none 0 0, .slice none 0 0, .slice none 0 0, .slice none 0 0, .slice none 0 0, .slice none 0 0, .slice none 0 0, .slice none 0 0, .slice none 0 0, .slice none 0 0, .slice none 0 0, .slice none 0 0, .slice none 0 0, .slice none 0 0, .slice none 0 0, .slice none 0 0, .slice none 0 0, .slice none 0 0, .int .i64 0, .int .i64 0, .int .i64 0, .int .i64 0, .int .i64 0, .int .i64 0, .int .i64 0, .int .i64 0, .int .i64 0, .int .i64 0]) (T := 87) rfl); have HB1 := Lib.hid (HB.out.trans (hb1.mono HB.out.size)); clear hb1)
        | ((with_reducible refine stM KM.out ?_ ?_ ?_ HMZ.out HMO.out ?_); rfl; rfl; rfl; (have KN := Lib.hid (KM.out.row (ds := MS))); (have HB2 := Lib.hid (below_setRow (HB1.out.alloc HB1.out.size (.cells #[.slice none 0 0, .slice none 0 0, .slice none 0 0, .slice none 0 0, .slice none 0 0, .slice none 0 0, .slice none 0 0, .slice none 0 0, .slice none 0 0, .slice none 0 0, .slice none 0 0, .slice none 0 0, .slice none 0 0, .slice none 0 0, .slice none 0 0, .slice none 0 0, .slice none 0 0, .slice none 0 0, .slice none 0 0, .slice none 0 0, .slice none 0 0, .slice none 0 0, .slice none 0 0, .slice none 0 0, .int .i64 0, .int .i64 0, .int .i64 0, .int .i64 0, .int .i64 0, .int .i64 0, .int .i64 0, .int .i64 0, .int .i64 0, .int .i64 0] 87)) (g := w1.heap.size) HB1.out.size MS)); (have hl4 := K4.out.lt); (have J2 := Lib.hid ((K2.out.old (x := .cells #[.slice none 0 0, .slice none 0 0, .slice none 0 0, .slice none 0 0, .slice none 0 0, .slice none 0 0, .slice none 0 0, .slice none 0 0, .slice none 0 0, .slice none 0 0, .slice none 0 0, .slice none 0 0, .slice none 0 0, .slice none 0 0, .slice none 0 0, .slice none 0 0, .slice none 0 0, .slice none 0 0, .slice none 0 0, .slice none 0 0, .slice none 0 0, .slice none 0 0, .slice none 0 0, .slice none 0 0, .int .i64 0, .int .i64 0, .int .i64 0, .int .i64 0, .int .i64 0, .int .i64 0, .int .i64 0, .int .i64 0, .int .i64 0, .int .i64 0] 87)).rowO (g := w1.heap.size) (ds := MS) (q := w.heap.size + 1) (by omega))); (have J3 := Lib.hid ((K3.out.old (x := .cells #[.slice none 0 0, .slice none 0 0, .slice none 0 0, .slice none 0 0, .slice none 0 0, .slice none 0 0, .slice none 0 0, .slice none 0 0, .slice none 0 0, .slice none 0 0, .slice none 0 0, .slice none 0 0, .slice none 0 0, .slice none 0 0, .slice none 0 0, .slice none 0 0, .slice none 0 0, .slice none 0 0, .slice none 0 0, .slice none 0 0, .slice none 0 0, .slice none 0 0, .slice none 0 0, .slice none 0 0, .int .i64 0, .int .i64 0, .int .i64 0, .int .i64 0, .int .i64 0, .int .i64 0, .int .i64 0, .int .i64 0, .int .i64 0, .int .i64 0] 87)).rowO (g := w1.heap.size) (ds := MS) (q := w.heap.size + 1 + 1) (by omega))); (have J4 := Lib.hid ((K4.out.old (x := .cells #[.slice none 0 0, .slice none 0 0, .slice none 0 0, .slice none 0 0, .slice none 0 0, .slice none 0 0, .slice none 0 0, .slice none 0 0, .slice none 0 0, .slice none 0 0, .slice none 0 0, .slice none 0 0, .slice none 0 0, .slice none 0 0, .slice none 0 0, .slice none 0 0, .slice none 0 0, .slice none 0 0, .slice none 0 0, .slice none 0 0, .slice none 0 0, .slice none 0 0, .slice none 0 0, .slice none 0 0, .int .i64 0, .int .i64 0, .int .i64 0, .int .i64 0, .int .i64 0, .int .i64 0, .int .i64 0, .int .i64 0, .int .i64 0, .int .i64 0] 87)).rowO (g := w1.heap.size) (ds := MS) (q := w.heap.size + 1 + 1 + 1) (by omega))); clear KM K2 K3 K4; generalize (w1.alloc (.cells #[.slice none 0 0, .slice none 0 0, .slice none 0 0, .slice none 0 0, .slice none 0 0, .slice none 0 0, .slice none 0 0, .slice none 0 0, .slice none 0 0, .slice none 0 0, .slice none 0 0, .slice none 0 0, .slice none 0 0, .slice none 0 0, .slice none 0 0, .slice none 0 0, .slice none 0 0, .slice none 0 0, .slice none 0 0, .slice none 0 0, .slice none 0 0, .slice none 0 0, .slice none 0 0, .slice none 0 0, .int .i64 0, .int .i64 0, .int .i64 0, .int .i64 0, .int .i64 0, .int .i64 0, .int .i64 0, .int .i64 0, .int .i64 0, .int .i64 0] 87)).setRow w1.heap.size MS = V2 at *; (have c2 := J2.out.cell); (have l2 := J2.out.lt); (have lm := KN.out.lt))
        | (go_at_call 78; refine Calls.mono (HLA.out _ _ ⟨HB2.out, ⟨a, ⟨a.w.2, rfl⟩, by have := KN.out; rw [HM.out] at this; exact this⟩, J2.out, J3.out, J4.out⟩ hl4 lm) ?_; rintro e w3 ⟨rfl, hb3⟩; have HB3 := Lib.hid hb3; clear hb3))
      go_ret2
      exact ⟨rfl, HB3.out⟩
    | true =>
      go_enter Try.func26, Try.ntmps26
      go_wp2_with (first
      | ((with_reducible refine ldR W1.out HSZ.out ?_ ?_); rfl)
      | ((with_reducible refine ldA W2.out ?_ ?_ ?_); rfl; rfl)
      | (go_at_call 69; refine Calls.mono (HH.out _ HB.out) ?_; rintro e w1 ⟨rfl, hb1⟩; have K2 := Lib.hid (W2.out.keep hb1); have K3 := Lib.hid (W3.out.keep hb1); have K4 := Lib.hid (W4.out.keep hb1); have KM := Lib.hid (BK.newg (w := w1) (g := w1.heap.size) (cs := #[.slice none 0 0, .slice none 0 0, .slice none 0 0, .slice none 0 0, .slice none 0 0, .slice none 0 0, .slice none 0 0, .slice none 0 0, .slice none 0 0, .slice none 0 0, .slice none 0 0, .slice none 0 0, .slice none 0 0, .slice none 0 0, .slice none 0 0, .slice none 0 0, .slice none 0 0, .slice none 0 0, .slice none 0 0, .slice none 0 0, .slice none 0 0, .slice none 0 0, .slice none 0 0, .slice none 0 0, .int .i64 0, .int .i64 0, .int .i64 0, .int .i64 0, .int .i64 0, .int .i64 0, .int .i64 0, .int .i64 0, .int .i64 0, .int .i64 0]) (T := 87) rfl); have HB1 := Lib.hid (HB.out.trans (hb1.mono HB.out.size)); clear hb1)
        | ((with_reducible refine stM KM.out ?_ ?_ ?_ HMZ.out HMO.out ?_); rfl; rfl; rfl; (have KN := Lib.hid (KM.out.row (ds := MS))); (have HB2 := Lib.hid (below_setRow (HB1.out.alloc HB1.out.size (.cells #[.slice none 0 0, .slice none 0 0, .slice none 0 0, .slice none 0 0, .slice none 0 0, .slice none 0 0, .slice none 0 0, .slice none 0 0, .slice none 0 0, .slice none 0 0, .slice none 0 0, .slice none 0 0, .slice none 0 0, .slice none 0 0, .slice none 0 0, .slice none 0 0, .slice none 0 0, .slice none 0 0, .slice none 0 0, .slice none 0 0, .slice none 0 0, .slice none 0 0, .slice none 0 0, .slice none 0 0, .int .i64 0, .int .i64 0, .int .i64 0, .int .i64 0, .int .i64 0, .int .i64 0, .int .i64 0, .int .i64 0, .int .i64 0, .int .i64 0] 87)) (g := w1.heap.size) HB1.out.size MS)); (have hl4 := K4.out.lt); (have J2 := Lib.hid ((K2.out.old (x := .cells #[.slice none 0 0, .slice none 0 0, .slice none 0 0, .slice none 0 0, .slice none 0 0, .slice none 0 0, .slice none 0 0, .slice none 0 0, .slice none 0 0, .slice none 0 0, .slice none 0 0, .slice none 0 0, .slice none 0 0, .slice none 0 0, .slice none 0 0, .slice none 0 0, .slice none 0 0, .slice none 0 0, .slice none 0 0, .slice none 0 0, .slice none 0 0, .slice none 0 0, .slice none 0 0, .slice none 0 0, .int .i64 0, .int .i64 0, .int .i64 0, .int .i64 0, .int .i64 0, .int .i64 0, .int .i64 0, .int .i64 0, .int .i64 0, .int .i64 0] 87)).rowO (g := w1.heap.size) (ds := MS) (q := w.heap.size + 1) (by omega))); (have J3 := Lib.hid ((K3.out.old (x := .cells #[.slice none 0 0, .slice none 0 0, .slice none 0 0, .slice none 0 0, .slice none 0 0, .slice none 0 0, .slice none 0 0, .slice none 0 0, .slice none 0 0, .slice none 0 0, .slice none 0 0, .slice none 0 0, .slice none 0 0, .slice none 0 0, .slice none 0 0, .slice none 0 0, .slice none 0 0, .slice none 0 0, .slice none 0 0, .slice none 0 0, .slice none 0 0, .slice none 0 0, .slice none 0 0, .slice none 0 0, .int .i64 0, .int .i64 0, .int .i64 0, .int .i64 0, .int .i64 0, .int .i64 0, .int .i64 0, .int .i64 0, .int .i64 0, .int .i64 0] 87)).rowO (g := w1.heap.size) (ds := MS) (q := w.heap.size + 1 + 1) (by omega))); (have J4 := Lib.hid ((K4.out.old (x := .cells #[.slice none 0 0, .slice none 0 0, .slice none 0 0, .slice none 0 0, .slice none 0 0, .slice none 0 0, .slice none 0 0, .slice none 0 0, .slice none 0 0, .slice none 0 0, .slice none 0 0, .slice none 0 0, .slice none 0 0, .slice none 0 0, .slice none 0 0, .slice none 0 0, .slice none 0 0, .slice none 0 0, .slice none 0 0, .slice none 0 0, .slice none 0 0, .slice none 0 0, .slice none 0 0, .slice none 0 0, .int .i64 0, .int .i64 0, .int .i64 0, .int .i64 0, .int .i64 0, .int .i64 0, .int .i64 0, .int .i64 0, .int .i64 0, .int .i64 0] 87)).rowO (g := w1.heap.size) (ds := MS) (q := w.heap.size + 1 + 1 + 1) (by omega))); clear KM K2 K3 K4; generalize (w1.alloc (.cells #[.slice none 0 0, .slice none 0 0, .slice none 0 0, .slice none 0 0, .slice none 0 0, .slice none 0 0, .slice none 0 0, .slice none 0 0, .slice none 0 0, .slice none 0 0, .slice none 0 0, .slice none 0 0, .slice none 0 0, .slice none 0 0, .slice none 0 0, .slice none 0 0, .slice none 0 0, .slice none 0 0, .slice none 0 0, .slice none 0 0, .slice none 0 0, .slice none 0 0, .slice none 0 0, .slice none 0 0, .int .i64 0, .int .i64 0, .int .i64 0, .int .i64 0, .int .i64 0, .int .i64 0, .int .i64 0, .int .i64 0, .int .i64 0, .int .i64 0] 87)).setRow w1.heap.size MS = V2 at *; (have c2 := J2.out.cell); (have l2 := J2.out.lt); (have lm := KN.out.lt))
        | (go_at_call 78; refine Calls.mono (HLA.out _ _ ⟨HB2.out, ⟨a, ⟨a.w.2, rfl⟩, by have := KN.out; rw [HM.out] at this; exact this⟩, J2.out, J3.out, J4.out⟩ hl4 lm) ?_; rintro e w3 ⟨rfl, hb3⟩; have HB3 := Lib.hid hb3; clear hb3))
      go_ret2
      exact ⟨rfl, HB3.out⟩
  · rw [if_neg hE]
    generalize redE r a [loH r a, loG r a s, loP r a] [s] = E at *
    clear rg hc hm
    go_enter Try.func26, Try.ntmps26
    go_wp2_with (first
      | ((with_reducible refine ldR W1.out HSZ.out ?_ ?_); rfl)
      | ((with_reducible refine ldA W2.out ?_ ?_ ?_); rfl; rfl)
      | (go_at_call 69; refine Calls.mono (HH.out _ HB.out) ?_; rintro e w1 ⟨rfl, hb1⟩; have K2 := Lib.hid (W2.out.keep hb1); have K3 := Lib.hid (W3.out.keep hb1); have K4 := Lib.hid (W4.out.keep hb1); have KM := Lib.hid (BK.newg (w := w1) (g := w1.heap.size) (cs := #[.slice none 0 0, .slice none 0 0, .slice none 0 0, .slice none 0 0, .slice none 0 0, .slice none 0 0, .slice none 0 0, .slice none 0 0, .slice none 0 0, .slice none 0 0, .slice none 0 0, .slice none 0 0, .slice none 0 0, .slice none 0 0, .slice none 0 0, .slice none 0 0, .slice none 0 0, .slice none 0 0, .slice none 0 0, .slice none 0 0, .slice none 0 0, .slice none 0 0, .slice none 0 0, .slice none 0 0, .int .i64 0, .int .i64 0, .int .i64 0, .int .i64 0, .int .i64 0, .int .i64 0, .int .i64 0, .int .i64 0, .int .i64 0, .int .i64 0]) (T := 87) rfl); have HB1 := Lib.hid (HB.out.trans (hb1.mono HB.out.size)); clear hb1)
      | ((with_reducible refine stM KM.out ?_ ?_ ?_ HMZ.out HMO.out ?_); rfl; rfl; rfl))
    go_ret2
    exact ⟨rfl, below_setRow (HB1.out.alloc HB1.out.size _) HB1.out.size _⟩
end Go.Proofs.Ythhokiigdgpmcaa

/- Example of layer 2. -/
namespace Go.Proofs.Ythhokiigdgpmcaa
open Go.RowKit

theorem RI.bk {w : World} {B g : Nat} {cs : Array Value} {T : TypeId} {xs : List Int} (h : BK w g cs T) (e : cs = (xs.map (Value.int .i64)).toArray) (hg : g < B) : RI w B (some ⟨g, 0, none⟩) xs := fun _ =>
  ⟨_, _, rfl, hg, fun j u hu => by
    rw [Nat.zero_add, h.cell j, e]
    simpa using hu⟩
theorem RR.bk2 {w : World} {B g g0 g1 c0 c1 : Nat} {T : TypeId} {r0 r1 : List Int} (h : BK w g #[.slice (some ⟨g0, 0, none⟩) r0.length c0, .slice (some ⟨g1, 0, none⟩) r1.length c1] T) (hg : g < B) (h0 : RI w B (some ⟨g0, 0, none⟩) r0) (h1 : RI w B (some ⟨g1, 0, none⟩) r1) : RR w B (some ⟨g, 0, none⟩) [r0, r1] := fun _ =>
  ⟨_, _, rfl, hg, fun j u hu => by
    match j, hu with
    | 0, hu => simp at hu; subst hu; exact ⟨_, _, h.cell 0, h0⟩
    | 1, hu => simp at hu; subst hu; exact ⟨_, _, h.cell 1, h1⟩
    | j + 2, hu => simp at hu⟩
theorem RR.bk3 {w : World} {B g g0 g1 g2 c0 c1 c2 : Nat} {T : TypeId} {r0 r1 r2 : List Int} (h : BK w g #[.slice (some ⟨g0, 0, none⟩) r0.length c0, .slice (some ⟨g1, 0, none⟩) r1.length c1, .slice (some ⟨g2, 0, none⟩) r2.length c2] T) (hg : g < B) (h0 : RI w B (some ⟨g0, 0, none⟩) r0) (h1 : RI w B (some ⟨g1, 0, none⟩) r1) (h2 : RI w B (some ⟨g2, 0, none⟩) r2) : RR w B (some ⟨g, 0, none⟩) [r0, r1, r2] := fun _ =>
  ⟨_, _, rfl, hg, fun j u hu => by
    match j, hu with
    | 0, hu => simp at hu; subst hu; exact ⟨_, _, h.cell 0, h0⟩
    | 1, hu => simp at hu; subst hu; exact ⟨_, _, h.cell 1, h1⟩
    | 2, hu => simp at hu; subst hu; exact ⟨_, _, h.cell 2, h2⟩
    | j + 3, hu => simp at hu⟩
theorem setW {P : Program} {ops : Array Oper} {l : List Oper} {a : Act} {W : World} {Q : Exit → Act → World → Prop} (h : ∀ V, V = W → wpList P ops Q l a V) : wpList P ops Q l a W := h W rfl
theorem tab2 (V W : World) (x0 x1 y0 y1 a0 b0 a1 b1 : Int) (hW : W = (((((V.alloc (.cells #[.int .i64 x0, .int .i64 x1] 3)).alloc (.cells #[.int .i64 y0, .int .i64 y1] 3)).alloc (.cells #[.int .i64 a0, .int .i64 b0] 3)).alloc (.cells #[.int .i64 a1, .int .i64 b1] 3)).alloc (.cells #[.slice (some ⟨V.heap.size + 1 + 1, 0, none⟩) 2 2, .slice (some ⟨V.heap.size + 1 + 1 + 1, 0, none⟩) 2 2] 22))) : Frs V.heap.size (fun W => TG W ⟨some ⟨V.heap.size, 0, none⟩, 2, some ⟨V.heap.size + 1, 0, none⟩, 2, some ⟨V.heap.size + 1 + 1 + 1 + 1, 0, none⟩, 2, [x0, x1], [y0, y1], [[a0, b0], [a1, b1]]⟩) W ∧ Below V.heap.size V W := by
  have hb : Below V.heap.size V W := by rw [hW]; go_grown
  have hz : W.heap.size = V.heap.size + 1 + 1 + 1 + 1 + 1 := by rw [hW]; simp
  have k0 : BK W (V.heap.size) #[.int .i64 x0, .int .i64 x1] 3 := by rw [hW]; exact (((((BK.newg (w := V) (g := V.heap.size) (cs := #[.int .i64 x0, .int .i64 x1]) (T := 3) (by simp)).old (x := .cells #[.int .i64 y0, .int .i64 y1] 3)).old (x := .cells #[.int .i64 a0, .int .i64 b0] 3)).old (x := .cells #[.int .i64 a1, .int .i64 b1] 3)).old (x := .cells #[.slice (some ⟨V.heap.size + 1 + 1, 0, none⟩) 2 2, .slice (some ⟨V.heap.size + 1 + 1 + 1, 0, none⟩) 2 2] 22))
  have k1 : BK W (V.heap.size + 1) #[.int .i64 y0, .int .i64 y1] 3 := by rw [hW]; exact ((((BK.newg (w := (V.alloc (.cells #[.int .i64 x0, .int .i64 x1] 3))) (g := V.heap.size + 1) (cs := #[.int .i64 y0, .int .i64 y1]) (T := 3) (by simp)).old (x := .cells #[.int .i64 a0, .int .i64 b0] 3)).old (x := .cells #[.int .i64 a1, .int .i64 b1] 3)).old (x := .cells #[.slice (some ⟨V.heap.size + 1 + 1, 0, none⟩) 2 2, .slice (some ⟨V.heap.size + 1 + 1 + 1, 0, none⟩) 2 2] 22))
  have k2 : BK W (V.heap.size + 1 + 1) #[.int .i64 a0, .int .i64 b0] 3 := by rw [hW]; exact (((BK.newg (w := ((V.alloc (.cells #[.int .i64 x0, .int .i64 x1] 3)).alloc (.cells #[.int .i64 y0, .int .i64 y1] 3))) (g := V.heap.size + 1 + 1) (cs := #[.int .i64 a0, .int .i64 b0]) (T := 3) (by simp)).old (x := .cells #[.int .i64 a1, .int .i64 b1] 3)).old (x := .cells #[.slice (some ⟨V.heap.size + 1 + 1, 0, none⟩) 2 2, .slice (some ⟨V.heap.size + 1 + 1 + 1, 0, none⟩) 2 2] 22))
  have k3 : BK W (V.heap.size + 1 + 1 + 1) #[.int .i64 a1, .int .i64 b1] 3 := by rw [hW]; exact ((BK.newg (w := (((V.alloc (.cells #[.int .i64 x0, .int .i64 x1] 3)).alloc (.cells #[.int .i64 y0, .int .i64 y1] 3)).alloc (.cells #[.int .i64 a0, .int .i64 b0] 3))) (g := V.heap.size + 1 + 1 + 1) (cs := #[.int .i64 a1, .int .i64 b1]) (T := 3) (by simp)).old (x := .cells #[.slice (some ⟨V.heap.size + 1 + 1, 0, none⟩) 2 2, .slice (some ⟨V.heap.size + 1 + 1 + 1, 0, none⟩) 2 2] 22))
  have k4 : BK W (V.heap.size + 1 + 1 + 1 + 1) #[.slice (some ⟨V.heap.size + 1 + 1, 0, none⟩) 2 2, .slice (some ⟨V.heap.size + 1 + 1 + 1, 0, none⟩) 2 2] 22 := by rw [hW]; exact (BK.newg (w := ((((V.alloc (.cells #[.int .i64 x0, .int .i64 x1] 3)).alloc (.cells #[.int .i64 y0, .int .i64 y1] 3)).alloc (.cells #[.int .i64 a0, .int .i64 b0] 3)).alloc (.cells #[.int .i64 a1, .int .i64 b1] 3))) (g := V.heap.size + 1 + 1 + 1 + 1) (cs := #[.slice (some ⟨V.heap.size + 1 + 1, 0, none⟩) 2 2, .slice (some ⟨V.heap.size + 1 + 1 + 1, 0, none⟩) 2 2]) (T := 22) (by simp))
  refine ⟨fun W' hz' hs' => ?_, hb⟩
  replace k0 := (hs' _ (by omega) k0.lt).trans k0
  replace k1 := (hs' _ (by omega) k1.lt).trans k1
  replace k2 := (hs' _ (by omega) k2.lt).trans k2
  replace k3 := (hs' _ (by omega) k3.lt).trans k3
  replace k4 := (hs' _ (by omega) k4.lt).trans k4
  exact ⟨le_maxLen (by simp), le_maxLen (by simp), le_maxLen (by simp), (by intro r hr; simp at hr; rcases hr with rfl | rfl <;> exact le_maxLen (by simp)), ⟨RI.bk k0 rfl (by omega), RI.bk k1 rfl (by omega), RR.bk2 k4 (by omega) (RI.bk k2 rfl (by omega)) (RI.bk k3 rfl (by omega))⟩⟩
theorem tab3 (V W : World) (x0 x1 x2 y0 y1 a0 b0 a1 b1 a2 b2 : Int) (hW : W = ((((((V.alloc (.cells #[.int .i64 x0, .int .i64 x1, .int .i64 x2] 3)).alloc (.cells #[.int .i64 y0, .int .i64 y1] 3)).alloc (.cells #[.int .i64 a0, .int .i64 b0] 3)).alloc (.cells #[.int .i64 a1, .int .i64 b1] 3)).alloc (.cells #[.int .i64 a2, .int .i64 b2] 3)).alloc (.cells #[.slice (some ⟨V.heap.size + 1 + 1, 0, none⟩) 2 2, .slice (some ⟨V.heap.size + 1 + 1 + 1, 0, none⟩) 2 2, .slice (some ⟨V.heap.size + 1 + 1 + 1 + 1, 0, none⟩) 2 2] 22))) : Frs V.heap.size (fun W => TG W ⟨some ⟨V.heap.size, 0, none⟩, 3, some ⟨V.heap.size + 1, 0, none⟩, 2, some ⟨V.heap.size + 1 + 1 + 1 + 1 + 1, 0, none⟩, 3, [x0, x1, x2], [y0, y1], [[a0, b0], [a1, b1], [a2, b2]]⟩) W ∧ Below V.heap.size V W := by
  have hb : Below V.heap.size V W := by rw [hW]; go_grown
  have hz : W.heap.size = V.heap.size + 1 + 1 + 1 + 1 + 1 + 1 := by rw [hW]; simp
  have k0 : BK W (V.heap.size) #[.int .i64 x0, .int .i64 x1, .int .i64 x2] 3 := by rw [hW]; exact ((((((BK.newg (w := V) (g := V.heap.size) (cs := #[.int .i64 x0, .int .i64 x1, .int .i64 x2]) (T := 3) (by simp)).old (x := .cells #[.int .i64 y0, .int .i64 y1] 3)).old (x := .cells #[.int .i64 a0, .int .i64 b0] 3)).old (x := .cells #[.int .i64 a1, .int .i64 b1] 3)).old (x := .cells #[.int .i64 a2, .int .i64 b2] 3)).old (x := .cells #[.slice (some ⟨V.heap.size + 1 + 1, 0, none⟩) 2 2, .slice (some ⟨V.heap.size + 1 + 1 + 1, 0, none⟩) 2 2, .slice (some ⟨V.heap.size + 1 + 1 + 1 + 1, 0, none⟩) 2 2] 22))
  have k1 : BK W (V.heap.size + 1) #[.int .i64 y0, .int .i64 y1] 3 := by rw [hW]; exact (((((BK.newg (w := (V.alloc (.cells #[.int .i64 x0, .int .i64 x1, .int .i64 x2] 3))) (g := V.heap.size + 1) (cs := #[.int .i64 y0, .int .i64 y1]) (T := 3) (by simp)).old (x := .cells #[.int .i64 a0, .int .i64 b0] 3)).old (x := .cells #[.int .i64 a1, .int .i64 b1] 3)).old (x := .cells #[.int .i64 a2, .int .i64 b2] 3)).old (x := .cells #[.slice (some ⟨V.heap.size + 1 + 1, 0, none⟩) 2 2, .slice (some ⟨V.heap.size + 1 + 1 + 1, 0, none⟩) 2 2, .slice (some ⟨V.heap.size + 1 + 1 + 1 + 1, 0, none⟩) 2 2] 22))
  have k2 : BK W (V.heap.size + 1 + 1) #[.int .i64 a0, .int .i64 b0] 3 := by rw [hW]; exact ((((BK.newg (w := ((V.alloc (.cells #[.int .i64 x0, .int .i64 x1, .int .i64 x2] 3)).alloc (.cells #[.int .i64 y0, .int .i64 y1] 3))) (g := V.heap.size + 1 + 1) (cs := #[.int .i64 a0, .int .i64 b0]) (T := 3) (by simp)).old (x := .cells #[.int .i64 a1, .int .i64 b1] 3)).old (x := .cells #[.int .i64 a2, .int .i64 b2] 3)).old (x := .cells #[.slice (some ⟨V.heap.size + 1 + 1, 0, none⟩) 2 2, .slice (some ⟨V.heap.size + 1 + 1 + 1, 0, none⟩) 2 2, .slice (some ⟨V.heap.size + 1 + 1 + 1 + 1, 0, none⟩) 2 2] 22))
  have k3 : BK W (V.heap.size + 1 + 1 + 1) #[.int .i64 a1, .int .i64 b1] 3 := by rw [hW]; exact (((BK.newg (w := (((V.alloc (.cells #[.int .i64 x0, .int .i64 x1, .int .i64 x2] 3)).alloc (.cells #[.int .i64 y0, .int .i64 y1] 3)).alloc (.cells #[.int .i64 a0, .int .i64 b0] 3))) (g := V.heap.size + 1 + 1 + 1) (cs := #[.int .i64 a1, .int .i64 b1]) (T := 3) (by simp)).old (x := .cells #[.int .i64 a2, .int .i64 b2] 3)).old (x := .cells #[.slice (some ⟨V.heap.size + 1 + 1, 0, none⟩) 2 2, .slice (some ⟨V.heap.size + 1 + 1 + 1, 0, none⟩) 2 2, .slice (some ⟨V.heap.size + 1 + 1 + 1 + 1, 0, none⟩) 2 2] 22))
  have k4 : BK W (V.heap.size + 1 + 1 + 1 + 1) #[.int .i64 a2, .int .i64 b2] 3 := by rw [hW]; exact ((BK.newg (w := ((((V.alloc (.cells #[.int .i64 x0, .int .i64 x1, .int .i64 x2] 3)).alloc (.cells #[.int .i64 y0, .int .i64 y1] 3)).alloc (.cells #[.int .i64 a0, .int .i64 b0] 3)).alloc (.cells #[.int .i64 a1, .int .i64 b1] 3))) (g := V.heap.size + 1 + 1 + 1 + 1) (cs := #[.int .i64 a2, .int .i64 b2]) (T := 3) (by simp)).old (x := .cells #[.slice (some ⟨V.heap.size + 1 + 1, 0, none⟩) 2 2, .slice (some ⟨V.heap.size + 1 + 1 + 1, 0, none⟩) 2 2, .slice (some ⟨V.heap.size + 1 + 1 + 1 + 1, 0, none⟩) 2 2] 22))
  have k5 : BK W (V.heap.size + 1 + 1 + 1 + 1 + 1) #[.slice (some ⟨V.heap.size + 1 + 1, 0, none⟩) 2 2, .slice (some ⟨V.heap.size + 1 + 1 + 1, 0, none⟩) 2 2, .slice (some ⟨V.heap.size + 1 + 1 + 1 + 1, 0, none⟩) 2 2] 22 := by rw [hW]; exact (BK.newg (w := (((((V.alloc (.cells #[.int .i64 x0, .int .i64 x1, .int .i64 x2] 3)).alloc (.cells #[.int .i64 y0, .int .i64 y1] 3)).alloc (.cells #[.int .i64 a0, .int .i64 b0] 3)).alloc (.cells #[.int .i64 a1, .int .i64 b1] 3)).alloc (.cells #[.int .i64 a2, .int .i64 b2] 3))) (g := V.heap.size + 1 + 1 + 1 + 1 + 1) (cs := #[.slice (some ⟨V.heap.size + 1 + 1, 0, none⟩) 2 2, .slice (some ⟨V.heap.size + 1 + 1 + 1, 0, none⟩) 2 2, .slice (some ⟨V.heap.size + 1 + 1 + 1 + 1, 0, none⟩) 2 2]) (T := 22) (by simp))
  refine ⟨fun W' hz' hs' => ?_, hb⟩
  replace k0 := (hs' _ (by omega) k0.lt).trans k0
  replace k1 := (hs' _ (by omega) k1.lt).trans k1
  replace k2 := (hs' _ (by omega) k2.lt).trans k2
  replace k3 := (hs' _ (by omega) k3.lt).trans k3
  replace k4 := (hs' _ (by omega) k4.lt).trans k4
  replace k5 := (hs' _ (by omega) k5.lt).trans k5
  exact ⟨le_maxLen (by simp), le_maxLen (by simp), le_maxLen (by simp), (by intro r hr; simp at hr; rcases hr with rfl | rfl | rfl <;> exact le_maxLen (by simp)), ⟨RI.bk k0 rfl (by omega), RI.bk k1 rfl (by omega), RR.bk3 k5 (by omega) (RI.bk k2 rfl (by omega)) (RI.bk k3 rfl (by omega)) (RI.bk k4 rfl (by omega))⟩⟩
section
variable {fn : Func} {p q : Tmp} {tmps : Array Value} {w : World} {g g' : Nat} {CS AS : Array Value} {T' T'' : TypeId}
theorem resRA (hf : fn.results = #[.cell p 27, .cell q 36]) (hp : tmps.getD p undef = .pointer (some ⟨g, 0, none⟩)) (hq : tmps.getD q undef = .pointer (some ⟨g', 0, none⟩)) (K : BK w g CS T') (hs : CS.size = 26) (K' : BK w g' AS T'') (hs' : AS.size = 8) : (results fn tmps).run Try.prog w = .ok (.tuple #[.agg CS, .agg AS]) w := by
  have hp' : tmps[p]?.getD undef = .pointer (some ⟨g, 0, none⟩) := by simpa using hp
  have hq' : tmps[q]?.getD undef = .pointer (some ⟨g', 0, none⟩) := by simpa using hq
  have hl := run_loadVar_row (P := Try.prog) w g T' 27 CS (0, 0) _ K Try.underlying27 rfl (by rw [hs]; exact szR)
  have hl' := run_loadVar_row (P := Try.prog) w g' T'' 36 AS (0, 0) _ K' Try.underlying36 rfl (by rw [hs']; exact szA)
  simp [results, hf, hp', hq', asAddr, hl, hl']
end
/-- The example's rotor, but for where it lies; and its air. -/
def exR : RO := ⟨⟨none, 0, none, 0, none, 0, [1000, 2000], [0, 40], [[400, 500], [900, 1100]]⟩, ⟨none, 0, none, 0, none, 0, [0, 20], [0, 30], [[70, 80], [100, 100]]⟩, ⟨none, 0, none, 0, none, 0, [0, 50, 100], [1000, 2000], [[400, 900], [250, 500], [500, 800]]⟩, ⟨none, 0, none, 0, none, 0, [0, 40], [0, 1000], [[1200, 1000], [1000, 800]]⟩, ⟨none, 0, none, 0, none, 0, [1000, 2000], [0, 40], [[120, 110], [100, 90]]⟩, ⟨none, 0, none, 0, none, 0, [0, 30], [1000, 2000], [[5, 6], [12, 14]]⟩, ⟨none, 0, none, 0, none, 0, [0, 30], [1000, 2000], [[15, 18], [12, 14]]⟩, ⟨none, 0, none, 0, none, 0, [30, 90], [1000, 2000], [[20, 24], [16, 20]]⟩, 10, 200⟩
def exA : AI := ⟨(1000, 1500), (0, 20), (0, 0), (0, 30)⟩
def GivesEx (w : World) (e : Ending) (w' : World) : Prop := ∃ q : RO, e = .returned (.tuple #[.agg #[.slice q.h.ax q.h.X.length q.h.cx, .slice q.h.ay q.h.Y.length q.h.cy, .slice q.h.av q.h.V.length q.h.cv, .slice q.g.ax q.g.X.length q.g.cx, .slice q.g.ay q.g.Y.length q.g.cy, .slice q.g.av q.g.V.length q.g.cv, .slice q.l.ax q.l.X.length q.l.cx, .slice q.l.ay q.l.Y.length q.l.cy, .slice q.l.av q.l.V.length q.l.cv, .slice q.p.ax q.p.X.length q.p.cx, .slice q.p.ay q.p.Y.length q.p.cy, .slice q.p.av q.p.V.length q.p.cv, .slice q.n.ax q.n.X.length q.n.cx, .slice q.n.ay q.n.Y.length q.n.cy, .slice q.n.av q.n.V.length q.n.cv, .slice q.a.ax q.a.X.length q.a.cx, .slice q.a.ay q.a.Y.length q.a.cy, .slice q.a.av q.a.V.length q.a.cv, .slice q.b.ax q.b.X.length q.b.cx, .slice q.b.ay q.b.Y.length q.b.cy, .slice q.b.av q.b.V.length q.b.cv, .slice q.d.ax q.d.X.length q.d.cx, .slice q.d.ay q.d.Y.length q.d.cy, .slice q.d.av q.d.V.length q.d.cv, .int .i64 q.cl, .int .i64 q.bu], .agg #[.int .i64 exA.w.1, .int .i64 exA.w.2, .int .i64 exA.t.1, .int .i64 exA.t.2, .int .i64 exA.h.1, .int .i64 exA.h.2, .int .i64 exA.v.1, .int .i64 exA.v.2]]) ∧ exR.same q ∧ RG w' q ∧ Below w.heap.size w w'
set_option maxRecDepth 100000
set_option maxHeartbeats 4000000 in
theorem example2_any (w : World) : Calls Try.prog 50 #[] w (GivesEx w) := by
  have Y1 := Lib.hid ((BK.new (w := w) (cs := #[.slice none 0 0, .slice none 0 0, .slice none 0 0, .slice none 0 0, .slice none 0 0, .slice none 0 0, .slice none 0 0, .slice none 0 0, .slice none 0 0, .slice none 0 0, .slice none 0 0, .slice none 0 0, .slice none 0 0, .slice none 0 0, .slice none 0 0, .slice none 0 0, .slice none 0 0, .slice none 0 0, .slice none 0 0, .slice none 0 0, .slice none 0 0, .slice none 0 0, .slice none 0 0, .slice none 0 0, .int .i64 0, .int .i64 0]) (T := 27)).old (x := .cells #[.int .i64 0, .int .i64 0, .int .i64 0, .int .i64 0, .int .i64 0, .int .i64 0, .int .i64 0, .int .i64 0] 36))
  have Y2 := Lib.hid (BK.newg (w := w.alloc (.cells #[.slice none 0 0, .slice none 0 0, .slice none 0 0, .slice none 0 0, .slice none 0 0, .slice none 0 0, .slice none 0 0, .slice none 0 0, .slice none 0 0, .slice none 0 0, .slice none 0 0, .slice none 0 0, .slice none 0 0, .slice none 0 0, .slice none 0 0, .slice none 0 0, .slice none 0 0, .slice none 0 0, .slice none 0 0, .slice none 0 0, .slice none 0 0, .slice none 0 0, .slice none 0 0, .slice none 0 0, .int .i64 0, .int .i64 0] 27)) (g := w.heap.size + 1) (cs := #[.int .i64 0, .int .i64 0, .int .i64 0, .int .i64 0, .int .i64 0, .int .i64 0, .int .i64 0, .int .i64 0]) (T := 36) (by simp))
  have HB := Lib.hid (show Below w.heap.size w ((w.alloc (.cells #[.slice none 0 0, .slice none 0 0, .slice none 0 0, .slice none 0 0, .slice none 0 0, .slice none 0 0, .slice none 0 0, .slice none 0 0, .slice none 0 0, .slice none 0 0, .slice none 0 0, .slice none 0 0, .slice none 0 0, .slice none 0 0, .slice none 0 0, .slice none 0 0, .slice none 0 0, .slice none 0 0, .slice none 0 0, .slice none 0 0, .slice none 0 0, .slice none 0 0, .slice none 0 0, .slice none 0 0, .int .i64 0, .int .i64 0] 27)).alloc (.cells #[.int .i64 0, .int .i64 0, .int .i64 0, .int .i64 0, .int .i64 0, .int .i64 0, .int .i64 0, .int .i64 0] 36)) by go_grown)
  go_enter Try.func50, Try.ntmps50
  go_upto_region 1 with fail
  generalize (w.alloc (.cells #[.slice none 0 0, .slice none 0 0, .slice none 0 0, .slice none 0 0, .slice none 0 0, .slice none 0 0, .slice none 0 0, .slice none 0 0, .slice none 0 0, .slice none 0 0, .slice none 0 0, .slice none 0 0, .slice none 0 0, .slice none 0 0, .slice none 0 0, .slice none 0 0, .slice none 0 0, .slice none 0 0, .slice none 0 0, .slice none 0 0, .slice none 0 0, .slice none 0 0, .slice none 0 0, .slice none 0 0, .int .i64 0, .int .i64 0] 27)).alloc (.cells #[.int .i64 0, .int .i64 0, .int .i64 0, .int .i64 0, .int .i64 0, .int .i64 0, .int .i64 0, .int .i64 0] 36) = V0 at *
  go_upto_region 2 with (first
    | ((with_reducible refine setW (W := (((((V0.alloc (.cells #[.int .i64 1000, .int .i64 2000] 3)).alloc (.cells #[.int .i64 0, .int .i64 40] 3)).alloc (.cells #[.int .i64 400, .int .i64 500] 3)).alloc (.cells #[.int .i64 900, .int .i64 1100] 3)).alloc (.cells #[.slice (some ⟨V0.heap.size + 1 + 1, 0, none⟩) 2 2, .slice (some ⟨V0.heap.size + 1 + 1 + 1, 0, none⟩) 2 2] 22))) ?_); intro V1 e; obtain ⟨ht, hb⟩ := tab2 V0 V1 1000 2000 0 40 400 500 900 1100 e; have Y1 := Lib.hid (Y1.out.keep hb); have hlt := Y2.out.lt; have Y2 := Lib.hid (Y2.out.keep hb); have T0 := Lib.hid (ht.less (M := w.heap.size + 1 + 1) hlt); have HB0 := Lib.hid (HB.out.trans (hb.mono HB.out.size)); clear ht hb e hlt)
    | ((with_reducible refine setW (W := (((((V1.alloc (.cells #[.int .i64 0, .int .i64 20] 3)).alloc (.cells #[.int .i64 0, .int .i64 30] 3)).alloc (.cells #[.int .i64 70, .int .i64 80] 3)).alloc (.cells #[.int .i64 100, .int .i64 100] 3)).alloc (.cells #[.slice (some ⟨V1.heap.size + 1 + 1, 0, none⟩) 2 2, .slice (some ⟨V1.heap.size + 1 + 1 + 1, 0, none⟩) 2 2] 22))) ?_); intro V2 e; obtain ⟨ht, hb⟩ := tab2 V1 V2 0 20 0 30 70 80 100 100 e; have Y1 := Lib.hid (Y1.out.keep hb); have hlt := Y2.out.lt; have Y2 := Lib.hid (Y2.out.keep hb); have T1 := Lib.hid (ht.less (M := w.heap.size + 1 + 1) hlt); have T0 := Lib.hid (T0.out.below hb); have HB1 := Lib.hid (HB0.out.trans (hb.mono HB0.out.size)); clear ht hb e hlt)
    | ((with_reducible refine setW (W := ((((((V2.alloc (.cells #[.int .i64 0, .int .i64 50, .int .i64 100] 3)).alloc (.cells #[.int .i64 1000, .int .i64 2000] 3)).alloc (.cells #[.int .i64 400, .int .i64 900] 3)).alloc (.cells #[.int .i64 250, .int .i64 500] 3)).alloc (.cells #[.int .i64 500, .int .i64 800] 3)).alloc (.cells #[.slice (some ⟨V2.heap.size + 1 + 1, 0, none⟩) 2 2, .slice (some ⟨V2.heap.size + 1 + 1 + 1, 0, none⟩) 2 2, .slice (some ⟨V2.heap.size + 1 + 1 + 1 + 1, 0, none⟩) 2 2] 22))) ?_); intro V3 e; obtain ⟨ht, hb⟩ := tab3 V2 V3 0 50 100 1000 2000 400 900 250 500 500 800 e; have Y1 := Lib.hid (Y1.out.keep hb); have hlt := Y2.out.lt; have Y2 := Lib.hid (Y2.out.keep hb); have T2 := Lib.hid (ht.less (M := w.heap.size + 1 + 1) hlt); have T0 := Lib.hid (T0.out.below hb); have T1 := Lib.hid (T1.out.below hb); have HB2 := Lib.hid (HB1.out.trans (hb.mono HB1.out.size)); clear ht hb e hlt)
    | ((with_reducible refine setW (W := (((((V3.alloc (.cells #[.int .i64 0, .int .i64 40] 3)).alloc (.cells #[.int .i64 0, .int .i64 1000] 3)).alloc (.cells #[.int .i64 1200, .int .i64 1000] 3)).alloc (.cells #[.int .i64 1000, .int .i64 800] 3)).alloc (.cells #[.slice (some ⟨V3.heap.size + 1 + 1, 0, none⟩) 2 2, .slice (some ⟨V3.heap.size + 1 + 1 + 1, 0, none⟩) 2 2] 22))) ?_); intro V4 e; obtain ⟨ht, hb⟩ := tab2 V3 V4 0 40 0 1000 1200 1000 1000 800 e; have Y1 := Lib.hid (Y1.out.keep hb); have hlt := Y2.out.lt; have Y2 := Lib.hid (Y2.out.keep hb); have T3 := Lib.hid (ht.less (M := w.heap.size + 1 + 1) hlt); have T0 := Lib.hid (T0.out.below hb); have T1 := Lib.hid (T1.out.below hb); have T2 := Lib.hid (T2.out.below hb); have HB3 := Lib.hid (HB2.out.trans (hb.mono HB2.out.size)); clear ht hb e hlt)
    | ((with_reducible refine setW (W := (((((V4.alloc (.cells #[.int .i64 1000, .int .i64 2000] 3)).alloc (.cells #[.int .i64 0, .int .i64 40] 3)).alloc (.cells #[.int .i64 120, .int .i64 110] 3)).alloc (.cells #[.int .i64 100, .int .i64 90] 3)).alloc (.cells #[.slice (some ⟨V4.heap.size + 1 + 1, 0, none⟩) 2 2, .slice (some ⟨V4.heap.size + 1 + 1 + 1, 0, none⟩) 2 2] 22))) ?_); intro V5 e; obtain ⟨ht, hb⟩ := tab2 V4 V5 1000 2000 0 40 120 110 100 90 e; have Y1 := Lib.hid (Y1.out.keep hb); have hlt := Y2.out.lt; have Y2 := Lib.hid (Y2.out.keep hb); have T4 := Lib.hid (ht.less (M := w.heap.size + 1 + 1) hlt); have T0 := Lib.hid (T0.out.below hb); have T1 := Lib.hid (T1.out.below hb); have T2 := Lib.hid (T2.out.below hb); have T3 := Lib.hid (T3.out.below hb); have HB4 := Lib.hid (HB3.out.trans (hb.mono HB3.out.size)); clear ht hb e hlt)
    | ((with_reducible refine setW (W := (((((V5.alloc (.cells #[.int .i64 0, .int .i64 30] 3)).alloc (.cells #[.int .i64 1000, .int .i64 2000] 3)).alloc (.cells #[.int .i64 5, .int .i64 6] 3)).alloc (.cells #[.int .i64 12, .int .i64 14] 3)).alloc (.cells #[.slice (some ⟨V5.heap.size + 1 + 1, 0, none⟩) 2 2, .slice (some ⟨V5.heap.size + 1 + 1 + 1, 0, none⟩) 2 2] 22))) ?_); intro V6 e; obtain ⟨ht, hb⟩ := tab2 V5 V6 0 30 1000 2000 5 6 12 14 e; have Y1 := Lib.hid (Y1.out.keep hb); have hlt := Y2.out.lt; have Y2 := Lib.hid (Y2.out.keep hb); have T5 := Lib.hid (ht.less (M := w.heap.size + 1 + 1) hlt); have T0 := Lib.hid (T0.out.below hb); have T1 := Lib.hid (T1.out.below hb); have T2 := Lib.hid (T2.out.below hb); have T3 := Lib.hid (T3.out.below hb); have T4 := Lib.hid (T4.out.below hb); have HB5 := Lib.hid (HB4.out.trans (hb.mono HB4.out.size)); clear ht hb e hlt)
    | ((with_reducible refine setW (W := (((((V6.alloc (.cells #[.int .i64 0, .int .i64 30] 3)).alloc (.cells #[.int .i64 1000, .int .i64 2000] 3)).alloc (.cells #[.int .i64 15, .int .i64 18] 3)).alloc (.cells #[.int .i64 12, .int .i64 14] 3)).alloc (.cells #[.slice (some ⟨V6.heap.size + 1 + 1, 0, none⟩) 2 2, .slice (some ⟨V6.heap.size + 1 + 1 + 1, 0, none⟩) 2 2] 22))) ?_); intro V7 e; obtain ⟨ht, hb⟩ := tab2 V6 V7 0 30 1000 2000 15 18 12 14 e; have Y1 := Lib.hid (Y1.out.keep hb); have hlt := Y2.out.lt; have Y2 := Lib.hid (Y2.out.keep hb); have T6 := Lib.hid (ht.less (M := w.heap.size + 1 + 1) hlt); have T0 := Lib.hid (T0.out.below hb); have T1 := Lib.hid (T1.out.below hb); have T2 := Lib.hid (T2.out.below hb); have T3 := Lib.hid (T3.out.below hb); have T4 := Lib.hid (T4.out.below hb); have T5 := Lib.hid (T5.out.below hb); have HB6 := Lib.hid (HB5.out.trans (hb.mono HB5.out.size)); clear ht hb e hlt)
    | ((with_reducible refine setW (W := (((((V7.alloc (.cells #[.int .i64 30, .int .i64 90] 3)).alloc (.cells #[.int .i64 1000, .int .i64 2000] 3)).alloc (.cells #[.int .i64 20, .int .i64 24] 3)).alloc (.cells #[.int .i64 16, .int .i64 20] 3)).alloc (.cells #[.slice (some ⟨V7.heap.size + 1 + 1, 0, none⟩) 2 2, .slice (some ⟨V7.heap.size + 1 + 1 + 1, 0, none⟩) 2 2] 22))) ?_); intro V8 e; obtain ⟨ht, hb⟩ := tab2 V7 V8 30 90 1000 2000 20 24 16 20 e; have Y1 := Lib.hid (Y1.out.keep hb); have hlt := Y2.out.lt; have Y2 := Lib.hid (Y2.out.keep hb); have T7 := Lib.hid (ht.less (M := w.heap.size + 1 + 1) hlt); have T0 := Lib.hid (T0.out.below hb); have T1 := Lib.hid (T1.out.below hb); have T2 := Lib.hid (T2.out.below hb); have T3 := Lib.hid (T3.out.below hb); have T4 := Lib.hid (T4.out.below hb); have T5 := Lib.hid (T5.out.below hb); have T6 := Lib.hid (T6.out.below hb); have HB7 := Lib.hid (HB6.out.trans (hb.mono HB6.out.size)); clear ht hb e hlt)
    | ((with_reducible refine stR (CS := ?_) (BK.newg (w := V8) (g := V8.heap.size) (cs := #[.slice none 0 0, .slice none 0 0, .slice none 0 0, .slice none 0 0, .slice none 0 0, .slice none 0 0, .slice none 0 0, .slice none 0 0, .slice none 0 0, .slice none 0 0, .slice none 0 0, .slice none 0 0, .slice none 0 0, .slice none 0 0, .slice none 0 0, .slice none 0 0, .slice none 0 0, .slice none 0 0, .slice none 0 0, .slice none 0 0, .slice none 0 0, .slice none 0 0, .slice none 0 0, .slice none 0 0, .int .i64 0, .int .i64 0]) (T := 27) rfl) ?_ ?_ ?_ ?_ ?_ ?_); rotate_left; rfl; rfl; rfl; rfl; simp [Value.oneCell']))
  have hl2 := Y2.out.lt
  have Q0 := Lib.hid ((BK.newg (w := V8) (g := V8.heap.size) (cs := #[.slice none 0 0, .slice none 0 0, .slice none 0 0, .slice none 0 0, .slice none 0 0, .slice none 0 0, .slice none 0 0, .slice none 0 0, .slice none 0 0, .slice none 0 0, .slice none 0 0, .slice none 0 0, .slice none 0 0, .slice none 0 0, .slice none 0 0, .slice none 0 0, .slice none 0 0, .slice none 0 0, .slice none 0 0, .slice none 0 0, .slice none 0 0, .slice none 0 0, .slice none 0 0, .slice none 0 0, .int .i64 0, .int .i64 0]) (T := 27) rfl))
  have Q1 := Lib.hid (Y1.out.old (x := .cells #[.slice none 0 0, .slice none 0 0, .slice none 0 0, .slice none 0 0, .slice none 0 0, .slice none 0 0, .slice none 0 0, .slice none 0 0, .slice none 0 0, .slice none 0 0, .slice none 0 0, .slice none 0 0, .slice none 0 0, .slice none 0 0, .slice none 0 0, .slice none 0 0, .slice none 0 0, .slice none 0 0, .slice none 0 0, .slice none 0 0, .slice none 0 0, .slice none 0 0, .slice none 0 0, .slice none 0 0, .int .i64 0, .int .i64 0] 27))
  have Q2 := Lib.hid (Y2.out.old (x := .cells #[.slice none 0 0, .slice none 0 0, .slice none 0 0, .slice none 0 0, .slice none 0 0, .slice none 0 0, .slice none 0 0, .slice none 0 0, .slice none 0 0, .slice none 0 0, .slice none 0 0, .slice none 0 0, .slice none 0 0, .slice none 0 0, .slice none 0 0, .slice none 0 0, .slice none 0 0, .slice none 0 0, .slice none 0 0, .slice none 0 0, .slice none 0 0, .slice none 0 0, .slice none 0 0, .slice none 0 0, .int .i64 0, .int .i64 0] 27))
  go_wp2_with (first
    | ((with_reducible refine ldR Q0.out.row ?_ ?_ ?_); rfl; rfl)
    | ((with_reducible refine stR (CS := ?_) (Q1.out.rowO ?_) ?_ ?_ ?_ ?_ ?_ ?_); rotate_left; omega; rfl; rfl; rfl; rfl; simp [Value.oneCell'])
    | ((with_reducible refine stA (CS := ?_) ((Q2.out.rowO ?_).rowO ?_) ?_ ?_ ?_ ?_ ?_ ?_); rotate_left; omega; omega; rfl; rfl; rfl; rfl; simp [Value.oneCell']))
  go_simp
  refine bodyPost_ret (resRA Try.results50 (by rfl) (by rfl) (((Q1.out.rowO ?_).row).rowO ?_) ?_ (((Q2.out.rowO ?_).rowO ?_).row) ?_) rfl ?_
  · omega
  · omega
  · rfl
  · omega
  · omega
  · rfl
  · refine ⟨⟨⟨some ⟨V0.heap.size, 0, none⟩, 2, some ⟨V0.heap.size + 1, 0, none⟩, 2, some ⟨V0.heap.size + 1 + 1 + 1 + 1, 0, none⟩, 2, [1000, 2000], [0, 40], [[400, 500], [900, 1100]]⟩, ⟨some ⟨V1.heap.size, 0, none⟩, 2, some ⟨V1.heap.size + 1, 0, none⟩, 2, some ⟨V1.heap.size + 1 + 1 + 1 + 1, 0, none⟩, 2, [0, 20], [0, 30], [[70, 80], [100, 100]]⟩, ⟨some ⟨V2.heap.size, 0, none⟩, 3, some ⟨V2.heap.size + 1, 0, none⟩, 2, some ⟨V2.heap.size + 1 + 1 + 1 + 1 + 1, 0, none⟩, 3, [0, 50, 100], [1000, 2000], [[400, 900], [250, 500], [500, 800]]⟩, ⟨some ⟨V3.heap.size, 0, none⟩, 2, some ⟨V3.heap.size + 1, 0, none⟩, 2, some ⟨V3.heap.size + 1 + 1 + 1 + 1, 0, none⟩, 2, [0, 40], [0, 1000], [[1200, 1000], [1000, 800]]⟩, ⟨some ⟨V4.heap.size, 0, none⟩, 2, some ⟨V4.heap.size + 1, 0, none⟩, 2, some ⟨V4.heap.size + 1 + 1 + 1 + 1, 0, none⟩, 2, [1000, 2000], [0, 40], [[120, 110], [100, 90]]⟩, ⟨some ⟨V5.heap.size, 0, none⟩, 2, some ⟨V5.heap.size + 1, 0, none⟩, 2, some ⟨V5.heap.size + 1 + 1 + 1 + 1, 0, none⟩, 2, [0, 30], [1000, 2000], [[5, 6], [12, 14]]⟩, ⟨some ⟨V6.heap.size, 0, none⟩, 2, some ⟨V6.heap.size + 1, 0, none⟩, 2, some ⟨V6.heap.size + 1 + 1 + 1 + 1, 0, none⟩, 2, [0, 30], [1000, 2000], [[15, 18], [12, 14]]⟩, ⟨some ⟨V7.heap.size, 0, none⟩, 2, some ⟨V7.heap.size + 1, 0, none⟩, 2, some ⟨V7.heap.size + 1 + 1 + 1 + 1, 0, none⟩, 2, [30, 90], [1000, 2000], [[20, 24], [16, 20]]⟩, 10, 200⟩, rfl, ⟨⟨rfl, rfl, rfl⟩, ⟨rfl, rfl, rfl⟩, ⟨rfl, rfl, rfl⟩, ⟨rfl, rfl, rfl⟩, ⟨rfl, rfl, rfl⟩, ⟨rfl, rfl, rfl⟩, ⟨rfl, rfl, rfl⟩, ⟨rfl, rfl, rfl⟩, rfl, rfl⟩, ?_, below_setRow (below_setRow (below_setRow (HB7.out.alloc HB7.out.size _) HB7.out.size _) (by omega) _) (by omega) _⟩
    have hb := below_setRow ((Below.refl V8.heap.size V8).alloc (Nat.le_refl _) (.cells #[.slice none 0 0, .slice none 0 0, .slice none 0 0, .slice none 0 0, .slice none 0 0, .slice none 0 0, .slice none 0 0, .slice none 0 0, .slice none 0 0, .slice none 0 0, .slice none 0 0, .slice none 0 0, .slice none 0 0, .slice none 0 0, .slice none 0 0, .slice none 0 0, .slice none 0 0, .slice none 0 0, .slice none 0 0, .slice none 0 0, .slice none 0 0, .slice none 0 0, .slice none 0 0, .slice none 0 0, .int .i64 0, .int .i64 0] 27)) (g := V8.heap.size) (Nat.le_refl _)
    exact ⟨(((T0.out.below (hb _)).row (by omega)).row (by omega)).now, (((T1.out.below (hb _)).row (by omega)).row (by omega)).now, (((T2.out.below (hb _)).row (by omega)).row (by omega)).now, (((T3.out.below (hb _)).row (by omega)).row (by omega)).now, (((T4.out.below (hb _)).row (by omega)).row (by omega)).now, (((T5.out.below (hb _)).row (by omega)).row (by omega)).now, (((T6.out.below (hb _)).row (by omega)).row (by omega)).now, (((T7.out.below (hb _)).row (by omega)).row (by omega)).now⟩
end Go.Proofs.Ythhokiigdgpmcaa

/- Rotors that read alike: all that is said of one is said of the other. -/
namespace Go.Proofs.Ythhokiigdgpmcaa
open Go.RowKit

theorem same_redE {r q : RO} (h : r.same q) (a : AI) (s : Int × Int) : redE q a [loH q a, loG q a s, loP q a] [s] = redE r a [loH r a, loG r a s, loP r a] [s] := by
  have hok := same_ok h
  obtain ⟨⟨a1, a2, a3⟩, ⟨b1, b2, b3⟩, ⟨c1, c2, c3⟩, ⟨d1, d2, d3⟩, ⟨e1, e2, e3⟩, ⟨f1, f2, f3⟩, ⟨g1, g2, g3⟩, ⟨h1, h2, h3⟩, i, j⟩ := h
  unfold redE
  rw [hok]
  simp only [List.all_cons, List.all_nil, LO.on, loH, loG, loP, a1, a2, b1, b2, d1, d2]
  rfl
theorem same_bn {l m : LO} (h : l.t.same m.t) (hx : m.x = l.x) (hy : m.y = l.y) : m.bn = l.bn := by
  obtain ⟨a1, a2, a3⟩ := h
  unfold LO.bn bnT
  rw [a1, a2, a3, hx, hy]
theorem same_ndN {r q : RO} (h : r.same q) (a : AI) (s : Int × Int) : ndN q a s = ndN r a s := by
  unfold ndN
  rw [same_bn (l := loH r a) (m := loH q a) h.h rfl rfl, same_bn (l := loG r a s) (m := loG q a s) h.g rfl rfl]
theorem same_mgN {r q : RO} (h : r.same q) (a : AI) (s : Int × Int) : mgN q a s = mgN r a s := by
  unfold mgN
  rw [same_ndN h, same_bn (l := loP r a) (m := loP q a) h.p rfl rfl]
theorem same_hvP {r q : RO} (h : r.same q) (a : AI) (s : Int × Int) (res : Int) : hvP q a s res = hvP r a s res := by
  funext n
  unfold hvP
  rw [same_mgN h]
theorem same_hvN {r q : RO} (h : r.same q) (a : AI) (s : Int × Int) (res : Int) : hvN q a s res = hvN r a s res := by
  unfold hvN
  rw [same_redE h, same_hvP h]
end Go.Proofs.Ythhokiigdgpmcaa

/- works() of layer 2. -/
namespace Go.Proofs.Ythhokiigdgpmcaa
open Go.RowKit

theorem ex_mg : mgS exR exA (20, 20) = (375, 0) := by decide +kernel
theorem ex_hv : hvN exR exA (20, 20) 400 = (1454, 0) := by decide +kernel
theorem same_mgS {r q : RO} (h : r.same q) (a : AI) (s : Int × Int) : mgS q a s = mgS r a s := by
  unfold mgS
  rw [same_redE h, same_mgN h]
def WK2 : Prop := ∀ w, Calls Try.prog 15 #[] w fun e w' => e = .returned (.bool true) ∧ Below w.heap.size w w'
set_option maxRecDepth 100000
set_option maxHeartbeats 4000000 in
theorem works2_any : WK2 := by
  intro w
  have HX := Lib.hid (example2_any w)
  have HMG := Lib.hid (fun (q : RO) (hs : exR.same q) (W : World) (rg : RG W q) (CS : Array Value) (hc : CS = #[.slice q.h.ax q.h.X.length q.h.cx, .slice q.h.ay q.h.Y.length q.h.cy, .slice q.h.av q.h.V.length q.h.cv, .slice q.g.ax q.g.X.length q.g.cx, .slice q.g.ay q.g.Y.length q.g.cy, .slice q.g.av q.g.V.length q.g.cv, .slice q.l.ax q.l.X.length q.l.cx, .slice q.l.ay q.l.Y.length q.l.cy, .slice q.l.av q.l.V.length q.l.cv, .slice q.p.ax q.p.X.length q.p.cx, .slice q.p.ay q.p.Y.length q.p.cy, .slice q.p.av q.p.V.length q.p.cv, .slice q.n.ax q.n.X.length q.n.cx, .slice q.n.ay q.n.Y.length q.n.cy, .slice q.n.av q.n.V.length q.n.cv, .slice q.a.ax q.a.X.length q.a.cx, .slice q.a.ay q.a.Y.length q.a.cy, .slice q.a.av q.a.V.length q.a.cv, .slice q.b.ax q.b.X.length q.b.cx, .slice q.b.ay q.b.Y.length q.b.cy, .slice q.b.av q.b.V.length q.b.cv, .slice q.d.ax q.d.X.length q.d.cx, .slice q.d.ay q.d.Y.length q.d.cy, .slice q.d.av q.d.V.length q.d.cv, .int .i64 q.cl, .int .i64 q.bu]) => show Calls Try.prog 23 #[.agg CS, .agg #[.int .i64 exA.w.1, .int .i64 exA.w.2, .int .i64 exA.t.1, .int .i64 exA.t.2, .int .i64 exA.h.1, .int .i64 exA.h.2, .int .i64 exA.v.1, .int .i64 exA.v.2], .agg #[.int .i64 20, .int .i64 20]] W fun e w' => e = .returned (.tuple #[.int .i64 375, .int .i64 0]) ∧ Below W.heap.size W w' by
    have := margin_any q exA CS (20, 20) W rg hc
    rw [same_mgS hs, ex_mg] at this
    exact this)
  have HHV := Lib.hid (fun (q : RO) (hs : exR.same q) (W : World) (rg : RG W q) (CS : Array Value) (hc : CS = #[.slice q.h.ax q.h.X.length q.h.cx, .slice q.h.ay q.h.Y.length q.h.cy, .slice q.h.av q.h.V.length q.h.cv, .slice q.g.ax q.g.X.length q.g.cx, .slice q.g.ay q.g.Y.length q.g.cy, .slice q.g.av q.g.V.length q.g.cv, .slice q.l.ax q.l.X.length q.l.cx, .slice q.l.ay q.l.Y.length q.l.cy, .slice q.l.av q.l.V.length q.l.cv, .slice q.p.ax q.p.X.length q.p.cx, .slice q.p.ay q.p.Y.length q.p.cy, .slice q.p.av q.p.V.length q.p.cv, .slice q.n.ax q.n.X.length q.n.cx, .slice q.n.ay q.n.Y.length q.n.cy, .slice q.n.av q.n.V.length q.n.cv, .slice q.a.ax q.a.X.length q.a.cx, .slice q.a.ay q.a.Y.length q.a.cy, .slice q.a.av q.a.V.length q.a.cv, .slice q.b.ax q.b.X.length q.b.cx, .slice q.b.ay q.b.Y.length q.b.cy, .slice q.b.av q.b.V.length q.b.cv, .slice q.d.ax q.d.X.length q.d.cx, .slice q.d.ay q.d.Y.length q.d.cy, .slice q.d.av q.d.V.length q.d.cv, .int .i64 q.cl, .int .i64 q.bu]) => show Calls Try.prog 26 #[.agg CS, .agg #[.int .i64 exA.w.1, .int .i64 exA.w.2, .int .i64 exA.t.1, .int .i64 exA.t.2, .int .i64 exA.h.1, .int .i64 exA.h.2, .int .i64 exA.v.1, .int .i64 exA.v.2], .agg #[.int .i64 20, .int .i64 20], .int .i64 400] W fun e w' => e = .returned (.tuple #[.int .i64 1454, .int .i64 0]) ∧ Below W.heap.size W w' by
    have := heaviest_any q exA CS (20, 20) 400 W rg hc
    rw [same_hvN hs, ex_hv] at this
    exact this)
  go_enter Try.func15, Try.ntmps15
  go_upto_region 2 with (first
    | (go_at_call 50; refine Calls.mono HX.out ?_; rintro e w1 ⟨q, rfl, hs, rg, hb1⟩; (obtain ⟨CS, hc⟩ : ∃ CS : Array Value, #[.slice q.h.ax q.h.X.length q.h.cx, .slice q.h.ay q.h.Y.length q.h.cy, .slice q.h.av q.h.V.length q.h.cv, .slice q.g.ax q.g.X.length q.g.cx, .slice q.g.ay q.g.Y.length q.g.cy, .slice q.g.av q.g.V.length q.g.cv, .slice q.l.ax q.l.X.length q.l.cx, .slice q.l.ay q.l.Y.length q.l.cy, .slice q.l.av q.l.V.length q.l.cv, .slice q.p.ax q.p.X.length q.p.cx, .slice q.p.ay q.p.Y.length q.p.cy, .slice q.p.av q.p.V.length q.p.cv, .slice q.n.ax q.n.X.length q.n.cx, .slice q.n.ay q.n.Y.length q.n.cy, .slice q.n.av q.n.V.length q.n.cv, .slice q.a.ax q.a.X.length q.a.cx, .slice q.a.ay q.a.Y.length q.a.cy, .slice q.a.av q.a.V.length q.a.cv, .slice q.b.ax q.b.X.length q.b.cx, .slice q.b.ay q.b.Y.length q.b.cy, .slice q.b.av q.b.V.length q.b.cv, .slice q.d.ax q.d.X.length q.d.cx, .slice q.d.ay q.d.Y.length q.d.cy, .slice q.d.av q.d.V.length q.d.cv, .int .i64 q.cl, .int .i64 q.bu] = CS := ⟨_, rfl⟩); rw [hc]; have HS := Lib.hid hs; have HR1 := Lib.hid rg; have HC := Lib.hid hc; have HSZ := Lib.hid (show CS.size = 26 by rw [← hc]; rfl); have HON := Lib.hid (show CS.all (·.oneCell') = true by rw [← hc]; simp [Value.oneCell']); have HB1 := Lib.hid hb1; have K0 := Lib.hid ((BK.newg (w := w1) (g := w1.heap.size) (cs := #[.slice none 0 0, .slice none 0 0, .slice none 0 0, .slice none 0 0, .slice none 0 0, .slice none 0 0, .slice none 0 0, .slice none 0 0, .slice none 0 0, .slice none 0 0, .slice none 0 0, .slice none 0 0, .slice none 0 0, .slice none 0 0, .slice none 0 0, .slice none 0 0, .slice none 0 0, .slice none 0 0, .slice none 0 0, .slice none 0 0, .slice none 0 0, .slice none 0 0, .slice none 0 0, .slice none 0 0, .int .i64 0, .int .i64 0]) (T := 27) rfl).old (x := .cells #[.int .i64 0, .int .i64 0, .int .i64 0, .int .i64 0, .int .i64 0, .int .i64 0, .int .i64 0, .int .i64 0] 36)); have K1 := Lib.hid (BK.newg (w := w1.alloc (.cells #[.slice none 0 0, .slice none 0 0, .slice none 0 0, .slice none 0 0, .slice none 0 0, .slice none 0 0, .slice none 0 0, .slice none 0 0, .slice none 0 0, .slice none 0 0, .slice none 0 0, .slice none 0 0, .slice none 0 0, .slice none 0 0, .slice none 0 0, .slice none 0 0, .slice none 0 0, .slice none 0 0, .slice none 0 0, .slice none 0 0, .slice none 0 0, .slice none 0 0, .slice none 0 0, .slice none 0 0, .int .i64 0, .int .i64 0] 27)) (g := w1.heap.size + 1) (cs := #[.int .i64 0, .int .i64 0, .int .i64 0, .int .i64 0, .int .i64 0, .int .i64 0, .int .i64 0, .int .i64 0]) (T := 36) (by simp)); clear hs rg hc hb1)
    | ((with_reducible refine stR K0.out ?_ ?_ ?_ HSZ.out HON.out ?_); rfl; rfl; rfl)
    | ((with_reducible refine stA (CS := ?_) (K1.out.rowO ?_) ?_ ?_ ?_ ?_ ?_ ?_); rotate_left; omega; rfl; rfl; rfl; rfl; simp [Value.oneCell']))
  obtain ⟨W2, hW2⟩ : ∃ W, (((w1.alloc (.cells #[.slice none 0 0, .slice none 0 0, .slice none 0 0, .slice none 0 0, .slice none 0 0, .slice none 0 0, .slice none 0 0, .slice none 0 0, .slice none 0 0, .slice none 0 0, .slice none 0 0, .slice none 0 0, .slice none 0 0, .slice none 0 0, .slice none 0 0, .slice none 0 0, .slice none 0 0, .slice none 0 0, .slice none 0 0, .slice none 0 0, .slice none 0 0, .slice none 0 0, .slice none 0 0, .slice none 0 0, .int .i64 0, .int .i64 0] 27)).alloc (.cells #[.int .i64 0, .int .i64 0, .int .i64 0, .int .i64 0, .int .i64 0, .int .i64 0, .int .i64 0, .int .i64 0] 36)).setRow w1.heap.size CS).setRow (w1.heap.size + 1) #[.int .i64 exA.w.1, .int .i64 exA.w.2, .int .i64 exA.t.1, .int .i64 exA.t.2, .int .i64 exA.h.1, .int .i64 exA.h.2, .int .i64 exA.v.1, .int .i64 exA.v.2] = W := ⟨_, rfl⟩
  rw [hW2]
  have hB2 : Below w1.heap.size w1 W2 := by
    rw [← hW2]
    exact below_setRow (below_setRow (((Below.refl _ _).alloc (Nat.le_refl _) _).alloc (by simp) _) (Nat.le_refl _) _) (by omega) _
  have J0 := Lib.hid (show BK W2 w1.heap.size CS 27 by rw [← hW2]; exact (K0.out.row).rowO (by omega))
  have J1 := Lib.hid (show BK W2 (w1.heap.size + 1) #[.int .i64 exA.w.1, .int .i64 exA.w.2, .int .i64 exA.t.1, .int .i64 exA.t.2, .int .i64 exA.h.1, .int .i64 exA.h.2, .int .i64 exA.v.1, .int .i64 exA.v.2] 36 by rw [← hW2]; exact (K1.out.rowO (by omega)).row)
  have HR2 := Lib.hid (HR1.out.below hB2)
  have HB2 := Lib.hid (HB1.out.trans (hB2.mono HB1.out.size))
  clear hB2 hW2 K0 K1 HR1
  go_wp2_with (first
    | ((with_reducible refine ldR J0.out HSZ.out ?_ ?_); rfl)
    | ((with_reducible refine ldA J1.out ?_ ?_ ?_); rfl; rfl)
    | (go_at_call 23; refine Calls.mono (HMG.out q HS.out _ HR2.out CS HC.out.symm) ?_; rintro e w3 ⟨rfl, hb3⟩; have J0 := Lib.hid (J0.out.keep hb3); have J1 := Lib.hid (J1.out.keep hb3); have HR3 := Lib.hid (HR2.out.below hb3); have HB3 := Lib.hid (HB2.out.trans (hb3.mono HB2.out.size)); clear hb3 HR2)
    | (go_at_call 26; refine Calls.mono (HHV.out q HS.out _ HR3.out CS HC.out.symm) ?_; rintro e w4 ⟨rfl, hb4⟩; have HB4 := Lib.hid (HB3.out.trans (hb4.mono HB3.out.size)); clear hb4))
  go_ret
  exact ⟨rfl, HB4.out⟩
end Go.Proofs.Ythhokiigdgpmcaa

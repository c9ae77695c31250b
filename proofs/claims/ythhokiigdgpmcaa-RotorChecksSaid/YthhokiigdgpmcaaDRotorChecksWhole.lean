/- swashplatelaw02.RotorChecks returns true at every input, and the input reads as it did: no condition. -/
import Derived.Test.YthhokiigdgpmcaaM12

/- law of RotorChecks. -/
namespace Go.Proofs.Ythhokiigdgpmcaa
open Go.RowKit

set_option maxRecDepth 100000
theorem law_checks (wk : WK2) (w : World) (r : RO) (rg : RG w r) : Calls Try.prog 3 #[.agg #[.slice r.h.ax r.h.X.length r.h.cx, .slice r.h.ay r.h.Y.length r.h.cy, .slice r.h.av r.h.V.length r.h.cv, .slice r.g.ax r.g.X.length r.g.cx, .slice r.g.ay r.g.Y.length r.g.cy, .slice r.g.av r.g.V.length r.g.cv, .slice r.l.ax r.l.X.length r.l.cx, .slice r.l.ay r.l.Y.length r.l.cy, .slice r.l.av r.l.V.length r.l.cv, .slice r.p.ax r.p.X.length r.p.cx, .slice r.p.ay r.p.Y.length r.p.cy, .slice r.p.av r.p.V.length r.p.cv, .slice r.n.ax r.n.X.length r.n.cx, .slice r.n.ay r.n.Y.length r.n.cy, .slice r.n.av r.n.V.length r.n.cv, .slice r.a.ax r.a.X.length r.a.cx, .slice r.a.ay r.a.Y.length r.a.cy, .slice r.a.av r.a.V.length r.a.cv, .slice r.b.ax r.b.X.length r.b.cx, .slice r.b.ay r.b.Y.length r.b.cy, .slice r.b.av r.b.V.length r.b.cv, .slice r.d.ax r.d.X.length r.d.cx, .slice r.d.ay r.d.Y.length r.d.cy, .slice r.d.av r.d.V.length r.d.cv, .int .i64 r.cl, .int .i64 r.bu]] w fun e w' => e = .returned (.bool true) ∧ Below w.heap.size w w' := by
  obtain ⟨CS, hc⟩ : ∃ CS : Array Value, #[.slice r.h.ax r.h.X.length r.h.cx, .slice r.h.ay r.h.Y.length r.h.cy, .slice r.h.av r.h.V.length r.h.cv, .slice r.g.ax r.g.X.length r.g.cx, .slice r.g.ay r.g.Y.length r.g.cy, .slice r.g.av r.g.V.length r.g.cv, .slice r.l.ax r.l.X.length r.l.cx, .slice r.l.ay r.l.Y.length r.l.cy, .slice r.l.av r.l.V.length r.l.cv, .slice r.p.ax r.p.X.length r.p.cx, .slice r.p.ay r.p.Y.length r.p.cy, .slice r.p.av r.p.V.length r.p.cv, .slice r.n.ax r.n.X.length r.n.cx, .slice r.n.ay r.n.Y.length r.n.cy, .slice r.n.av r.n.V.length r.n.cv, .slice r.a.ax r.a.X.length r.a.cx, .slice r.a.ay r.a.Y.length r.a.cy, .slice r.a.av r.a.V.length r.a.cv, .slice r.b.ax r.b.X.length r.b.cx, .slice r.b.ay r.b.Y.length r.b.cy, .slice r.b.av r.b.V.length r.b.cv, .slice r.d.ax r.d.X.length r.d.cx, .slice r.d.ay r.d.Y.length r.d.cy, .slice r.d.av r.d.V.length r.d.cv, .int .i64 r.cl, .int .i64 r.bu] = CS := ⟨_, rfl⟩
  have HFA := Lib.hid (fun (W : World) (hW : Below w.heap.size w W) => show Calls Try.prog 14 #[.agg CS] W fun e w' => e = .returned (.bool r.far) ∧ Below W.heap.size W w' by rw [← hc]; exact rfar_any r W (rg.below hW))
  have HSZ := Lib.hid (show CS.size = 26 by rw [← hc]; rfl)
  have X1 := Lib.hid (BK.new (w := w) (cs := CS) (T := 27))
  have HB := Lib.hid (show Below w.heap.size w (w.alloc (.cells CS 27)) by go_grown)
  have HW := Lib.hid wk
  rw [hc]
  cases hf : r.far with
  | true =>
    rw [hf] at HFA
    clear rg hc hf
    go_enter Try.func3, Try.ntmps3
    go_wp2_with (first
      | ((with_reducible refine ldR X1.out HSZ.out ?_ ?_); rfl)
      | (go_at_call 14; refine Calls.mono (HFA.out _ HB.out) ?_; rintro e w1 ⟨rfl, hb1⟩; have HB1 := Lib.hid (HB.out.trans (hb1.mono HB.out.size)); clear hb1)
      | (go_at_call 15; refine Calls.mono (HW.out _) ?_; rintro e w2 ⟨rfl, hb2⟩; have HB2 := Lib.hid (HB1.out.trans (hb2.mono HB1.out.size)); clear hb2))
    go_ret
    exact ⟨rfl, HB2.out⟩
  | false =>
    have HO := Lib.hid (fun (W : World) (hW : Below w.heap.size w W) => own_any r W (rg.below hW) (RO.small_of hf) CS hc.symm)
    have HK := Lib.hid (fun (q : RO) (hs : r.same q) (W : World) (hq : RG W q) => show Calls Try.prog 16 #[.agg #[.slice q.h.ax q.h.X.length q.h.cx, .slice q.h.ay q.h.Y.length q.h.cy, .slice q.h.av q.h.V.length q.h.cv, .slice q.g.ax q.g.X.length q.g.cx, .slice q.g.ay q.g.Y.length q.g.cy, .slice q.g.av q.g.V.length q.g.cv, .slice q.l.ax q.l.X.length q.l.cx, .slice q.l.ay q.l.Y.length q.l.cy, .slice q.l.av q.l.V.length q.l.cv, .slice q.p.ax q.p.X.length q.p.cx, .slice q.p.ay q.p.Y.length q.p.cy, .slice q.p.av q.p.V.length q.p.cv, .slice q.n.ax q.n.X.length q.n.cx, .slice q.n.ay q.n.Y.length q.n.cy, .slice q.n.av q.n.V.length q.n.cv, .slice q.a.ax q.a.X.length q.a.cx, .slice q.a.ay q.a.Y.length q.a.cy, .slice q.a.av q.a.V.length q.a.cv, .slice q.b.ax q.b.X.length q.b.cx, .slice q.b.ay q.b.Y.length q.b.cy, .slice q.b.av q.b.V.length q.b.cv, .slice q.d.ax q.d.X.length q.d.cx, .slice q.d.ay q.d.Y.length q.d.cy, .slice q.d.av q.d.V.length q.d.cv, .int .i64 q.cl, .int .i64 q.bu]] W fun e w' => e = .returned (.int .i64 r.err) ∧ Below W.heap.size W w' by
      have := rotcheck_any q W hq
      rw [show q.err = r.err by unfold RO.err; rw [same_ok hs]] at this
      exact this)
    have HR := Lib.hid (fun (W : World) (hW : Below w.heap.size w W) => show Calls Try.prog 18 #[.agg CS] W fun e w' => e = .returned (.int .i64 r.err) ∧ Below W.heap.size W w' by rw [← hc]; exact rrotcheck_any r W (rg.below hW))
    rw [hf] at HFA
    generalize r.err = E at *
    clear rg hc hf
    go_enter Try.func3, Try.ntmps3
    go_upto_region 3 with (first
      | ((with_reducible refine ldR X1.out HSZ.out ?_ ?_); rfl)
      | (go_at_call 14; refine Calls.mono (HFA.out _ HB.out) ?_; rintro e w1 ⟨rfl, hb1⟩; have HB1 := Lib.hid (HB.out.trans (hb1.mono HB.out.size)); have K1 := Lib.hid (X1.out.keep hb1); clear hb1 HB X1))
    obtain ⟨Qa, hQa⟩ : ∃ q9 : Nat → Value → World → Prop, q9 = QG [some (.agg CS), none, some (.int .i64 E), some (.agg CS), some (.int .i64 E), some (.bool true), some (.bool true), some (.bool true), some (.bool true), some (.bool true)] (fun j0' v0' w0' => (j0' = 1 → QO r v0' w0')) := ⟨_, rfl⟩
    have hst : Stays Qa := by rw [hQa]; exact QG.stays (fun j v W W' h hb => fun e => (h e).stay hb)
    have Ua1 := Lib.hid (show ∀ v0' w0', Qa 1 v0' w0' ↔ QO r v0' w0' from fun v0' w0' => by rw [hQa]; exact ⟨fun h => h rfl, fun h => fun _ => h⟩)
    have HQa := Lib.hid hQa
    clear hQa
    refine wpIn_wide.1 (region_inv2 (n := 9) (by kernel_rfl) (RQ Qa w1) (by kernel_rfl) rfl (RQ.start _ _ _) ?hstepa ?henda)
    case hstepa =>
      intro i' o ho val L b' x hF hR hpre hl
      match i', ho with
      | 0, ho =>
        simp at ho; subst ho; refine step_plain rfl ?_; have e1 := hF.was 1 (by kernel_rfl) rfl; have hgoal := hR.go hst HQa 0 rfl
        exact inR (K1.out.keep hR.1) HSZ.out (e1.trans rfl) ⟨_, rfl, hgoal _ _ (Below.refl _ _) rfl⟩
      | 1, ho =>
        simp at ho; subst ho; refine step_plain rfl ?_; have e6 := hF.gv hR.2 HQa 0 rfl (hpre ⟨0, .data⟩ (by simp) rfl) rfl
        have hgoal : ∀ v0' w0', Below x.heap.size x w0' → QO r v0' w0' → RQ Qa w1 (upd val 1 v0') (L.setIfInBounds 1 true) w0' := fun v0' w0' hb hq => hR.step hst hb ((Ua1.out _ _).2 hq)
        have hM := Lib.hid hR.1
        clear hF hpre hl hR; go_simp
        refine ⟨trivial, ?_⟩
        refine CallsIn.mono (callsIn_wide.2 (HO.out _ (HB1.out.trans (hM.out.mono HB1.out.size)))) ?_
        rintro e w9 ⟨q, rfl, hs9, hg9, hb9⟩
        exact ⟨_, rfl, hgoal _ _ hb9 ⟨q, rfl, hs9, hg9.now⟩⟩
      | 2, ho =>
        simp at ho; subst ho; refine step_plain rfl ?_; have e7 := hF.gave 1 rfl (hpre ⟨1, .data⟩ (by simp) rfl) rfl
        have v1 := (Ua1.out _ _).1 (hR.2 1 (hpre ⟨1, .data⟩ (by simp) rfl))
        have hgoal := hR.go hst HQa 2 rfl
        have hM := Lib.hid hR.1
        clear hF hpre hl hR
        obtain ⟨q, eq9, hs9, hg9⟩ := v1
        rw [eq9] at e7
        go_simp
        refine ⟨trivial, ?_⟩
        refine CallsIn.mono (callsIn_wide.2 (HK.out q hs9 _ hg9)) ?_
        rintro e w9 ⟨rfl, hb9⟩
        exact ⟨_, rfl, hgoal _ _ hb9 rfl⟩
      | 3, ho =>
        simp at ho; subst ho; refine step_plain rfl ?_; have e1 := hF.was 1 (by kernel_rfl) rfl; have hgoal := hR.go hst HQa 3 rfl
        exact inR (K1.out.keep hR.1) HSZ.out (e1.trans rfl) ⟨_, rfl, hgoal _ _ (Below.refl _ _) rfl⟩
      | 4, ho =>
        simp at ho; subst ho; refine step_plain rfl ?_; have e9 := hF.gv hR.2 HQa 3 rfl (hpre ⟨3, .data⟩ (by simp) rfl) rfl; have hgoal := hR.go hst HQa 4 rfl
        have hM := Lib.hid hR.1
        clear hF hpre hl hR; go_simp
        refine ⟨trivial, ?_⟩
        refine CallsIn.mono (callsIn_wide.2 (HR.out _ (HB1.out.trans (hM.out.mono HB1.out.size)))) ?_
        rintro e w9 ⟨rfl, hb9⟩
        exact ⟨_, rfl, hgoal _ _ hb9 rfl⟩
      | 5, ho =>
        simp at ho; subst ho; refine step_plain rfl ?_; have e8 := hF.gv hR.2 HQa 2 rfl (hpre ⟨2, .data⟩ (by simp) rfl) rfl; have e10 := hF.gv hR.2 HQa 4 rfl (hpre ⟨4, .data⟩ (by simp) rfl) rfl; have hgoal := hR.go hst HQa 5 rfl; clear hF hpre hl hR; go_simp; exact ⟨_, rfl, hgoal _ _ (Below.refl _ _) rfl⟩
      | 6, ho =>
        simp at ho; subst ho; refine step_plain rfl ?_; have e11 := hF.gv hR.2 HQa 5 rfl (hpre ⟨5, .data⟩ (by simp) rfl) rfl; have hgoal := hR.go hst HQa 6 rfl; clear hF hpre hl hR; go_simp; exact ⟨_, rfl, hgoal _ _ (Below.refl _ _) rfl⟩
      | 7, ho =>
        simp at ho; subst ho; refine step_gd hF hR.2 HQa (j := 6) (b := true) rfl rfl (by kernel_rfl) (hpre ⟨6, .guard⟩ (by simp) rfl) rfl ?_; have hgoal := hR.go hst HQa 7 rfl
        have hM := Lib.hid hR.1
        clear hF hpre hl hR; go_simp
        refine ⟨trivial, ?_⟩
        refine CallsIn.mono (callsIn_wide.2 (HW.out _)) ?_
        rintro e w9 ⟨rfl, hb9⟩
        exact ⟨_, rfl, hgoal _ _ hb9 rfl⟩
      | 8, ho =>
        simp at ho; subst ho; refine step_plain rfl ?_; have e12 := hF.gv hR.2 HQa 6 rfl (hpre ⟨6, .data⟩ (by simp) rfl) rfl; have e13 := hF.gv hR.2 HQa 7 rfl (hpre ⟨7, .data⟩ (by simp) rfl) rfl; have hgoal := hR.go hst HQa 8 rfl; clear hF hpre hl hR; go_simp; exact ⟨_, rfl, hgoal _ _ (Below.refl _ _) rfl⟩
      | 9, ho =>
        simp at ho; subst ho; refine step_plain rfl ?_; have e14 := hF.gv hR.2 HQa 8 rfl (hpre ⟨8, .data⟩ (by simp) rfl) rfl; have hgoal := hR.go hst HQa 9 rfl; clear hF hpre hl hR; go_simp; exact ⟨_, rfl, hgoal _ _ (Below.refl _ _) rfl⟩
      | i + 10, ho => simp at ho
    case henda =>
      intro val L b' x hF hall hR
      have e := hF.all (by kernel_rfl) hall
      have ka9 := QG.val HQa rfl (hR.2 9 (hall 9 (by decide)))
      have hBa := Lib.hid hR.1
      clear hF hall hR hst HQa Ua1
      subst e
      simp [final, dstOf, List.range, List.range.loop]
      rw [ka9]
      go_wp2
      exact bodyPost_ret (v := .bool true) (by simp [results, Try.results3, go_sem]) rfl ⟨rfl, HB1.out.trans (hBa.out.mono HB1.out.size)⟩
end Go.Proofs.Ythhokiigdgpmcaa

/- swashplatelaw02.RotorChecks returns true at every input, and the input reads as it did: no condition. -/
namespace Go.Proofs.Ythhokiigdgpmcaa
open Go.RowKit Go.WideShapes Go.ChangeShapes Go.ChangeAt Go.Joins

set_option maxRecDepth 100000 in
theorem checks_lifted (os : Os) (started : os.Started) (H : Type) (enc : TypeId × Value → H) :
    ReturnsInHanded {} Try.checked os 3 .any (Rows.rotorChecksSpec.pre6 enc Try.prog Try.f3 Rows.rotorChecksRow.domain false) (Rows.rotorChecksSpec.post enc Try.prog Try.f3 false true false false) := by
  refine returnsInHanded_of_change (C := Try.checked) own started (by kernel_rfl) Try.func3
    (ChangeSpec.witness6 (enc := enc) (C := Try.checked) false ⟨#[], #[.agg #[.slice none 0 0, .slice none 0 0, .slice none 0 0, .slice none 0 0, .slice none 0 0, .slice none 0 0, .slice none 0 0, .slice none 0 0, .slice none 0 0, .slice none 0 0, .slice none 0 0, .slice none 0 0, .slice none 0 0, .slice none 0 0, .slice none 0 0, .slice none 0 0, .slice none 0 0, .slice none 0 0, .slice none 0 0, .slice none 0 0, .slice none 0 0, .slice none 0 0, .slice none 0 0, .slice none 0 0, .int .i64 0, .int .i64 0]], []⟩ 8 (by kernel_rfl) (by kernel_rfl) (by kernel_rfl) (by kernel_rfl)) ?_
  intro W base args ds gs before hval0 hW hcnd _
  have hval : ∀ (j : Nat) t v, Try.f3.params[j]? = some t → args[j]? = some v → Value.okWide Try.prog W .any base t v := hval0
  have hW' := hW
  obtain ⟨p, q, hA0, hV, rfl, hfz, hnd⟩ := hW
  have hA : DataW.TrodAll enc Try.prog W 0 (fun _ => true) true Try.f3.params.toList args.toList ds p := hA0
  rw [Try.params3] at hA hval
  obtain ⟨v0, d0, rfl, rfl, h0⟩ := trodAll_one hA
  obtain ⟨rfl, rfl⟩ := trodVars_none hV
  obtain ⟨r0, rfl, rg0⟩ := rotor_open (hval 0 27 v0 rfl rfl) h0
  clear hA0 hval0
  simp only [List.append_nil] at hW'
  have hlt : ∀ x ∈ p, x.block < W.heap.size := fun x hx => hW'.lt x hx
  refine (law_checks works2_any W r0 rg0).mono fun e W' ⟨he, hb⟩ => ?_
  subst he
  exact ⟨_, rfl, law_post hW' (by kernel_rfl) Try.underlying4 rfl rfl (fun sp hsp => trodAll_mk1 (again (by kernel_rfl) (of_decide_eq_true (by kernel_rfl)) h0 hb (fun x hx => hlt x hx) (fun x hx => hsp x hx))) hb⟩

theorem checks_holds : Rows.RotorChecksSaid :=
  OpenClaim.holds_of_wide 3 Try.f3 rfl rfl rfl rfl rfl rfl rfl ⟨rfl, rfl, rfl, rfl, rfl⟩ rfl rfl rfl rfl rfl (by kernel_rfl) Try.func3 (by kernel_rfl)
    (of_decide_eq_true (by kernel_rfl)) (by unfold Func.isWrapper; first | (rw [if_pos (by decide +kernel)]; kernel_rfl) | (rw [if_neg (by decide +kernel)]; exact ⟨rfl, rfl⟩))
    (fun os started H enc _ => checks_lifted os started H enc)
#print axioms checks_holds

end Go.Proofs.Ythhokiigdgpmcaa

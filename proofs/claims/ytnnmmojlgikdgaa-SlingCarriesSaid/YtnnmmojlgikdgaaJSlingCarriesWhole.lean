/- swashplatelaw07.SlingCarries returns true at every input, and the input reads as it did: no condition. -/
import Derived.Test.YtnnmmojlgikdgaaM7

/- The law of Carries and Deepest. -/
namespace Go.Proofs.Ytnnmmojlgikdgaa
open Go.RowKit

set_option maxRecDepth 100000 in
set_option maxHeartbeats 1000000 in
theorem law_carries (wk : WK7) (w : World) (cable : Int) (AX : Option Addr) (nx cx : Nat) (AY : Option Addr) (ny cy : Nat) (AV : Option Addr) (nv cv : Nat) (charge : Int) (X Y : List Int) (V : List (List Int)) (h : HT w w.heap.size AX AY AV nx ny nv X Y V) (y1 y2 len wt : Int) :
    Calls Try.prog 7 #[.agg #[.int .i64 cable, .slice AX nx cx, .slice AY ny cy, .slice AV nv cv, .int .i64 charge], .agg #[.int .i64 y1, .int .i64 y2], .agg #[.int .i64 len, .int .i64 wt]] w fun e w' => e = .returned (.bool true) ∧ Below w.heap.size w w' := by
  have HWK := Lib.hid wk
  have H1 := Lib.hid (fun (W : World) (hW : Below w.heap.size w W) => carriesT_any cable charge y1 y2 len wt AX AY AV nx cx ny cy nv cv w.heap.size X Y V W (h.below hW))
  have H2 := Lib.hid (fun (W : World) (hW : Below w.heap.size w W) => rcarries_any cable charge y1 y2 len wt AX AY AV nx cx ny cy nv cv w.heap.size X Y V W (h.below hW))
  have H3 := Lib.hid (fun (W : World) (hW : Below w.heap.size w W) => deepest_any cable charge y1 y2 wt AX AY AV nx cx ny cy nv cv w.heap.size X Y V W (h.below hW))
  have H4 := Lib.hid (fun (W : World) (hW : Below w.heap.size w W) => rdeepest_any cable charge y1 y2 wt AX AY AV nx cx ny cy nv cv w.heap.size X Y V W (h.below hW))
  generalize carN X Y V cable charge y1 y2 len wt = c at *
  generalize deepN X Y V cable charge y1 y2 wt = d at *
  obtain ⟨c0, c1⟩ := c
  obtain ⟨d0, d1⟩ := d
  dsimp only at H1 H2 H3 H4
  have HS0 := Lib.hid ((AH.start (cable := cable) (AX := AX) (nx := nx) (cx := cx) (AY := AY) (ny := ny) (cy := cy) (AV := AV) (nv := nv) (cv := cv) (charge := charge) (y1 := y1) (y2 := y2) w).alloc (.cells #[.int .i64 len, .int .i64 wt] 66))
  have HI0 := Lib.hid (show I2 (((w.alloc (.cells #[.int .i64 cable, .slice AX nx cx, .slice AY ny cy, .slice AV nv cv, .int .i64 charge] 57)).alloc (.cells #[.int .i64 y1, .int .i64 y2] 27)).alloc (.cells #[.int .i64 len, .int .i64 wt] 66)) (w.heap.size + 1 + 1) len wt from I2.new (by simp))
  clear wk h
  go_enter Try.func7, Try.ntmps7
  go_wp2_with (first
    | (go_at_call 36; refine Calls.mono (H1.out _ HS0.out.b) ?_; rintro e w1 ⟨rfl, hb1⟩; have S1 := HS0.out.next hb1; have I1 := HI0.out.next hb1; have HS1 := Lib.hid S1; have HI1 := Lib.hid I1; have l1 := S1.l1; have k1 := I1.lt; obtain ⟨⟨a0, a1, a2, a3, a4⟩, a5, a6, _⟩ := S1; obtain ⟨a7, a8⟩ := I1; clear hb1)
    | (go_at_call 37; refine Calls.mono (H2.out _ HS1.out.b) ?_; rintro e w2 ⟨rfl, hb2⟩; have S2 := HS1.out.next hb2; have I2' := HI1.out.next hb2; have HS2 := Lib.hid S2; have HI2 := Lib.hid I2'; have l2 := S2.l1; have k2 := I2'.lt; obtain ⟨⟨b0, b1, b2, b3, b4⟩, b5, b6, _⟩ := S2; obtain ⟨b7, b8⟩ := I2'; clear hb2 a0 a1 a2 a3 a4 a5 a6 a7 a8 l1 k1)
    | (go_at_call 38; refine Calls.mono (H3.out _ HS2.out.b) ?_; rintro e w3 ⟨rfl, hb3⟩; have S3 := HS2.out.next hb3; have I3' := HI2.out.next hb3; have HS3 := Lib.hid S3; have l3 := S3.l1; have k3 := I3'.lt; obtain ⟨⟨c0, c1, c2, c3, c4⟩, c5, c6, _⟩ := S3; obtain ⟨c7, c8⟩ := I3'; clear hb3 b0 b1 b2 b3 b4 b5 b6 b7 b8 l2 k2)
    | (go_at_call 39; refine Calls.mono (H4.out _ HS3.out.b) ?_; rintro e w4 ⟨rfl, hb4⟩; have HX4 := Lib.hid (HS3.out.b.trans (hb4.mono HS3.out.b.size)); clear hb4)
    | (go_at_call 22; refine Calls.mono (HWK.out _) ?_; rintro e w9 ⟨rfl, hb9⟩; have HX9 := Lib.hid (HX4.out.trans (hb9.mono HX4.out.size)); clear hb9))
  go_ret
  exact ⟨rfl, HX9.out⟩
end Go.Proofs.Ytnnmmojlgikdgaa

/- swashplatelaw07.SlingCarries returns true at every input, and the input reads as it did: no condition. -/
namespace Go.Proofs.Ytnnmmojlgikdgaa
open Go.RowKit Go.WideShapes Go.ChangeShapes Go.ChangeAt Go.Joins

set_option maxRecDepth 100000 in
theorem carries_lifted (os : Os) (started : os.Started) (H : Type) (enc : TypeId × Value → H) :
    ReturnsInHanded {} Try.checked os 7 .any (Rows.slingCarriesSpec.pre6 enc Try.prog Try.f7 Rows.slingCarriesRow.domain false) (Rows.slingCarriesSpec.post enc Try.prog Try.f7 false true false false) := by
  refine returnsInHanded_of_change (C := Try.checked) own started (by kernel_rfl) Try.func7
    (ChangeSpec.witness6 (enc := enc) (C := Try.checked) false ⟨#[], #[.agg #[.int .i64 0, .slice none 0 0, .slice none 0 0, .slice none 0 0, .int .i64 0], .agg #[.int .i64 0, .int .i64 0], .agg #[.int .i64 0, .int .i64 0]], []⟩ 8 (by kernel_rfl) (by kernel_rfl) (by kernel_rfl) (by kernel_rfl)) ?_
  intro W base args ds gs before hval0 hW hcnd _
  have hval : ∀ (j : Nat) t v, Try.f7.params[j]? = some t → args[j]? = some v → Value.okWide Try.prog W .any base t v := hval0
  have hW' := hW
  obtain ⟨p, q, hA0, hV, rfl, hfz, hnd⟩ := hW
  have hA : DataW.TrodAll enc Try.prog W 0 (fun _ => true) true Try.f7.params.toList args.toList ds p := hA0
  rw [Try.params7] at hA hval
  obtain ⟨v0, v1, v2, d0, d1, d2, p0, p1, p2, rfl, rfl, rfl, h0, h1, h2⟩ := trodAll_three hA
  obtain ⟨rfl, rfl⟩ := trodVars_none hV
  obtain ⟨cb0, AX0, nx0, cx0, AY0, ny0, cy0, AV0, nv0, cv0, ch0, X0, Y0, V0, rfl, ht0⟩ := hoist_open (hval 0 57 v0 rfl rfl) h0
  obtain ⟨a1, b1, rfl⟩ := span7_open (hval 1 27 v1 rfl rfl) h1
  obtain ⟨a2, b2, rfl⟩ := weight_open (hval 2 66 v2 rfl rfl) h2
  clear hA0 hval0
  simp only [List.append_nil] at hW'
  have hlt : ∀ x ∈ p0 ++ p1 ++ p2, x.block < W.heap.size := fun x hx => hW'.lt x hx
  refine (law_carries works7_any W cb0 AX0 nx0 cx0 AY0 ny0 cy0 AV0 nv0 cv0 ch0 X0 Y0 V0 ht0 a1 b1 a2 b2).mono fun e W' ⟨he, hb⟩ => ?_
  subst he
  exact ⟨_, rfl, law_post hW' (by kernel_rfl) Try.underlying4 rfl rfl (fun sp hsp => (by simp only [List.append_assoc]; exact trodAll_mk3 (again (by kernel_rfl) (of_decide_eq_true (by kernel_rfl)) h0 hb (fun x hx => hlt x (List.mem_append_left _ (List.mem_append_left _ hx))) (fun x hx => hsp x (List.mem_append_left _ (List.mem_append_left _ hx)))) (again (by kernel_rfl) (of_decide_eq_true (by kernel_rfl)) h1 hb (fun x hx => hlt x (List.mem_append_left _ (List.mem_append_right _ hx))) (fun x hx => hsp x (List.mem_append_left _ (List.mem_append_right _ hx)))) (again (by kernel_rfl) (of_decide_eq_true (by kernel_rfl)) h2 hb (fun x hx => hlt x (List.mem_append_right _ hx)) (fun x hx => hsp x (List.mem_append_right _ hx))))) hb⟩

theorem carries_holds : Rows.SlingCarriesSaid :=
  OpenClaim.holds_of_wide 7 Try.f7 rfl rfl rfl rfl rfl rfl rfl ⟨rfl, rfl, rfl, rfl, rfl⟩ rfl rfl rfl rfl rfl (by kernel_rfl) Try.func7 (by kernel_rfl)
    (of_decide_eq_true (by kernel_rfl)) (by unfold Func.isWrapper; first | (rw [if_pos (by decide +kernel)]; kernel_rfl) | (rw [if_neg (by decide +kernel)]; exact ⟨rfl, rfl⟩))
    (fun os started H enc _ => carries_lifted os started H enc)
#print axioms carries_holds

end Go.Proofs.Ytnnmmojlgikdgaa

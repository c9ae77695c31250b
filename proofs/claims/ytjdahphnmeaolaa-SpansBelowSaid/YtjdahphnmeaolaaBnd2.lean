/- Bound of both sides, with its errors; CheckBound. -/
import Derived.Test.YtjdahphnmeaolaaRbound
import Derived.Test.YtjdahphnmeaolaaRct
namespace Go.Proofs.Ytjdahphnmeaolaa
open Go.RowKit

/-- Three arguments' boxes: a table and two spans. -/
structure S3 (w W : World) (AX : Option Addr) (nx cx : Nat) (AY : Option Addr) (ny cy : Nat) (AV : Option Addr) (nv cv : Nat) (x1 x2 y1 y2 : Int) : Prop where
  t0 : W.cell? ⟨w.heap.size, 0, none⟩ = some (.slice AX nx cx)
  t1 : W.cell? ⟨w.heap.size, 1, none⟩ = some (.slice AY ny cy)
  t2 : W.cell? ⟨w.heap.size, 2, none⟩ = some (.slice AV nv cv)
  a0 : W.cell? ⟨w.heap.size + 1, 0, none⟩ = some (.int .i64 x1)
  a1 : W.cell? ⟨w.heap.size + 1, 1, none⟩ = some (.int .i64 x2)
  b0 : W.cell? ⟨w.heap.size + 1 + 1, 0, none⟩ = some (.int .i64 y1)
  b1 : W.cell? ⟨w.heap.size + 1 + 1, 1, none⟩ = some (.int .i64 y2)
  l : w.heap.size + 1 + 1 < W.heap.size
  b : Below w.heap.size w W
theorem S3.next {w W W' : World} {AX AY AV : Option Addr} {nx cx ny cy nv cv : Nat} {x1 x2 y1 y2 : Int} (h : S3 w W AX nx cx AY ny cy AV nv cv x1 x2 y1 y2) (hb : Below W.heap.size W W') : S3 w W' AX nx cx AY ny cy AV nv cv x1 x2 y1 y2 :=
  ⟨cell_keep hb h.t0, cell_keep hb h.t1, cell_keep hb h.t2, cell_keep hb h.a0, cell_keep hb h.a1, cell_keep hb h.b0, cell_keep hb h.b1, Nat.lt_of_lt_of_le h.l hb.size, h.b.trans (hb.mono h.b.size)⟩
theorem S3.start (w : World) (AX AY AV : Option Addr) (nx cx ny cy nv cv : Nat) (x1 x2 y1 y2 : Int) (T T' T'' : TypeId) :
    S3 w (((w.alloc (.cells #[.slice AX nx cx, .slice AY ny cy, .slice AV nv cv] T)).alloc (.cells #[.int .i64 x1, .int .i64 x2] T')).alloc (.cells #[.int .i64 y1, .int .i64 y2] T'')) AX nx cx AY ny cy AV nv cv x1 x2 y1 y2 :=
  ⟨by go_simp, by go_simp, by go_simp, by go_simp, by go_simp, by go_simp, by go_simp, by simp, by go_grown⟩
/-- The result's box behind them. -/
structure R2 (w W : World) : Prop where
  r0 : W.cell? ⟨w.heap.size + 1 + 1 + 1, 0, none⟩ = some (.int .i64 0)
  r1 : W.cell? ⟨w.heap.size + 1 + 1 + 1, 1, none⟩ = some (.int .i64 0)
  z0 : W.frozen? ⟨w.heap.size + 1 + 1 + 1, 0, none⟩ = false
  z1 : W.frozen? ⟨w.heap.size + 1 + 1 + 1, 1, none⟩ = false
theorem R2.next {w W W' : World} (h : R2 w W) (hb : Below W.heap.size W W') : R2 w W' :=
  ⟨cell_keep hb h.r0, cell_keep hb h.r1, (cell_frozen hb h.r0).trans h.z0, (cell_frozen hb h.r1).trans h.z1⟩
theorem R2.start (w : World) (o1 o2 o3 : Obj) (T : TypeId) : R2 w ((((w.alloc o1).alloc o2).alloc o3).alloc (.cells #[.int .i64 0, .int .i64 0] T)) :=
  ⟨by go_simp, by go_simp, by go_simp, by go_simp⟩
theorem R2.res {w W : World} (h : R2 w W) (hb : Below w.heap.size w W) :
    (∀ v, (W.setCell ⟨w.heap.size + 1 + 1 + 1, 0, none⟩ v).cell? ⟨w.heap.size + 1 + 1 + 1, 0, none⟩ = some v) ∧ (∀ v u, ((W.setCell ⟨w.heap.size + 1 + 1 + 1, 0, none⟩ v).setCell ⟨w.heap.size + 1 + 1 + 1, 1, none⟩ u).cell? ⟨w.heap.size + 1 + 1 + 1, 1, none⟩ = some u) ∧
    ∀ v u, Below w.heap.size w ((W.setCell ⟨w.heap.size + 1 + 1 + 1, 0, none⟩ v).setCell ⟨w.heap.size + 1 + 1 + 1, 1, none⟩ u) :=
  ⟨fun v => World.cell?_setCell_same' _ _ _ (by rw [h.r0]; rfl), fun v u => World.cell?_setCell_same' _ _ _ (by rw [World.cell?_setCell_other _ _ _ _ (by simp), h.r1]; rfl),
    fun v u => (hb.setCell (by simp; omega) _).setCell (by simp; omega) _⟩

theorem btB_onB {X : List Int} {a b : Int} (h : vI a b = true) : btB X a b = onB X [a, b] := by
  unfold vI at h
  unfold btB onB wB gz
  simp at h
  rw [Bool.eq_iff_iff]
  simp
  omega

def bndS (X Y : List Int) (V : List (List Int)) (x1 x2 y1 y2 : Int) : (Int × Int) × Int :=
  if cbE X Y V x1 x2 y1 y2 = 0 then (bndL (cornersL X Y V (endsL X x1 x2) (endsL Y y1 y2)), 0) else ((0, 0), cbE X Y V x1 x2 y1 y2)

set_option maxRecDepth 100000 in
set_option maxHeartbeats 1000000 in
theorem bound_any (AX AY AV : Option Addr) (nx cx ny cy nv cv B : Nat) (X Y : List Int) (V : List (List Int)) (x1 x2 y1 y2 : Int) (w : World) (hx : X.length = nx) (hy : Y.length = ny) (hv : V.length = nv) (hnx : nx ≤ maxLen) (hny : ny ≤ maxLen) (hnv : nv ≤ maxLen) (hnr : ∀ r ∈ V, r.length ≤ maxLen)
    (hB : B ≤ w.heap.size) (h : TB w B AX AY AV X Y V) :
    Calls Try.prog 49 #[.agg #[.slice AX nx cx, .slice AY ny cy, .slice AV nv cv], .agg #[.int .i64 x1, .int .i64 x2], .agg #[.int .i64 y1, .int .i64 y2]] w fun e w' =>
      e = .returned (.tuple #[.agg #[.int .i64 (bndS X Y V x1 x2 y1 y2).1.1, .int .i64 (bndS X Y V x1 x2 y1 y2).1.2], .int .i64 (bndS X Y V x1 x2 y1 y2).2]) ∧ Below w.heap.size w w' := by
  by_cases hc : cbE X Y V x1 x2 y1 y2 = 0
  · have := bound_ok AX AY AV nx cx ny cy nv cv B X Y V x1 x2 y1 y2 w hx hy hv hnx hny hnv hnr hB h hc
    unfold bndS
    rw [if_pos hc]
    exact this
  · subst hx hy hv
    rw [show bndS X Y V x1 x2 y1 y2 = ((0, 0), cbE X Y V x1 x2 y1 y2) by unfold bndS; rw [if_neg hc]]
    have HCB := Lib.hid (fun (W : World) (hW : Below w.heap.size w W) => checkBox_any AX AY AV _ cx _ cy _ cv B X Y V x1 x2 y1 y2 W rfl rfl rfl hnx hny hnv hnr (by have := hW.size; omega) (h.below (hW.mono hB)))
    have S0 := R2.start w (.cells #[.slice AX X.length cx, .slice AY Y.length cy, .slice AV V.length cv] 27) (.cells #[.int .i64 x1, .int .i64 x2] 37) (.cells #[.int .i64 y1, .int .i64 y2] 37) 37
    have HS0 := Lib.hid S0
    clear h S0
    generalize cbE X Y V x1 x2 y1 y2 = c at *
    have hc' : (c != 0) = true := by rw [bne_iff_ne]; exact hc
    clear hc
    go_enter Try.func49, Try.ntmps49
    go_wp2_with (go_at_call 95; refine Calls.mono (HCB.out _ (by go_grown)) ?_; rintro e w1 ⟨rfl, hb1⟩; have R1 := HS0.out.next hb1; have HBW := Lib.hid (show Below w.heap.size w w1 from Below.trans (by go_grown) (hb1.mono (by simp <;> omega))); have HR1 := Lib.hid R1; obtain ⟨r0, r1, z0, z1⟩ := R1; have l1 : w.heap.size + 1 + 1 + 1 < w1.heap.size := World.block_lt_of_cell? _ _ r0; clear hb1)
    obtain ⟨y1, y2, y3⟩ := HR1.out.res HBW.out
    refine bodyPost_ret (v := .tuple #[.agg #[.int .i64 0, .int .i64 0], .int .i64 c]) (by simp [results, Try.results49, go_sem, y1, y2]) rfl ?_
    exact ⟨rfl, y3 _ _⟩

set_option maxRecDepth 100000 in
set_option maxHeartbeats 1000000 in
theorem checkBound_any (AX AY AV : Option Addr) (nx cx ny cy nv cv B : Nat) (X Y : List Int) (V : List (List Int)) (x1 x2 y1 y2 : Int) (w : World) (hx : X.length = nx) (hy : Y.length = ny) (hv : V.length = nv) (hnx : nx ≤ maxLen) (hny : ny ≤ maxLen) (hnv : nv ≤ maxLen) (hnr : ∀ r ∈ V, r.length ≤ maxLen)
    (hB : B ≤ w.heap.size) (h : TB w B AX AY AV X Y V) :
    Calls Try.prog 63 #[.agg #[.slice AX nx cx, .slice AY ny cy, .slice AV nv cv], .agg #[.int .i64 x1, .int .i64 x2], .agg #[.int .i64 y1, .int .i64 y2]] w fun e w' => e = .returned (.int .i64 (cbE X Y V x1 x2 y1 y2)) ∧ Below w.heap.size w w' := by
  subst hx hy hv
  have HT := Lib.hid h
  have HCT := Lib.hid (fun (W : World) (hW : Below w.heap.size w W) => rct_any AX AY AV _ cx _ cy _ cv B X Y V W rfl rfl rfl hnx hny hnv hnr (by have := hW.size; omega) (h.below (hW.mono hB)))
  have S0 := S3.start w AX AY AV X.length cx Y.length cy V.length cv x1 x2 y1 y2 27 37 37
  have HS0 := Lib.hid S0
  clear h S0
  cases hct : ctB X Y V with
  | false =>
    rw [show cbE X Y V x1 x2 y1 y2 = 11 by unfold cbE; rw [hct]; rfl]
    have HE := Lib.hid (ctE_no hct)
    clear hct
    go_enter Try.func63, Try.ntmps63
    go_wp2_with (go_at_call 24; refine Calls.mono (HCT.out _ (by go_grown)) ?_; rintro e w1 ⟨rfl, hb1⟩; rw [HE.out]; have HB1 := Lib.hid (show Below w.heap.size w w1 from Below.trans (by go_grown) (hb1.mono (by simp <;> omega))); clear hb1)
    go_ret
    exact ⟨rfl, HB1.out⟩
  | true =>
  obtain ⟨ha, hb, hlv, _⟩ := ctB_get hct
  obtain ⟨l1, l2, _, _⟩ := axB_get ha
  obtain ⟨l3, l4, _, _⟩ := axB_get hb
  have HE := Lib.hid (ctE_yes hct)
  cases hv : (vI x1 x2 && vI y1 y2) with
  | false =>
    rw [show cbE X Y V x1 x2 y1 y2 = 10 by unfold cbE; rw [hct]; simp only [List.all_cons, List.all_nil, Bool.and_true, vS_vI, hv]; rfl]
    have HV := Lib.hid (show twoE x1 x2 y1 y2 = 10 by unfold twoE; rw [hv]; rfl)
    clear hct hv ha hb hlv
    go_enter Try.func63, Try.ntmps63
    go_wp2_with (first
      | (go_at_call 24; refine Calls.mono (HCT.out _ (by go_grown)) ?_; rintro e w1 ⟨rfl, hb1⟩; rw [HE.out]; have S1 := HS0.out.next hb1; have HS1 := Lib.hid S1; obtain ⟨t0, t1, t2, a0, a1, b0, b1, l9, _⟩ := S1; clear hb1)
      | (go_at_call 70; refine Calls.mono (two_any x1 x2 y1 y2 _) ?_; rintro e w2 ⟨rfl, hb2⟩; rw [HV.out]))
    go_ret
    exact ⟨rfl, HS1.out.b.trans (hb2.mono HS1.out.b.size)⟩
  | true =>
  have hvx : vI x1 x2 = true := by simp at hv; exact hv.1
  have hvy : vI y1 y2 = true := by simp at hv; exact hv.2
  have HV := Lib.hid (show twoE x1 x2 y1 y2 = 0 by unfold twoE; rw [hv]; rfl)
  have HBX := Lib.hid (fun (W : World) (hW : Below w.heap.size w W) => between_any AX _ cx B X x1 x2 W rfl (by omega) (by omega) (by have := hW.size; omega) (HT.out.x.below (hW.mono hB)))
  have HBY := Lib.hid (fun (W : World) (hW : Below w.heap.size w W) => between_any AY _ cy B Y y1 y2 W rfl (by omega) (by omega) (by have := hW.size; omega) (HT.out.y.below (hW.mono hB)))
  cases hX : onB X [x1, x2] with
  | false =>
    rw [show cbE X Y V x1 x2 y1 y2 = 1 by unfold cbE; rw [hct]; simp only [List.all_cons, List.all_nil, Bool.and_true, vS_vI, hv, hX]; rfl]
    have HX := Lib.hid (show btB X x1 x2 = false by rw [btB_onB hvx]; exact hX)
    clear hct hv ha hb hlv hX hvx hvy
    go_enter Try.func63, Try.ntmps63
    go_wp2_with (first
      | (go_at_call 24; refine Calls.mono (HCT.out _ (by go_grown)) ?_; rintro e w1 ⟨rfl, hb1⟩; rw [HE.out]; have S1 := HS0.out.next hb1; have HS1 := Lib.hid S1; obtain ⟨t0, t1, t2, a0, a1, b0, b1, l9, _⟩ := S1; clear hb1)
      | (go_at_call 70; refine Calls.mono (two_any x1 x2 y1 y2 _) ?_; rintro e w2 ⟨rfl, hb2⟩; rw [HV.out]; have S2 := HS1.out.next hb2; have HS2 := Lib.hid S2; obtain ⟨m0, m1, m2, c0, c1, d0, d1, k9, _⟩ := S2; clear hb2 t0 t1 t2 a0 a1 b0 b1 l9)
      | (go_at_call_of 93 (Value.slice AX X.length cx); refine Calls.mono (HBX.out _ HS2.out.b) ?_; rintro e w3 ⟨rfl, hb3⟩; rw [HX.out]))
    go_ret
    exact ⟨rfl, HS2.out.b.trans (hb3.mono HS2.out.b.size)⟩
  | true =>
  have HX := Lib.hid (show btB X x1 x2 = true by rw [btB_onB hvx]; exact hX)
  cases hY : onB Y [y1, y2] with
  | false =>
    rw [show cbE X Y V x1 x2 y1 y2 = 1 by unfold cbE; rw [hct]; simp only [List.all_cons, List.all_nil, Bool.and_true, vS_vI, hv, hX, hY]; rfl]
    have HY := Lib.hid (show btB Y y1 y2 = false by rw [btB_onB hvy]; exact hY)
    clear hct hv ha hb hlv hX hY hvx hvy
    go_enter Try.func63, Try.ntmps63
    go_wp2_with (first
      | (go_at_call 24; refine Calls.mono (HCT.out _ (by go_grown)) ?_; rintro e w1 ⟨rfl, hb1⟩; rw [HE.out]; have S1 := HS0.out.next hb1; have HS1 := Lib.hid S1; obtain ⟨t0, t1, t2, a0, a1, b0, b1, l9, _⟩ := S1; clear hb1)
      | (go_at_call 70; refine Calls.mono (two_any x1 x2 y1 y2 _) ?_; rintro e w2 ⟨rfl, hb2⟩; rw [HV.out]; have S2 := HS1.out.next hb2; have HS2 := Lib.hid S2; obtain ⟨m0, m1, m2, c0, c1, d0, d1, k9, _⟩ := S2; clear hb2 t0 t1 t2 a0 a1 b0 b1 l9)
      | (go_at_call_of 93 (Value.slice AX X.length cx); refine Calls.mono (HBX.out _ HS2.out.b) ?_; rintro e w3 ⟨rfl, hb3⟩; rw [HX.out]; have S3' := HS2.out.next hb3; have HS3 := Lib.hid S3'; obtain ⟨n0, n1, n2, c2, c3, d2, d3, j9, _⟩ := S3'; clear hb3 m0 m1 m2 c0 c1 d0 d1 k9)
      | (go_at_call_of 93 (Value.slice AY Y.length cy); refine Calls.mono (HBY.out _ HS3.out.b) ?_; rintro e w4 ⟨rfl, hb4⟩; rw [HY.out]))
    go_ret
    exact ⟨rfl, HS3.out.b.trans (hb4.mono HS3.out.b.size)⟩
  | true =>
    rw [show cbE X Y V x1 x2 y1 y2 = 0 by unfold cbE; rw [hct]; simp only [List.all_cons, List.all_nil, Bool.and_true, vS_vI, hv, hX, hY]; rfl]
    have HY := Lib.hid (show btB Y y1 y2 = true by rw [btB_onB hvy]; exact hY)
    clear hct hv ha hb hlv hX hY hvx hvy
    go_enter Try.func63, Try.ntmps63
    go_wp2_with (first
      | (go_at_call 24; refine Calls.mono (HCT.out _ (by go_grown)) ?_; rintro e w1 ⟨rfl, hb1⟩; rw [HE.out]; have S1 := HS0.out.next hb1; have HS1 := Lib.hid S1; obtain ⟨t0, t1, t2, a0, a1, b0, b1, l9, _⟩ := S1; clear hb1)
      | (go_at_call 70; refine Calls.mono (two_any x1 x2 y1 y2 _) ?_; rintro e w2 ⟨rfl, hb2⟩; rw [HV.out]; have S2 := HS1.out.next hb2; have HS2 := Lib.hid S2; obtain ⟨m0, m1, m2, c0, c1, d0, d1, k9, _⟩ := S2; clear hb2 t0 t1 t2 a0 a1 b0 b1 l9)
      | (go_at_call_of 93 (Value.slice AX X.length cx); refine Calls.mono (HBX.out _ HS2.out.b) ?_; rintro e w3 ⟨rfl, hb3⟩; rw [HX.out]; have S3' := HS2.out.next hb3; have HS3 := Lib.hid S3'; obtain ⟨n0, n1, n2, c2, c3, d2, d3, j9, _⟩ := S3'; clear hb3 m0 m1 m2 c0 c1 d0 d1 k9)
      | (go_at_call_of 93 (Value.slice AY Y.length cy); refine Calls.mono (HBY.out _ HS3.out.b) ?_; rintro e w4 ⟨rfl, hb4⟩; rw [HY.out]))
    go_ret
    exact ⟨rfl, HS3.out.b.trans (hb4.mono HS3.out.b.size)⟩

set_option maxRecDepth 100000 in
set_option maxHeartbeats 1000000 in
theorem rBound_any (AX AY AV : Option Addr) (nx cx ny cy nv cv B : Nat) (X Y : List Int) (V : List (List Int)) (x1 x2 y1 y2 : Int) (w : World) (hx : X.length = nx) (hy : Y.length = ny) (hv : V.length = nv) (hnx : nx ≤ maxLen) (hny : ny ≤ maxLen) (hnv : nv ≤ maxLen) (hnr : ∀ r ∈ V, r.length ≤ maxLen)
    (hB : B ≤ w.heap.size) (h : TB w B AX AY AV X Y V) :
    Calls Try.prog 50 #[.agg #[.slice AX nx cx, .slice AY ny cy, .slice AV nv cv], .agg #[.int .i64 x1, .int .i64 x2], .agg #[.int .i64 y1, .int .i64 y2]] w fun e w' =>
      e = .returned (.tuple #[.agg #[.int .i64 (bndS X Y V x1 x2 y1 y2).1.1, .int .i64 (bndS X Y V x1 x2 y1 y2).1.2], .int .i64 (bndS X Y V x1 x2 y1 y2).2]) ∧ Below w.heap.size w w' := by
  subst hx hy hv
  have HT := Lib.hid h
  have HCB := Lib.hid (fun (W : World) (hW : Below w.heap.size w W) => checkBound_any AX AY AV _ cx _ cy _ cv B X Y V x1 x2 y1 y2 W rfl rfl rfl hnx hny hnv hnr (by have := hW.size; omega) (h.below (hW.mono hB)))
  have S0 := (S3.start w AX AY AV X.length cx Y.length cy V.length cv x1 x2 y1 y2 27 37 37).next ((Below.refl _ _).alloc (Nat.le_refl _) (.cells #[.int .i64 0, .int .i64 0] 37))
  have R0 := R2.start w (.cells #[.slice AX X.length cx, .slice AY Y.length cy, .slice AV V.length cv] 27) (.cells #[.int .i64 x1, .int .i64 x2] 37) (.cells #[.int .i64 y1, .int .i64 y2] 37) 37
  have HS0 := Lib.hid S0
  have HR0 := Lib.hid R0
  clear h S0 R0
  by_cases hc : cbE X Y V x1 x2 y1 y2 = 0
  · obtain ⟨hct, _, _, ox1, ox2, oy1, oy2⟩ := cbE_ok hc
    have HBD := Lib.hid (fun (W : World) (hW : Below w.heap.size w W) => rbound_any AX AY AV _ cx _ cy _ cv B X Y V x1 x2 y1 y2 W rfl rfl rfl (by have := hW.size; omega) (HT.out.below (hW.mono hB)) hct ox1 ox2 oy1 oy2)
    rw [show bndS X Y V x1 x2 y1 y2 = (bndL (cornersL X Y V (endsL X x1 x2) (endsL Y y1 y2)), 0) by unfold bndS; rw [if_pos hc]]
    have HC := Lib.hid hc
    clear hc hct ox1 ox2 oy1 oy2
    generalize bndL (cornersL X Y V (endsL X x1 x2) (endsL Y y1 y2)) = bl at *
    go_enter Try.func50, Try.ntmps50
    go_wp2_with (first
      | (go_at_call 63; refine Calls.mono (HCB.out _ (by go_grown)) ?_; rintro e w1 ⟨rfl, hb1⟩; rw [HC.out]; have S1 := HS0.out.next hb1; have R1 := HR0.out.next hb1; have HS1 := Lib.hid S1; have HR1 := Lib.hid R1; obtain ⟨t0, t1, t2, a0, a1, b0, b1, l9, _⟩ := S1; clear hb1 R1)
      | (go_at_call 97; refine Calls.mono (HBD.out _ HS1.out.b) ?_; rintro e w2 ⟨rfl, hb2⟩; have HB2 := Lib.hid (HS1.out.b.trans (hb2.mono HS1.out.b.size)); have R2' := HR1.out.next hb2; have HR2 := Lib.hid R2'; obtain ⟨r0, r1, z0, z1⟩ := R2'; have l8 : w.heap.size + 1 + 1 + 1 < w2.heap.size := World.block_lt_of_cell? _ _ r0; clear hb2 t0 t1 t2 a0 a1 b0 b1 l9))
    obtain ⟨y1, y2, y3⟩ := HR2.out.res HB2.out
    refine bodyPost_ret (v := .tuple #[.agg #[.int .i64 bl.1, .int .i64 bl.2], .int .i64 0]) (by simp [results, Try.results50, go_sem, y1, y2]) rfl ?_
    exact ⟨rfl, y3 _ _⟩
  · rw [show bndS X Y V x1 x2 y1 y2 = ((0, 0), cbE X Y V x1 x2 y1 y2) by unfold bndS; rw [if_neg hc]]
    generalize cbE X Y V x1 x2 y1 y2 = c at *
    have hc' : (c != 0) = true := by rw [bne_iff_ne]; exact hc
    clear hc
    go_enter Try.func50, Try.ntmps50
    go_wp2_with (go_at_call 63; refine Calls.mono (HCB.out _ (by go_grown)) ?_; rintro e w1 ⟨rfl, hb1⟩; have S1 := HS0.out.next hb1; have R1 := HR0.out.next hb1; have HS1 := Lib.hid S1; have HR1 := Lib.hid R1; obtain ⟨r0, r1, z0, z1⟩ := R1; have l8 : w.heap.size + 1 + 1 + 1 < w1.heap.size := World.block_lt_of_cell? _ _ r0; clear hb1 S1)
    obtain ⟨y1, y2, y3⟩ := HR1.out.res HS1.out.b
    refine bodyPost_ret (v := .tuple #[.agg #[.int .i64 0, .int .i64 0], .int .i64 c]) (by simp [results, Try.results50, go_sem, y1, y2]) rfl ?_
    exact ⟨rfl, y3 _ _⟩

end Go.Proofs.Ytjdahphnmeaolaa

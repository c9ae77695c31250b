/- The reference's Greatest. -/
import Derived.Test.YtjdahphnmeaolaaGmath
namespace Go.Proofs.Ytjdahphnmeaolaa
open Go.RowKit

theorem vI_le {a b : Int} (h : vI a b = true) : a ≤ b := by
  unfold vI at h
  simp at h
  omega
theorem endsL_point (X : List Int) (x : Int) : endsL X x x = [x] := by
  unfold endsL
  have : (X.filter fun n => decide (x < n) && decide (n < x)) = [] := by
    rw [List.filter_eq_nil_iff]
    intro a _
    simp
    omega
  rw [this]
  simp
theorem cl_le {N D lim : Int} (h : 1 ≤ D) : cl N D ≤ lim ↔ N ≤ lim * D := by
  unfold cl
  have := Int.le_ediv_iff_mul_le (a := -lim) (b := -N) (c := D) (by omega)
  have e : -lim * D = -(lim * D) := by grind
  rw [e] at this
  constructor
  · intro h
    have := this.1 (by omega)
    omega
  · intro h
    have := this.2 (by omega)
    omega
theorem bnd_map {X Y : List Int} {V : List (List Int)} {x lim : Int} (l : List Int) (s : Int × Int) : ((l.map (cnOf X Y V x)).foldl bndStep s).2 ≤ lim ↔ s.2 ≤ lim ∧ ∀ y ∈ l, cl (atN X Y V x y) (atD X Y x y) ≤ lim := by
  induction l generalizing s with
  | nil => simp
  | cons a l ih =>
    rw [List.map_cons, List.foldl_cons, ih]
    simp only [bndStep, cnOf, List.mem_cons, forall_eq_or_imp, Int.max_le]
    exact and_assoc
/-- The upper end of the bound at one x. -/
def bndX (X Y : List Int) (V : List (List Int)) (y1 y2 x : Int) : Int := (bndL (cornersL X Y V (endsL X x x) (endsL Y y1 y2))).2

theorem cl_bd {X Y : List Int} {V : List (List Int)} {x y : Int} (h : ctB X Y V = true) (hx : On X x) (hy : On Y y) : -1000000 ≤ cl (atN X Y V x y) (atD X Y x y) ∧ cl (atN X Y V x y) (atD X Y x y) ≤ 1000000 := by
  obtain ⟨g1, g2, g3, g4⟩ := good_of (V := V) h hx hy
  simp only [cnOf] at g1 g2 g3 g4
  constructor
  · have : (-(atN X Y V x y)) / atD X Y x y ≤ 1000000 := Int.ediv_le_of_le_mul (by omega) (by omega)
    unfold cl
    omega
  · exact (cl_le g1).2 (by omega)

theorem bndX_iff {X Y : List Int} {V : List (List Int)} {y1 y2 x lim : Int} (h : ctB X Y V = true) (hx : On X x) (h1 : On Y y1) (h2 : On Y y2) : bndX X Y V y1 y2 x ≤ lim ↔ AllLe X Y V y1 y2 lim x := by
  obtain ⟨ha, hb, _, _⟩ := ctB_get h
  have ho := endsL_on h1 h2
  unfold bndX
  rw [endsL_point]
  unfold bndL cornersL
  simp only [List.flatMap_cons, List.flatMap_nil, List.append_nil]
  rw [bnd_map]
  unfold AllLe Le
  constructor
  · rintro ⟨_, h3⟩ y hy
    exact (cl_le (atD_bd ha hb hx (ho y hy)).1).1 (h3 y hy)
  · intro h3
    refine ⟨?_, fun y hy => (cl_le (atD_bd ha hb hx (ho y hy)).1).2 (h3 y hy)⟩
    have hm : y1 ∈ endsL Y y1 y2 := by unfold endsL; simp
    have := (cl_le (atD_bd ha hb hx h1).1).2 (h3 y1 hm)
    have := (cl_bd h hx h1).1
    simp only
    omega
theorem clamp_iff {X Y : List Int} {V : List (List Int)} {y1 y2 x lim : Int} (h : ctB X Y V = true) (hx : On X x) (h1 : On Y y1) (h2 : On Y y2) : AllLe X Y V y1 y2 (min (max lim (-1000001)) 1000000) x ↔ AllLe X Y V y1 y2 lim x := by
  obtain ⟨ha, hb, _, _⟩ := ctB_get h
  have ho := endsL_on h1 h2
  unfold AllLe Le
  constructor
  · intro h3 y hy
    have hd := (atD_bd ha hb hx (ho y hy)).1
    have := (cl_le hd).2 (h3 y hy)
    have := cl_bd h hx (ho y hy)
    exact (cl_le hd).1 (by omega)
  · intro h3 y hy
    have hd := (atD_bd ha hb hx (ho y hy)).1
    have := (cl_le hd).2 (h3 y hy)
    have := cl_bd h hx (ho y hy)
    exact (cl_le hd).1 (by omega)

theorem on_of {X : List Int} {x : Int} (h0 : gz X 0 ≤ x) (h1 : x ≤ gz X (X.length - 1)) : On X x := ⟨h0, h1⟩
theorem grS_is {X Y : List Int} {V : List (List Int)} {y1 y2 lim : Int} (h : ctB X Y V = true) (hv : vI y1 y2 = true) (h1 : On Y y1) (h2 : On Y y2) : IsG (gz X 0) (gz X (X.length - 1)) (fun x => bndX X Y V y1 y2 x ≤ lim) (grS X Y V y1 y2 lim) := by
  obtain ⟨ha, hb, _, _⟩ := ctB_get h
  obtain ⟨l1, l2, _, _⟩ := axB_get ha
  have ev : [(y1, y2)].all vS = true := by simp only [List.all_cons, List.all_nil, Bool.and_true, vS_vI]; exact hv
  have eo : onB Y [y1, y2] = true := by
    have a := h1.1; have b := h1.2; have c := h2.1; have d := h2.2
    unfold gz at a b c d
    unfold onB wB
    simp
    omega
  have e : grS X Y V y1 y2 lim = grGo X Y V y1 y2 (min (max lim (-1000001)) 1000000) (X.length - 1) := by unfold grS; rw [h, ev, eo]; rfl
  rw [e]
  rcases grGo_is (V := V) (lim := min (max lim (-1000001)) 1000000) ha hb h1 h2 (X.length - 1) (by omega) (by omega) with h0 | hg
  · omega
  · refine hg.iff fun x hx hx' => ?_
    rw [clamp_iff h (on_of hx hx') h1 h2, bndX_iff h (on_of hx hx') h1 h2]

theorem run_field_high (a b : Int) (W : World) : (Instr.field 37 (.agg #[.int .i64 a, .int .i64 b]) 1).run Try.prog W = .ok (.int .i64 b) W := by
  simp [Instr.field, go_sem, asAgg]

set_option maxRecDepth 100000 in
set_option maxHeartbeats 2000000 in
theorem rgreatest_any (AX AY AV : Option Addr) (nx cx ny cy nv cv B : Nat) (X Y : List Int) (V : List (List Int)) (y1 y2 lim : Int) (w : World) (hx : X.length = nx) (hy : Y.length = ny) (hv : V.length = nv) (hnx : nx ≤ maxLen) (hny : ny ≤ maxLen) (hnv : nv ≤ maxLen) (hnr : ∀ r ∈ V, r.length ≤ maxLen)
    (hB : B ≤ w.heap.size) (h : TB w B AX AY AV X Y V) :
    Calls Try.prog 56 #[.agg #[.slice AX nx cx, .slice AY ny cy, .slice AV nv cv], .agg #[.int .i64 y1, .int .i64 y2], .int .i64 lim] w fun e w' =>
      e = .returned (.tuple #[.int .i64 (grS X Y V y1 y2 lim).1, .int .i64 (grS X Y V y1 y2 lim).2]) ∧ Below w.heap.size w w' := by
  subst hx hy hv
  have HT := Lib.hid h
  have HCT := Lib.hid (fun (W : World) (hW : Below w.heap.size w W) => rct_any AX AY AV _ cx _ cy _ cv B X Y V W rfl rfl rfl hnx hny hnv hnr (by have := hW.size; omega) (h.below (hW.mono hB)))
  clear h
  cases hct : ctB X Y V with
  | false =>
    rw [show grS X Y V y1 y2 lim = (0, 11) by unfold grS; rw [hct]; rfl]
    have HE := Lib.hid (ctE_no hct)
    clear hct
    go_enter Try.func56, Try.ntmps56
    go_wp2_with (go_at_call 24; refine Calls.mono (HCT.out _ (by go_grown)) ?_; rintro e w1 ⟨rfl, hb1⟩; rw [HE.out])
    go_ret2
    exact ⟨rfl, Below.trans (by go_grown) (hb1.mono (by simp <;> omega))⟩
  | true =>
  obtain ⟨ha, hb, hlv, _⟩ := ctB_get hct
  obtain ⟨l1, l2, _, _⟩ := axB_get ha
  obtain ⟨l3, l4, _, _⟩ := axB_get hb
  have HE := Lib.hid (ctE_yes hct)
  cases hv : vI y1 y2 with
  | false =>
    rw [show grS X Y V y1 y2 lim = (0, 10) by unfold grS; rw [hct]; simp only [List.all_cons, List.all_nil, Bool.and_true, vS_vI, hv]; rfl]
    have HV := Lib.hid hv
    clear hct hv ha hb hlv
    go_enter Try.func56, Try.ntmps56
    go_wp2_with (first
      | (go_at_call 24; refine Calls.mono (HCT.out _ (by go_grown)) ?_; rintro e w1 ⟨rfl, hb1⟩; rw [HE.out]; have s0 : w1.cell? ⟨w.heap.size + 1, 0, none⟩ = some (.int .i64 y1) := cell_keep hb1 (by go_simp); have s1 : w1.cell? ⟨w.heap.size + 1, 1, none⟩ = some (.int .i64 y2) := cell_keep hb1 (by go_simp); have hbw1 : Below w.heap.size w w1 := Below.trans (by go_grown) (hb1.mono (by simp <;> omega)); have HB1 := Lib.hid hbw1; clear hb1 hbw1)
      | (go_at_call 57; refine Calls.mono (rvalid_any y1 y2 _) ?_; rintro e w2 ⟨rfl, hb2⟩; rw [HV.out]))
    go_ret2
    exact ⟨rfl, HB1.out.trans (hb2.mono HB1.out.size)⟩
  | true =>
  have HV := Lib.hid hv
  have HBT := Lib.hid (fun (W : World) (hW : Below w.heap.size w W) => between_any AY _ cy B Y y1 y2 W rfl (by omega) (by omega) (by have := hW.size; omega) (HT.out.y.below (hW.mono hB)))
  cases hbt : btB Y y1 y2 with
  | false =>
    rw [show grS X Y V y1 y2 lim = (0, 1) by
      unfold grS
      rw [hct]
      simp only [List.all_cons, List.all_nil, Bool.and_true, vS_vI, hv]
      have : onB Y [y1, y2] = false := by
        have hle : y1 ≤ y2 := vI_le hv
        unfold btB gz at hbt
        unfold onB wB
        simp at hbt ⊢
        omega
      rw [this]
      rfl]
    have HT2 := Lib.hid hbt
    clear hct hv ha hb hlv hbt
    go_enter Try.func56, Try.ntmps56
    go_wp2_with (first
      | (go_at_call 24; refine Calls.mono (HCT.out _ (by go_grown)) ?_; rintro e w1 ⟨rfl, hb1⟩; rw [HE.out]; have s0 : w1.cell? ⟨w.heap.size + 1, 0, none⟩ = some (.int .i64 y1) := cell_keep hb1 (by go_simp); have s1 : w1.cell? ⟨w.heap.size + 1, 1, none⟩ = some (.int .i64 y2) := cell_keep hb1 (by go_simp); have s2 : w1.cell? ⟨w.heap.size, 1, none⟩ = some (.slice AY Y.length cy) := cell_keep hb1 (by go_simp); have hbw1 : Below w.heap.size w w1 := Below.trans (by go_grown) (hb1.mono (by simp <;> omega)); have HB1 := Lib.hid hbw1; clear hb1 hbw1)
      | (go_at_call 57; refine Calls.mono (rvalid_any y1 y2 _) ?_; rintro e w2 ⟨rfl, hb2⟩; rw [HV.out]; have r0 := cell_keep hb2 s0; have r1 := cell_keep hb2 s1; have r2 := cell_keep hb2 s2; have HB2 := Lib.hid (HB1.out.trans (hb2.mono HB1.out.size)); clear hb2 s0 s1 s2)
      | (go_at_call 93; refine Calls.mono (HBT.out _ HB2.out) ?_; rintro e w3 ⟨rfl, hb3⟩; rw [HT2.out]))
    go_ret2
    exact ⟨rfl, HB2.out.trans (hb3.mono HB2.out.size)⟩
  | true =>
  have hoy : On Y y1 ∧ On Y y2 := by
    have hle : y1 ≤ y2 := vI_le hv
    unfold btB at hbt
    simp at hbt
    exact ⟨⟨by omega, by omega⟩, ⟨by omega, by omega⟩⟩
  have hG := grS_is (lim := lim) hct hv hoy.1 hoy.2
  have HT2 := Lib.hid hbt
  have HBD := Lib.hid (fun (W : World) (hW : Below w.heap.size w W) (x : Int) (h0 : gz X 0 ≤ x) (h1 : x ≤ gz X (X.length - 1)) => rbound_any AX AY AV _ cx _ cy _ cv B X Y V x x y1 y2 W rfl rfl rfl (by have := hW.size; omega) (HT.out.below (hW.mono hB)) hct (on_of h0 h1) (on_of h0 h1) hoy.1 hoy.2)
  have hxb0 := gz_bd (axB_get ha).2.2.1 (k := 0) (by omega)
  have hxb1 := gz_bd (axB_get ha).2.2.1 (k := X.length - 1) (by omega)
  have HXO := Lib.hid (knot_on ha (i := 0) (by omega))
  obtain ⟨bx, ox, xa, hAX, hbx, hxa, hcx0⟩ := HT.out.x.at_ (k := 0) (by omega)
  obtain ⟨bx2, ox2, xb, hA, _, hxb, hcx1⟩ := HT.out.x.at_ (k := X.length - 1) (by omega)
  obtain ⟨rfl, rfl⟩ : bx = bx2 ∧ ox = ox2 := by rw [hAX] at hA; simpa using hA
  rw [gz_of hxa] at hG HBD hxb0 HXO
  rw [gz_of hxb] at hG HBD hxb1
  have hle0 : xa ≤ xb := by have := HXO.out.2; rw [gz_of hxb] at this; exact this
  have HG := Lib.hid hG
  subst hAX
  have i0 : 0 < X.length := by omega
  have i1 : IntKind.i64.wrap ((X.length : Int) - 1) = (X.length : Int) - 1 := IntWalk.i64_in _ (by omega)
  have i2 : ((X.length : Int) - 1).toNat = X.length - 1 := by omega
  have i3 : (0 : Int) ≤ (X.length : Int) - 1 := by omega
  have i4 : (X.length : Int) - 1 < (X.length : Int) := by omega
  have i5 : (1 : Int) ≤ X.length := by omega
  simp only [Nat.add_zero] at hcx0
  have hbxw : bx < w.heap.size := by omega
  clear hct hv ha hb hlv hbt hoy hG hA hxa hxb HXO
  go_enter Try.func56, Try.ntmps56
  go_upto_region 8 with (first
    | (go_at_call 24; refine Calls.mono (HCT.out _ (by go_grown)) ?_; rintro e w1 ⟨rfl, hb1⟩; rw [HE.out]; have s0 : w1.cell? ⟨w.heap.size + 1, 0, none⟩ = some (.int .i64 y1) := cell_keep hb1 (by go_simp); have s1 : w1.cell? ⟨w.heap.size + 1, 1, none⟩ = some (.int .i64 y2) := cell_keep hb1 (by go_simp); have s2 : w1.cell? ⟨w.heap.size, 1, none⟩ = some (.slice AY Y.length cy) := cell_keep hb1 (by go_simp); have s3 : w1.cell? ⟨w.heap.size, 0, none⟩ = some (.slice (some ⟨bx, ox, none⟩) X.length cx) := cell_keep hb1 (by go_simp); have s4 : w1.cell? ⟨w.heap.size, 2, none⟩ = some (.slice AV V.length cv) := cell_keep hb1 (by go_simp); have hbw1 : Below w.heap.size w w1 := Below.trans (by go_grown) (hb1.mono (by simp <;> omega)); have HB1 := Lib.hid hbw1; clear hb1 hbw1)
    | (go_at_call 57; refine Calls.mono (rvalid_any y1 y2 _) ?_; rintro e w2 ⟨rfl, hb2⟩; rw [HV.out]; have r0 := cell_keep hb2 s0; have r1 := cell_keep hb2 s1; have r2 := cell_keep hb2 s2; have r3 := cell_keep hb2 s3; have r4 := cell_keep hb2 s4; have HB2 := Lib.hid (HB1.out.trans (hb2.mono HB1.out.size)); clear hb2 s0 s1 s2 s3 s4)
    | (go_at_call 93; refine Calls.mono (HBT.out _ HB2.out) ?_; rintro e w3 ⟨rfl, hb3⟩; rw [HT2.out]; have q0 := cell_keep hb3 r0; have q1 := cell_keep hb3 r1; have q2 := cell_keep hb3 r2; have q3 := cell_keep hb3 r3; have q4 := cell_keep hb3 r4; have HB3 := Lib.hid (HB2.out.trans (hb3.mono HB2.out.size)); clear hb3 r0 r1 r2 r3 r4))
  have x0 : w3.cell? ⟨bx, ox, none⟩ = some (.int .i64 xa) := (HB3.out.cell (p := ⟨bx, ox, none⟩) hbxw).trans hcx0
  have x1 : w3.cell? ⟨bx, ox + (X.length - 1), none⟩ = some (.int .i64 xb) := (HB3.out.cell (p := ⟨bx, ox + (X.length - 1), none⟩) hbxw).trans hcx1
  clear hcx0 hcx1 HBT HCT HE HV HT2
  have HTB := Lib.hid (HT.out.below (HB3.out.mono hB))
  have l9 : w.heap.size + 1 < w3.heap.size := World.block_lt_of_cell? _ _ q0
  have hfh := run_field_high
  go_wp2_with fail
  go_loopw [9] (fun i wr => ∃ x : Int, i = .int .i64 x ∧ xa - 1 ≤ x ∧ x ≤ xb ∧ (∀ z, x < z → z ≤ xb → ¬ bndX X Y V y1 y2 z ≤ lim) ∧ Below w3.heap.size w3 wr) (fun i _ => (intOf i - xa + 1).toNat)
  case atStart => exact ⟨xb, rfl, by omega, by omega, fun z _ _ => by omega, Below.refl _ _⟩
  case round =>
    obtain ⟨x, rfl, hx0, hx1, hno, hbr⟩ := hrel
    have c3 := cell_keep hbr q3
    have c2 := cell_keep hbr q2
    have c4 := cell_keep hbr q4
    have c0 := cell_keep hbr q0
    have c1 := cell_keep hbr q1
    have cx0 := cell_keep hbr x0
    have HBR := Lib.hid (HB3.out.trans (hbr.mono HB3.out.size))
    have HBR3 := Lib.hid hbr
    have HNO := Lib.hid hno
    clear hbr hno
    by_cases hge : xa ≤ x
    · have HB9 := Lib.hid (fun (W : World) (hW : Below w.heap.size w W) => HBD.out W hW x hge hx1)
      have iw : IntKind.i64.wrap (x - 1) = x - 1 := IntWalk.i64_in _ (by omega)
      by_cases hP : bndX X Y V y1 y2 x ≤ lim
      · have he : (x, 0) = grS X Y V y1 y2 lim := IsG.unique (.inl ⟨rfl, hge, hx1, hP, HNO.out⟩) HG.out
        have HEQ := Lib.hid he
        unfold bndX at hP
        clear he
        go_wp2_with (go_at_call 97; refine Calls.mono (HB9.out _ HBR.out) ?_; rintro e w9 ⟨rfl, hb9⟩)
        go_ret2
        exact ⟨by rw [← HEQ.out]; rfl, HBR.out.trans (hb9.mono HBR.out.size)⟩
      · have hP' := hP
        unfold bndX at hP'
        have HP := Lib.hid hP
        clear hP
        go_wp2_with (go_at_call 97; refine Calls.mono (HB9.out _ HBR.out) ?_; rintro e w9 ⟨rfl, hb9⟩)
        go_roundw
        case rel => exact ⟨x - 1, rfl, by omega, by omega, fun z hz hz' => by
            by_cases e : z = x
            · rw [e]; have := HP.out; omega
            · have := HNO.out z (by omega) hz'; omega, HBR3.out.trans (hb9.mono HBR3.out.size)⟩
        case measure => simp [intOf]; omega
    · have he : ((0, 3) : Int × Int) = grS X Y V y1 y2 lim := IsG.unique (.inr ⟨rfl, fun z hz hz' => HNO.out z (by omega) hz'⟩) HG.out
      have HEQ := Lib.hid he
      clear he
      go_wp2_with fail
      go_ret2
      exact ⟨by rw [← HEQ.out]; rfl, HBR.out⟩

end Go.Proofs.Ytjdahphnmeaolaa

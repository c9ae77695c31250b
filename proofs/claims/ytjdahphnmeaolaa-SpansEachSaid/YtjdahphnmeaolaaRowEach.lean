/- swashplatelaw01.SpansEach answers true at every input. -/
import Derived.Test.YtjdahphnmeaolaaEach
namespace Go.Proofs.Ytjdahphnmeaolaa
open Go.RowKit

theorem fl_part {a x n k : Int} (h1 : a ≤ x) (h2 : 0 ≤ n) (h3 : 1 ≤ k) : fl (a * n) k * k ≤ x * n := by
  have e := Int.emod_add_mul_ediv (a * n) k
  have e1 := Int.emod_nonneg (a * n) (b := k) (by omega)
  have m := Int.mul_le_mul_of_nonneg_right h1 h2
  unfold fl
  rw [Int.mul_comm]
  omega
theorem cl_part {b x n k : Int} (h1 : x ≤ b) (h2 : 0 ≤ n) (h3 : 1 ≤ k) : x * n ≤ cl (b * n) k * k := by
  have e := Int.emod_add_mul_ediv (-(b * n)) k
  have e1 := Int.emod_nonneg (-(b * n)) (b := k) (by omega)
  have m := Int.mul_le_mul_of_nonneg_right h1 h2
  unfold cl
  rw [Int.neg_mul, Int.mul_comm (-(b * n) / k) k]
  omega

theorem madeS_or (a b : Int) : (madeS a b).2 = 0 ∧ (madeS a b).1.1 = a ∧ (madeS a b).1.2 = b ∨ (madeS a b).2 = 2 := by
  unfold madeS
  split
  · exact .inl ⟨rfl, rfl, rfl⟩
  · exact .inr rfl

set_option maxRecDepth 100000 in
set_option maxHeartbeats 4000000 in
theorem law_each (a b c d v0 v1 v2 v3 : Int) (w : World) : Calls Try.prog 13 #[.agg #[.int .i64 a, .int .i64 b], .agg #[.int .i64 c, .int .i64 d], .agg #[.int .i64 v0, .int .i64 v1, .int .i64 v2, .int .i64 v3]] w fun e w' => e = .returned (.bool true) ∧ Below w.heap.size w w' := by
  have HW := Lib.hid works_any
  cases h1 : vI a b with
  | false =>
    have H1 := Lib.hid h1
    clear h1
    go_enter Try.func13, Try.ntmps13
    go_wp2_with (first
      | (go_at_call 57; refine Calls.mono (rvalid_any a b _) ?_; rintro e w1 ⟨rfl, hb1⟩; rw [H1.out]; have hz := hb1.size; simp at hz)
      | (go_at_call 18; refine Calls.mono (HW.out _) ?_; rintro e w2 ⟨rfl, hb2⟩))
    go_ret
    exact ⟨rfl, (Below.trans (by go_grown) (hb1.mono (by simp <;> omega))).trans (hb2.mono (by omega))⟩
  | true =>
  cases h2 : vI c d with
  | false =>
    have H1 := Lib.hid h1
    have H2 := Lib.hid h2
    clear h1 h2
    go_enter Try.func13, Try.ntmps13
    go_wp2_with (first
      | (go_at_call_of 57 (Value.agg #[.int .i64 a, .int .i64 b]); refine Calls.mono (rvalid_any a b _) ?_; rintro e w1 ⟨rfl, hb1⟩; rw [H1.out]; have s2 : w1.cell? ⟨w.heap.size + 1, 0, none⟩ = some (.int .i64 c) := cell_keep hb1 (by go_simp); have s3 : w1.cell? ⟨w.heap.size + 1, 1, none⟩ = some (.int .i64 d) := cell_keep hb1 (by go_simp); have hbw : Below w.heap.size w w1 := Below.trans (by go_grown) (hb1.mono (by simp <;> omega)); have HBW := Lib.hid hbw; clear hb1 hbw)
      | (go_at_call 57; refine Calls.mono (rvalid_any c d _) ?_; rintro e w3 ⟨rfl, hb3⟩; rw [H2.out])
      | (go_at_call 18; refine Calls.mono (HW.out _) ?_; rintro e w2 ⟨rfl, hb2⟩))
    go_ret
    have z1 := HBW.out.size
    have z3 := hb3.size
    exact ⟨rfl, (HBW.out.trans (hb3.mono z1)).trans (hb2.mono (by omega))⟩
  | true =>
  obtain ⟨i1, i2, i3, i4, i5, i6⟩ := vI_both (a := a) (b := b) (c := c) (d := d) (by rw [h1, h2]; rfl)
  have hx0 := wS_in (v := v0) i5
  have hy0 := wS_in (v := v1) i6
  have hn0 := wS_in (v := v2) (lo := 0) (hi := 1000) (by omega)
  have hk0 := wS_in (v := v3) (lo := 1) (hi := 1000) (by omega)
  have hX := fun W => wthn_any v0 a b W (by omega) (by omega) i5
  have hY := fun W => wthn_any v1 c d W (by omega) (by omega) i6
  have hN := fun W => wthn_any v2 0 1000 W (by omega) (by omega) (by omega)
  have hK := fun W => wthn_any v3 1 1000 W (by omega) (by omega) (by omega)
  generalize wS v0 a b = x at *
  generalize wS v1 c d = y at *
  generalize wS v2 0 1000 = n at *
  generalize wS v3 1 1000 = k at *
  obtain ⟨x1, x2⟩ := hx0
  obtain ⟨y1, y2⟩ := hy0
  obtain ⟨n1, n2⟩ := hn0
  obtain ⟨k1, k2⟩ := hk0
  have hA := fun W => add_any a b c d W
  have hT := fun W => times_any a b c d W
  have hP := fun W => part_span_any a b n k W
  have hPr := fun v W => prod_any v a b c d W i1 i2 i3 i4
  have eA : addS a b c d = madeS (a + c) (b + d) := by unfold addS; rw [h1, h2]; rfl
  have eT : timesS a b c d = madeS (min (a * c) (min (a * d) (min (b * c) (b * d)))) (max (a * c) (max (a * d) (max (b * c) (b * d)))) := by unfold timesS; rw [h1, h2]; rfl
  have eP : partS a b n k = madeS (fl (a * n) k) (cl (b * n) k) := by unfold partS; rw [h1, if_pos rfl, if_pos ⟨⟨n1, n2⟩, k1, k2⟩]
  rw [eA] at hA
  rw [eT] at hT
  rw [eP] at hP
  have mA := madeS_or (a + c) (b + d)
  have mT := madeS_or (min (a * c) (min (a * d) (min (b * c) (b * d)))) (max (a * c) (max (a * d) (max (b * c) (b * d))))
  have mP := madeS_or (fl (a * n) k) (cl (b * n) k)
  have pL : prodS (min (a * c) (min (a * d) (min (b * c) (b * d)))) a b c d = true := by unfold prodS; simp; omega
  have pH : prodS (max (a * c) (max (a * d) (max (b * c) (b * d)))) a b c d = true := by unfold prodS; simp; omega
  have f34 := mul_in x1 x2 y1 y2
  have hPL := hPr (min (a * c) (min (a * d) (min (b * c) (b * d))))
  have hPH := hPr (max (a * c) (max (a * d) (max (b * c) (b * d))))
  rw [pL] at hPL
  rw [pH] at hPH
  have f5 := fl_part x1 n1 k1 (k := k)
  have f6 := cl_part x2 n1 k1 (k := k)
  have bxy := mul_bd3 (a := x) (c := y) (M := 1000000) (N := 1000000) (by omega) (by omega) (by omega) (by omega) (by omega)
  have bxn := mul_bd3 (a := x) (c := n) (M := 1000000) (N := 1000) (by omega) (by omega) (by omega) (by omega) (by omega)
  have ban := mul_bd3 (a := a) (c := n) (M := 1000000) (N := 1000) (by omega) (by omega) (by omega) (by omega) (by omega)
  have bbn := mul_bd3 (a := b) (c := n) (M := 1000000) (N := 1000) (by omega) (by omega) (by omega) (by omega) (by omega)
  have bF := fl_bd (a := a * n) k1 (M := 1000000000) (by omega) (by omega)
  have bC := fl_bd (a := -(b * n)) k1 (M := 1000000000) (by omega) (by omega)
  have bC' : -1000000000 ≤ cl (b * n) k ∧ cl (b * n) k ≤ 1000000000 := by unfold cl; unfold fl at bC; omega
  generalize (min (a * c) (min (a * d) (min (b * c) (b * d)))) = L at *
  generalize (max (a * c) (max (a * d) (max (b * c) (b * d)))) = H at *
  generalize fl (a * n) k = F at *
  generalize cl (b * n) k = C at *
  have bFk := mul_bd3 (a := F) (c := k) (M := 1000000000) (N := 1000) bF.1 bF.2 (by omega) (by omega) (by omega)
  have bCk := mul_bd3 (a := C) (c := k) (M := 1000000000) (N := 1000) bC'.1 bC'.2 (by omega) (by omega) (by omega)
  generalize madeS (a + c) (b + d) = s at *
  generalize madeS L H = t at *
  generalize madeS F C = p at *
  obtain ⟨⟨s0, s1⟩, se⟩ := s
  obtain ⟨⟨t0, t1⟩, te⟩ := t
  obtain ⟨⟨p0, p1⟩, pe⟩ := p
  simp only at hA hT hP mA mT mP
  have g1 : a + c ≤ x + y := by omega
  have g2 : x + y ≤ b + d := by omega
  obtain ⟨f3, f4⟩ := f34
  have w1' : IntKind.i64.wrap (x + y) = x + y := IntWalk.i64_in _ (by omega)
  have w2' : IntKind.i64.wrap (a + c) = a + c := IntWalk.i64_in _ (by omega)
  have w3' : IntKind.i64.wrap (b + d) = b + d := IntWalk.i64_in _ (by omega)
  have w4' : IntKind.i64.wrap (x * y) = x * y := IntWalk.i64_in _ (by omega)
  have w5' : IntKind.i64.wrap (x * n) = x * n := IntWalk.i64_in _ (by omega)
  have w6' : IntKind.i64.wrap (F * k) = F * k := IntWalk.i64_in _ (by omega)
  have w7' : IntKind.i64.wrap (C * k) = C * k := IntWalk.i64_in _ (by omega)
  have HX := Lib.hid hX
  have HY := Lib.hid hY
  have HN := Lib.hid hN
  have HK := Lib.hid hK
  have HA := Lib.hid hA
  have HT := Lib.hid hT
  have HP := Lib.hid hP
  have HPL := Lib.hid hPL
  have HPH := Lib.hid hPH
  have H1 := Lib.hid h1
  have H2 := Lib.hid h2
  have MA := Lib.hid mA
  have MT := Lib.hid mT
  have MP := Lib.hid mP
  clear hX hY hN hK hA hT hP hPr hPL hPH h1 h2 mA mT mP eA eT eP pL pH bxy bxn ban bbn bF bC bC' bFk bCk i1 i2 i3 i4 i5 i6 x1 x2 y1 y2 n1 n2 k1 k2
  go_enter Try.func13, Try.ntmps13
  go_upto_region 3 with (first
    | (go_at_call_of 57 (Value.agg #[.int .i64 a, .int .i64 b]); refine Calls.mono (rvalid_any a b _) ?_; rintro e w1 ⟨rfl, hb1⟩; rw [H1.out]; have s1_0 : w1.cell? ⟨w.heap.size, 0, none⟩ = some (.int .i64 a) := cell_keep hb1 (by go_simp); have s1_1 : w1.cell? ⟨w.heap.size, 1, none⟩ = some (.int .i64 b) := cell_keep hb1 (by go_simp); have s1_2 : w1.cell? ⟨w.heap.size + 1, 0, none⟩ = some (.int .i64 c) := cell_keep hb1 (by go_simp); have s1_3 : w1.cell? ⟨w.heap.size + 1, 1, none⟩ = some (.int .i64 d) := cell_keep hb1 (by go_simp); have s1_4 : w1.cell? ⟨w.heap.size + 1 + 1, 0, none⟩ = some (.int .i64 v0) := cell_keep hb1 (by go_simp); have s1_5 : w1.cell? ⟨w.heap.size + 1 + 1, 1, none⟩ = some (.int .i64 v1) := cell_keep hb1 (by go_simp); have s1_6 : w1.cell? ⟨w.heap.size + 1 + 1, 2, none⟩ = some (.int .i64 v2) := cell_keep hb1 (by go_simp); have s1_7 : w1.cell? ⟨w.heap.size + 1 + 1, 3, none⟩ = some (.int .i64 v3) := cell_keep hb1 (by go_simp); have g1_0 : w.heap.size < w1.heap.size := World.block_lt_of_cell? _ _ s1_0; have g1_2 : w.heap.size + 1 < w1.heap.size := World.block_lt_of_cell? _ _ s1_2; have g1_4 : w.heap.size + 1 + 1 < w1.heap.size := World.block_lt_of_cell? _ _ s1_4; have hbw : Below w.heap.size w w1 := Below.trans (by go_grown) (hb1.mono (by simp <;> omega)); have HB1 := Lib.hid hbw; clear hb1 hbw)
    | (go_at_call 57; refine Calls.mono (rvalid_any c d _) ?_; rintro e w2 ⟨rfl, hb2⟩; rw [H2.out]))
  have s2_0 := cell_keep hb2 s1_0
  have s2_1 := cell_keep hb2 s1_1
  have s2_2 := cell_keep hb2 s1_2
  have s2_3 := cell_keep hb2 s1_3
  have s2_4 := cell_keep hb2 s1_4
  have s2_5 := cell_keep hb2 s1_5
  have s2_6 := cell_keep hb2 s1_6
  have s2_7 := cell_keep hb2 s1_7
  have g2_0 : w.heap.size < w2.heap.size := World.block_lt_of_cell? _ _ s2_0
  have g2_2 : w.heap.size + 1 < w2.heap.size := World.block_lt_of_cell? _ _ s2_2
  have g2_4 : w.heap.size + 1 + 1 < w2.heap.size := World.block_lt_of_cell? _ _ s2_4
  have hbw2 : Below w.heap.size w w2 := HB1.out.trans (hb2.mono HB1.out.size)
  have HB2 := Lib.hid hbw2
  clear hb2 hbw2 HB1 s1_0 s1_1 s1_2 s1_3 s1_4 s1_5 s1_6 s1_7 g1_0 g1_2 g1_4
  refine wpIn_wide.1 (region_inv (n := 9) (by kernel_rfl) (fun i => match i with
      | 0 => .pointer (some ⟨w.heap.size + 1 + 1, 0, none⟩) | 1 => .int .i64 v0 | 2 => .agg #[.int .i64 a, .int .i64 b] | 3 => .int .i64 x | 4 => .pointer (some ⟨w.heap.size + 1 + 1, 1, none⟩) | 5 => .int .i64 v1 | 6 => .agg #[.int .i64 c, .int .i64 d] | 7 => .int .i64 y | 8 => .int .i64 x | 9 => .int .i64 y | _ => undef)
    (fun _ x => Below w2.heap.size w2 x) (by kernel_rfl) rfl (Below.refl _ _).drew ?hstep ?hend)
  case hstep =>
    intro i' o ho L b' x' hF hR hpre hl
    match i', ho with
      | 0, ho =>
        simp at ho
        subst ho
        refine step_plain rfl ?_
        have e5 := hF.was 5 (by kernel_rfl) rfl
        have hM := hR
        clear hF hpre hl hR
        first | (go_simp; done) | (go_simp; exact hM)
      | 1, ho =>
        simp at ho
        subst ho
        refine step_plain rfl ?_
        have e26 := hF.gave 0 rfl (hpre ⟨0, .data⟩ (by simp) rfl) rfl
        have hM := hR
        clear hF hpre hl hR
        have q0 := cell_keep hM s2_0
        have q1 := cell_keep hM s2_1
        have q2 := cell_keep hM s2_2
        have q3 := cell_keep hM s2_3
        have q4 := cell_keep hM s2_4
        have q5 := cell_keep hM s2_5
        have q6 := cell_keep hM s2_6
        have q7 := cell_keep hM s2_7
        first | (go_simp; done) | (go_simp; exact hM)
      | 2, ho =>
        simp at ho
        subst ho
        refine step_plain rfl ?_
        have e3 := hF.was 3 (by kernel_rfl) rfl
        have hM := hR
        clear hF hpre hl hR
        have q0 := cell_keep hM s2_0
        have q1 := cell_keep hM s2_1
        have q2 := cell_keep hM s2_2
        have q3 := cell_keep hM s2_3
        have q4 := cell_keep hM s2_4
        have q5 := cell_keep hM s2_5
        have q6 := cell_keep hM s2_6
        have q7 := cell_keep hM s2_7
        first | (go_simp; done) | (go_simp; exact hM)
      | 3, ho =>
        simp at ho
        subst ho
        refine step_plain rfl ?_
        have e27 := hF.gave 1 rfl (hpre ⟨1, .data⟩ (by simp) rfl) rfl
        have e28 := hF.gave 2 rfl (hpre ⟨2, .data⟩ (by simp) rfl) rfl
        have hM := hR
        clear hF hpre hl hR
        have q0 := cell_keep hM s2_0
        have q1 := cell_keep hM s2_1
        have q2 := cell_keep hM s2_2
        have q3 := cell_keep hM s2_3
        have q4 := cell_keep hM s2_4
        have q5 := cell_keep hM s2_5
        have q6 := cell_keep hM s2_6
        have q7 := cell_keep hM s2_7
        go_simp
        refine ⟨trivial, ?_⟩
        refine CallsIn.mono (callsIn_wide.2 (HX.out _)) ?_
        rintro e y ⟨rfl, hy⟩
        have hs := hM.size
        exact ⟨rfl, hM.trans (hy.mono hs)⟩
      | 4, ho =>
        simp at ho
        subst ho
        refine step_plain rfl ?_
        have e5 := hF.was 5 (by kernel_rfl) rfl
        have hM := hR
        clear hF hpre hl hR
        first | (go_simp; done) | (go_simp; exact hM)
      | 5, ho =>
        simp at ho
        subst ho
        refine step_plain rfl ?_
        have e30 := hF.gave 4 rfl (hpre ⟨4, .data⟩ (by simp) rfl) rfl
        have hM := hR
        clear hF hpre hl hR
        have q0 := cell_keep hM s2_0
        have q1 := cell_keep hM s2_1
        have q2 := cell_keep hM s2_2
        have q3 := cell_keep hM s2_3
        have q4 := cell_keep hM s2_4
        have q5 := cell_keep hM s2_5
        have q6 := cell_keep hM s2_6
        have q7 := cell_keep hM s2_7
        first | (go_simp; done) | (go_simp; exact hM)
      | 6, ho =>
        simp at ho
        subst ho
        refine step_plain rfl ?_
        have e4 := hF.was 4 (by kernel_rfl) rfl
        have hM := hR
        clear hF hpre hl hR
        have q0 := cell_keep hM s2_0
        have q1 := cell_keep hM s2_1
        have q2 := cell_keep hM s2_2
        have q3 := cell_keep hM s2_3
        have q4 := cell_keep hM s2_4
        have q5 := cell_keep hM s2_5
        have q6 := cell_keep hM s2_6
        have q7 := cell_keep hM s2_7
        first | (go_simp; done) | (go_simp; exact hM)
      | 7, ho =>
        simp at ho
        subst ho
        refine step_plain rfl ?_
        have e31 := hF.gave 5 rfl (hpre ⟨5, .data⟩ (by simp) rfl) rfl
        have e32 := hF.gave 6 rfl (hpre ⟨6, .data⟩ (by simp) rfl) rfl
        have hM := hR
        clear hF hpre hl hR
        have q0 := cell_keep hM s2_0
        have q1 := cell_keep hM s2_1
        have q2 := cell_keep hM s2_2
        have q3 := cell_keep hM s2_3
        have q4 := cell_keep hM s2_4
        have q5 := cell_keep hM s2_5
        have q6 := cell_keep hM s2_6
        have q7 := cell_keep hM s2_7
        go_simp
        refine ⟨trivial, ?_⟩
        refine CallsIn.mono (callsIn_wide.2 (HY.out _)) ?_
        rintro e y ⟨rfl, hy⟩
        have hs := hM.size
        exact ⟨rfl, hM.trans (hy.mono hs)⟩
      | 8, ho =>
        simp at ho
        subst ho
        refine step_plain rfl ?_
        have e29 := hF.gave 3 rfl (hpre ⟨3, .data⟩ (by simp) rfl) rfl
        have hM := hR
        clear hF hpre hl hR
        first | (go_simp; done) | (go_simp; exact hM)
      | 9, ho =>
        simp at ho
        subst ho
        refine step_plain rfl ?_
        have e33 := hF.gave 7 rfl (hpre ⟨7, .data⟩ (by simp) rfl) rfl
        have hM := hR
        clear hF hpre hl hR
        first | (go_simp; done) | (go_simp; exact hM)
      | i + 10, ho => simp at ho
  case hend =>
    intro L' b' x' hF hall hR
    have e := hF.all (by kernel_rfl) hall
    subst e
    simp [final, dstOf, List.range, List.range.loop]
    have s3_0 := cell_keep hR s2_0
    have s3_1 := cell_keep hR s2_1
    have s3_2 := cell_keep hR s2_2
    have s3_3 := cell_keep hR s2_3
    have s3_4 := cell_keep hR s2_4
    have s3_5 := cell_keep hR s2_5
    have s3_6 := cell_keep hR s2_6
    have s3_7 := cell_keep hR s2_7
    have g3_0 : w.heap.size < x'.heap.size := World.block_lt_of_cell? _ _ s3_0
    have g3_2 : w.heap.size + 1 < x'.heap.size := World.block_lt_of_cell? _ _ s3_2
    have g3_4 : w.heap.size + 1 + 1 < x'.heap.size := World.block_lt_of_cell? _ _ s3_4
    have hbq : Below w.heap.size w x' := HB2.out.trans (hR.mono HB2.out.size)
    have HB3 := Lib.hid hbq
    clear hbq hR hall hF HB2 s2_0 s2_1 s2_2 s2_3 s2_4 s2_5 s2_6 s2_7 g2_0 g2_2 g2_4
    go_upto_region 5 with (go_at_call 29; refine Calls.mono (HA.out _) ?_; rintro e w4 ⟨rfl, hb4⟩)
    have s4_0 : w4.cell? ⟨w.heap.size, 0, none⟩ = some (.int .i64 a) := cell_keep hb4 (by go_simp)
    have s4_1 : w4.cell? ⟨w.heap.size, 1, none⟩ = some (.int .i64 b) := cell_keep hb4 (by go_simp)
    have s4_2 : w4.cell? ⟨w.heap.size + 1, 0, none⟩ = some (.int .i64 c) := cell_keep hb4 (by go_simp)
    have s4_3 : w4.cell? ⟨w.heap.size + 1, 1, none⟩ = some (.int .i64 d) := cell_keep hb4 (by go_simp)
    have s4_4 : w4.cell? ⟨w.heap.size + 1 + 1, 0, none⟩ = some (.int .i64 v0) := cell_keep hb4 (by go_simp)
    have s4_5 : w4.cell? ⟨w.heap.size + 1 + 1, 1, none⟩ = some (.int .i64 v1) := cell_keep hb4 (by go_simp)
    have s4_6 : w4.cell? ⟨w.heap.size + 1 + 1, 2, none⟩ = some (.int .i64 v2) := cell_keep hb4 (by go_simp)
    have s4_7 : w4.cell? ⟨w.heap.size + 1 + 1, 3, none⟩ = some (.int .i64 v3) := cell_keep hb4 (by go_simp)
    have g4_0 : w.heap.size < w4.heap.size := World.block_lt_of_cell? _ _ s4_0
    have g4_2 : w.heap.size + 1 < w4.heap.size := World.block_lt_of_cell? _ _ s4_2
    have g4_4 : w.heap.size + 1 + 1 < w4.heap.size := World.block_lt_of_cell? _ _ s4_4
    have hbw4 : Below w.heap.size w w4 := HB3.out.trans (hb4.mono HB3.out.size)
    have HB4 := Lib.hid hbw4
    clear hb4 hbw4 s3_0 s3_1 s3_2 s3_3 s3_4 s3_5 s3_6 s3_7 g3_0 g3_2 g3_4
    go_upto_region 6 with (go_at_call 31; refine Calls.mono (HT.out _) ?_; rintro e w5 ⟨rfl, hb5⟩)
    have s5_0 : w5.cell? ⟨w.heap.size, 0, none⟩ = some (.int .i64 a) := cell_keep hb5 (by go_simp)
    have s5_1 : w5.cell? ⟨w.heap.size, 1, none⟩ = some (.int .i64 b) := cell_keep hb5 (by go_simp)
    have s5_2 : w5.cell? ⟨w.heap.size + 1, 0, none⟩ = some (.int .i64 c) := cell_keep hb5 (by go_simp)
    have s5_3 : w5.cell? ⟨w.heap.size + 1, 1, none⟩ = some (.int .i64 d) := cell_keep hb5 (by go_simp)
    have s5_4 : w5.cell? ⟨w.heap.size + 1 + 1, 0, none⟩ = some (.int .i64 v0) := cell_keep hb5 (by go_simp)
    have s5_5 : w5.cell? ⟨w.heap.size + 1 + 1, 1, none⟩ = some (.int .i64 v1) := cell_keep hb5 (by go_simp)
    have s5_6 : w5.cell? ⟨w.heap.size + 1 + 1, 2, none⟩ = some (.int .i64 v2) := cell_keep hb5 (by go_simp)
    have s5_7 : w5.cell? ⟨w.heap.size + 1 + 1, 3, none⟩ = some (.int .i64 v3) := cell_keep hb5 (by go_simp)
    have s5_A0 : w5.cell? ⟨w4.heap.size, 0, none⟩ = some (.int .i64 s0) := cell_keep hb5 (by go_simp)
    have s5_A1 : w5.cell? ⟨w4.heap.size, 1, none⟩ = some (.int .i64 s1) := cell_keep hb5 (by go_simp)
    have g5_0 : w.heap.size < w5.heap.size := World.block_lt_of_cell? _ _ s5_0
    have g5_2 : w.heap.size + 1 < w5.heap.size := World.block_lt_of_cell? _ _ s5_2
    have g5_4 : w.heap.size + 1 + 1 < w5.heap.size := World.block_lt_of_cell? _ _ s5_4
    have g5_A0 : w4.heap.size < w5.heap.size := World.block_lt_of_cell? _ _ s5_A0
    have hbw5 : Below w.heap.size w w5 := (HB4.out.alloc (by omega) _).trans (hb5.mono (by simp <;> omega))
    have HB5 := Lib.hid hbw5
    clear hb5 hbw5 s4_0 s4_1 s4_2 s4_3 s4_4 s4_5 s4_6 s4_7 g4_0 g4_2 g4_4
    generalize hW6 : w5.alloc (.cells #[.int .i64 t0, .int .i64 t1] 37) = w6
    have hk : Below w5.heap.size w5 w6 := by rw [← hW6]; exact (Below.refl _ _).alloc (Nat.le_refl _) _
    have s6_T0 : w6.cell? ⟨w5.heap.size, 0, none⟩ = some (.int .i64 t0) := by rw [← hW6]; clear hW6; go_simp
    have s6_T1 : w6.cell? ⟨w5.heap.size, 1, none⟩ = some (.int .i64 t1) := by rw [← hW6]; clear hW6; go_simp
    have s6_0 := cell_keep hk s5_0
    have s6_1 := cell_keep hk s5_1
    have s6_2 := cell_keep hk s5_2
    have s6_3 := cell_keep hk s5_3
    have s6_4 := cell_keep hk s5_4
    have s6_5 := cell_keep hk s5_5
    have s6_6 := cell_keep hk s5_6
    have s6_7 := cell_keep hk s5_7
    have s6_A0 := cell_keep hk s5_A0
    have s6_A1 := cell_keep hk s5_A1
    have g6_0 : w.heap.size < w6.heap.size := World.block_lt_of_cell? _ _ s6_0
    have g6_2 : w.heap.size + 1 < w6.heap.size := World.block_lt_of_cell? _ _ s6_2
    have g6_4 : w.heap.size + 1 + 1 < w6.heap.size := World.block_lt_of_cell? _ _ s6_4
    have g6_A0 : w4.heap.size < w6.heap.size := World.block_lt_of_cell? _ _ s6_A0
    have g6_T0 : w5.heap.size < w6.heap.size := World.block_lt_of_cell? _ _ s6_T0
    have hbw6 : Below w.heap.size w w6 := HB5.out.trans (hk.mono HB5.out.size)
    have HB6 := Lib.hid hbw6
    clear hk hbw6 hW6 HB5 s5_0 s5_1 s5_2 s5_3 s5_4 s5_5 s5_6 s5_7 s5_A0 s5_A1 g5_0 g5_2 g5_4 g5_A0
    rcases MA.out with ⟨rfl, rfl, rfl⟩ | rfl
    · rcases MT.out with ⟨rfl, rfl, rfl⟩ | rfl
      · go_upto_region 10 with (first
          | (go_at_call_of 59 (Value.int .i64 t0); refine Calls.mono (HPL.out _) ?_; rintro e w7 ⟨rfl, hb7⟩; have s7_0 := cell_keep hb7 s6_0; have s7_1 := cell_keep hb7 s6_1; have s7_2 := cell_keep hb7 s6_2; have s7_3 := cell_keep hb7 s6_3; have s7_4 := cell_keep hb7 s6_4; have s7_5 := cell_keep hb7 s6_5; have s7_6 := cell_keep hb7 s6_6; have s7_7 := cell_keep hb7 s6_7; have s7_T0 := cell_keep hb7 s6_T0; have s7_T1 := cell_keep hb7 s6_T1; have g7_0 : w.heap.size < w7.heap.size := World.block_lt_of_cell? _ _ s7_0; have g7_2 : w.heap.size + 1 < w7.heap.size := World.block_lt_of_cell? _ _ s7_2; have g7_4 : w.heap.size + 1 + 1 < w7.heap.size := World.block_lt_of_cell? _ _ s7_4; have g7_T0 : w5.heap.size < w7.heap.size := World.block_lt_of_cell? _ _ s7_T0; have hbw7 : Below w.heap.size w w7 := HB6.out.trans (hb7.mono HB6.out.size); have HB7 := Lib.hid hbw7; clear hb7 hbw7)
          | (go_at_call_of 59 (Value.int .i64 t1); refine Calls.mono (HPH.out _) ?_; rintro e w8 ⟨rfl, hb8⟩; have s8_0 := cell_keep hb8 s7_0; have s8_1 := cell_keep hb8 s7_1; have s8_2 := cell_keep hb8 s7_2; have s8_3 := cell_keep hb8 s7_3; have s8_4 := cell_keep hb8 s7_4; have s8_5 := cell_keep hb8 s7_5; have s8_6 := cell_keep hb8 s7_6; have s8_7 := cell_keep hb8 s7_7; have s8_T0 := cell_keep hb8 s7_T0; have s8_T1 := cell_keep hb8 s7_T1; have g8_0 : w.heap.size < w8.heap.size := World.block_lt_of_cell? _ _ s8_0; have g8_2 : w.heap.size + 1 < w8.heap.size := World.block_lt_of_cell? _ _ s8_2; have g8_4 : w.heap.size + 1 + 1 < w8.heap.size := World.block_lt_of_cell? _ _ s8_4; have g8_T0 : w5.heap.size < w8.heap.size := World.block_lt_of_cell? _ _ s8_T0; have hbw8 : Below w.heap.size w w8 := HB7.out.trans (hb8.mono HB7.out.size); have HB8 := Lib.hid hbw8; clear hb8 hbw8))
        refine wpIn_wide.1 (region_inv (n := 9) (by kernel_rfl) (fun i => match i with
            | 0 => .pointer (some ⟨w.heap.size + 1 + 1, 2, none⟩) | 1 => .int .i64 v2 | 2 => .agg #[.int .i64 0, .int .i64 1000] | 3 => .int .i64 n | 4 => .pointer (some ⟨w.heap.size + 1 + 1, 3, none⟩) | 5 => .int .i64 v3 | 6 => .agg #[.int .i64 1, .int .i64 1000] | 7 => .int .i64 k | 8 => .int .i64 n | 9 => .int .i64 k | _ => undef)
          (fun _ x => Below w8.heap.size w8 x) (by kernel_rfl) rfl (Below.refl _ _).drew ?hstep ?hend)
        case hstep =>
          intro i' o ho L b' x' hF hR hpre hl
          match i', ho with
            | 0, ho =>
              simp at ho
              subst ho
              refine step_plain rfl ?_
              have e5 := hF.was 5 (by kernel_rfl) rfl
              have hM := hR
              clear hF hpre hl hR
              first | (go_simp; done) | (go_simp; exact hM)
            | 1, ho =>
              simp at ho
              subst ho
              refine step_plain rfl ?_
              have e134 := hF.gave 0 rfl (hpre ⟨0, .data⟩ (by simp) rfl) rfl
              have hM := hR
              clear hF hpre hl hR
              have q0 := cell_keep hM s8_0
              have q1 := cell_keep hM s8_1
              have q2 := cell_keep hM s8_2
              have q3 := cell_keep hM s8_3
              have q4 := cell_keep hM s8_4
              have q5 := cell_keep hM s8_5
              have q6 := cell_keep hM s8_6
              have q7 := cell_keep hM s8_7
              first | (go_simp; done) | (go_simp; exact hM)
            | 2, ho =>
              simp at ho
              subst ho
              refine step_plain rfl ?_
              have hM := hR
              clear hF hpre hl hR
              first | (go_simp; done) | (go_simp; exact hM)
            | 3, ho =>
              simp at ho
              subst ho
              refine step_plain rfl ?_
              have e135 := hF.gave 1 rfl (hpre ⟨1, .data⟩ (by simp) rfl) rfl
              have e136 := hF.gave 2 rfl (hpre ⟨2, .data⟩ (by simp) rfl) rfl
              have hM := hR
              clear hF hpre hl hR
              have q0 := cell_keep hM s8_0
              have q1 := cell_keep hM s8_1
              have q2 := cell_keep hM s8_2
              have q3 := cell_keep hM s8_3
              have q4 := cell_keep hM s8_4
              have q5 := cell_keep hM s8_5
              have q6 := cell_keep hM s8_6
              have q7 := cell_keep hM s8_7
              go_simp
              refine ⟨trivial, ?_⟩
              refine CallsIn.mono (callsIn_wide.2 (HN.out _)) ?_
              rintro e y ⟨rfl, hy⟩
              have hs := hM.size
              exact ⟨rfl, hM.trans (hy.mono hs)⟩
            | 4, ho =>
              simp at ho
              subst ho
              refine step_plain rfl ?_
              have e5 := hF.was 5 (by kernel_rfl) rfl
              have hM := hR
              clear hF hpre hl hR
              first | (go_simp; done) | (go_simp; exact hM)
            | 5, ho =>
              simp at ho
              subst ho
              refine step_plain rfl ?_
              have e138 := hF.gave 4 rfl (hpre ⟨4, .data⟩ (by simp) rfl) rfl
              have hM := hR
              clear hF hpre hl hR
              have q0 := cell_keep hM s8_0
              have q1 := cell_keep hM s8_1
              have q2 := cell_keep hM s8_2
              have q3 := cell_keep hM s8_3
              have q4 := cell_keep hM s8_4
              have q5 := cell_keep hM s8_5
              have q6 := cell_keep hM s8_6
              have q7 := cell_keep hM s8_7
              first | (go_simp; done) | (go_simp; exact hM)
            | 6, ho =>
              simp at ho
              subst ho
              refine step_plain rfl ?_
              have hM := hR
              clear hF hpre hl hR
              first | (go_simp; done) | (go_simp; exact hM)
            | 7, ho =>
              simp at ho
              subst ho
              refine step_plain rfl ?_
              have e139 := hF.gave 5 rfl (hpre ⟨5, .data⟩ (by simp) rfl) rfl
              have e140 := hF.gave 6 rfl (hpre ⟨6, .data⟩ (by simp) rfl) rfl
              have hM := hR
              clear hF hpre hl hR
              have q0 := cell_keep hM s8_0
              have q1 := cell_keep hM s8_1
              have q2 := cell_keep hM s8_2
              have q3 := cell_keep hM s8_3
              have q4 := cell_keep hM s8_4
              have q5 := cell_keep hM s8_5
              have q6 := cell_keep hM s8_6
              have q7 := cell_keep hM s8_7
              go_simp
              refine ⟨trivial, ?_⟩
              refine CallsIn.mono (callsIn_wide.2 (HK.out _)) ?_
              rintro e y ⟨rfl, hy⟩
              have hs := hM.size
              exact ⟨rfl, hM.trans (hy.mono hs)⟩
            | 8, ho =>
              simp at ho
              subst ho
              refine step_plain rfl ?_
              have e137 := hF.gave 3 rfl (hpre ⟨3, .data⟩ (by simp) rfl) rfl
              have hM := hR
              clear hF hpre hl hR
              first | (go_simp; done) | (go_simp; exact hM)
            | 9, ho =>
              simp at ho
              subst ho
              refine step_plain rfl ?_
              have e141 := hF.gave 7 rfl (hpre ⟨7, .data⟩ (by simp) rfl) rfl
              have hM := hR
              clear hF hpre hl hR
              first | (go_simp; done) | (go_simp; exact hM)
            | i + 10, ho => simp at ho
        case hend =>
          intro L' b' x' hF hall hR
          have e := hF.all (by kernel_rfl) hall
          subst e
          simp [final, dstOf, List.range, List.range.loop]
          have s9_0 := cell_keep hR s8_0
          have s9_1 := cell_keep hR s8_1
          have s9_2 := cell_keep hR s8_2
          have s9_3 := cell_keep hR s8_3
          have s9_4 := cell_keep hR s8_4
          have s9_5 := cell_keep hR s8_5
          have s9_6 := cell_keep hR s8_6
          have s9_7 := cell_keep hR s8_7
          have g9_0 : w.heap.size < x'.heap.size := World.block_lt_of_cell? _ _ s9_0
          have g9_2 : w.heap.size + 1 < x'.heap.size := World.block_lt_of_cell? _ _ s9_2
          have g9_4 : w.heap.size + 1 + 1 < x'.heap.size := World.block_lt_of_cell? _ _ s9_4
          have hbq : Below w.heap.size w x' := HB8.out.trans (hR.mono HB8.out.size)
          have HB9 := Lib.hid hbq
          clear hbq hR hall hF HB8 s8_0 s8_1 s8_2 s8_3 s8_4 s8_5 s8_6 s8_7 g8_0 g8_2 g8_4
          go_upto_region 12 with (go_at_call 33; refine Calls.mono (HP.out _) ?_; rintro e w10 ⟨rfl, hb10⟩)
          have s10_0 : w10.cell? ⟨w.heap.size, 0, none⟩ = some (.int .i64 a) := cell_keep hb10 (by go_simp)
          have s10_1 : w10.cell? ⟨w.heap.size, 1, none⟩ = some (.int .i64 b) := cell_keep hb10 (by go_simp)
          have s10_2 : w10.cell? ⟨w.heap.size + 1, 0, none⟩ = some (.int .i64 c) := cell_keep hb10 (by go_simp)
          have s10_3 : w10.cell? ⟨w.heap.size + 1, 1, none⟩ = some (.int .i64 d) := cell_keep hb10 (by go_simp)
          have s10_4 : w10.cell? ⟨w.heap.size + 1 + 1, 0, none⟩ = some (.int .i64 v0) := cell_keep hb10 (by go_simp)
          have s10_5 : w10.cell? ⟨w.heap.size + 1 + 1, 1, none⟩ = some (.int .i64 v1) := cell_keep hb10 (by go_simp)
          have s10_6 : w10.cell? ⟨w.heap.size + 1 + 1, 2, none⟩ = some (.int .i64 v2) := cell_keep hb10 (by go_simp)
          have s10_7 : w10.cell? ⟨w.heap.size + 1 + 1, 3, none⟩ = some (.int .i64 v3) := cell_keep hb10 (by go_simp)
          have g10_0 : w.heap.size < w10.heap.size := World.block_lt_of_cell? _ _ s10_0
          have g10_2 : w.heap.size + 1 < w10.heap.size := World.block_lt_of_cell? _ _ s10_2
          have g10_4 : w.heap.size + 1 + 1 < w10.heap.size := World.block_lt_of_cell? _ _ s10_4
          have hbw10 : Below w.heap.size w w10 := HB9.out.trans (hb10.mono HB9.out.size)
          have HB10 := Lib.hid hbw10
          clear hb10 hbw10 s9_0 s9_1 s9_2 s9_3 s9_4 s9_5 s9_6 s9_7 g9_0 g9_2 g9_4
          rcases MP.out with ⟨rfl, rfl, rfl⟩ | rfl
          all_goals
            go_wp2_with (go_at_call 18; refine Calls.mono (HW.out _) ?_; rintro e w11 ⟨rfl, hb11⟩)
            go_ret
            exact ⟨rfl, (HB10.out.alloc (by omega) _).trans (hb11.mono (by simp <;> omega))⟩
      · go_upto_region 10 with fail
        refine wpIn_wide.1 (region_inv (n := 9) (by kernel_rfl) (fun i => match i with
            | 0 => .pointer (some ⟨w.heap.size + 1 + 1, 2, none⟩) | 1 => .int .i64 v2 | 2 => .agg #[.int .i64 0, .int .i64 1000] | 3 => .int .i64 n | 4 => .pointer (some ⟨w.heap.size + 1 + 1, 3, none⟩) | 5 => .int .i64 v3 | 6 => .agg #[.int .i64 1, .int .i64 1000] | 7 => .int .i64 k | 8 => .int .i64 n | 9 => .int .i64 k | _ => undef)
          (fun _ x => Below w6.heap.size w6 x) (by kernel_rfl) rfl (Below.refl _ _).drew ?hstep ?hend)
        case hstep =>
          intro i' o ho L b' x' hF hR hpre hl
          match i', ho with
            | 0, ho =>
              simp at ho
              subst ho
              refine step_plain rfl ?_
              have e5 := hF.was 5 (by kernel_rfl) rfl
              have hM := hR
              clear hF hpre hl hR
              first | (go_simp; done) | (go_simp; exact hM)
            | 1, ho =>
              simp at ho
              subst ho
              refine step_plain rfl ?_
              have e134 := hF.gave 0 rfl (hpre ⟨0, .data⟩ (by simp) rfl) rfl
              have hM := hR
              clear hF hpre hl hR
              have q0 := cell_keep hM s6_0
              have q1 := cell_keep hM s6_1
              have q2 := cell_keep hM s6_2
              have q3 := cell_keep hM s6_3
              have q4 := cell_keep hM s6_4
              have q5 := cell_keep hM s6_5
              have q6 := cell_keep hM s6_6
              have q7 := cell_keep hM s6_7
              first | (go_simp; done) | (go_simp; exact hM)
            | 2, ho =>
              simp at ho
              subst ho
              refine step_plain rfl ?_
              have hM := hR
              clear hF hpre hl hR
              first | (go_simp; done) | (go_simp; exact hM)
            | 3, ho =>
              simp at ho
              subst ho
              refine step_plain rfl ?_
              have e135 := hF.gave 1 rfl (hpre ⟨1, .data⟩ (by simp) rfl) rfl
              have e136 := hF.gave 2 rfl (hpre ⟨2, .data⟩ (by simp) rfl) rfl
              have hM := hR
              clear hF hpre hl hR
              have q0 := cell_keep hM s6_0
              have q1 := cell_keep hM s6_1
              have q2 := cell_keep hM s6_2
              have q3 := cell_keep hM s6_3
              have q4 := cell_keep hM s6_4
              have q5 := cell_keep hM s6_5
              have q6 := cell_keep hM s6_6
              have q7 := cell_keep hM s6_7
              go_simp
              refine ⟨trivial, ?_⟩
              refine CallsIn.mono (callsIn_wide.2 (HN.out _)) ?_
              rintro e y ⟨rfl, hy⟩
              have hs := hM.size
              exact ⟨rfl, hM.trans (hy.mono hs)⟩
            | 4, ho =>
              simp at ho
              subst ho
              refine step_plain rfl ?_
              have e5 := hF.was 5 (by kernel_rfl) rfl
              have hM := hR
              clear hF hpre hl hR
              first | (go_simp; done) | (go_simp; exact hM)
            | 5, ho =>
              simp at ho
              subst ho
              refine step_plain rfl ?_
              have e138 := hF.gave 4 rfl (hpre ⟨4, .data⟩ (by simp) rfl) rfl
              have hM := hR
              clear hF hpre hl hR
              have q0 := cell_keep hM s6_0
              have q1 := cell_keep hM s6_1
              have q2 := cell_keep hM s6_2
              have q3 := cell_keep hM s6_3
              have q4 := cell_keep hM s6_4
              have q5 := cell_keep hM s6_5
              have q6 := cell_keep hM s6_6
              have q7 := cell_keep hM s6_7
              first | (go_simp; done) | (go_simp; exact hM)
            | 6, ho =>
              simp at ho
              subst ho
              refine step_plain rfl ?_
              have hM := hR
              clear hF hpre hl hR
              first | (go_simp; done) | (go_simp; exact hM)
            | 7, ho =>
              simp at ho
              subst ho
              refine step_plain rfl ?_
              have e139 := hF.gave 5 rfl (hpre ⟨5, .data⟩ (by simp) rfl) rfl
              have e140 := hF.gave 6 rfl (hpre ⟨6, .data⟩ (by simp) rfl) rfl
              have hM := hR
              clear hF hpre hl hR
              have q0 := cell_keep hM s6_0
              have q1 := cell_keep hM s6_1
              have q2 := cell_keep hM s6_2
              have q3 := cell_keep hM s6_3
              have q4 := cell_keep hM s6_4
              have q5 := cell_keep hM s6_5
              have q6 := cell_keep hM s6_6
              have q7 := cell_keep hM s6_7
              go_simp
              refine ⟨trivial, ?_⟩
              refine CallsIn.mono (callsIn_wide.2 (HK.out _)) ?_
              rintro e y ⟨rfl, hy⟩
              have hs := hM.size
              exact ⟨rfl, hM.trans (hy.mono hs)⟩
            | 8, ho =>
              simp at ho
              subst ho
              refine step_plain rfl ?_
              have e137 := hF.gave 3 rfl (hpre ⟨3, .data⟩ (by simp) rfl) rfl
              have hM := hR
              clear hF hpre hl hR
              first | (go_simp; done) | (go_simp; exact hM)
            | 9, ho =>
              simp at ho
              subst ho
              refine step_plain rfl ?_
              have e141 := hF.gave 7 rfl (hpre ⟨7, .data⟩ (by simp) rfl) rfl
              have hM := hR
              clear hF hpre hl hR
              first | (go_simp; done) | (go_simp; exact hM)
            | i + 10, ho => simp at ho
        case hend =>
          intro L' b' x' hF hall hR
          have e := hF.all (by kernel_rfl) hall
          subst e
          simp [final, dstOf, List.range, List.range.loop]
          have s9_0 := cell_keep hR s6_0
          have s9_1 := cell_keep hR s6_1
          have s9_2 := cell_keep hR s6_2
          have s9_3 := cell_keep hR s6_3
          have s9_4 := cell_keep hR s6_4
          have s9_5 := cell_keep hR s6_5
          have s9_6 := cell_keep hR s6_6
          have s9_7 := cell_keep hR s6_7
          have g9_0 : w.heap.size < x'.heap.size := World.block_lt_of_cell? _ _ s9_0
          have g9_2 : w.heap.size + 1 < x'.heap.size := World.block_lt_of_cell? _ _ s9_2
          have g9_4 : w.heap.size + 1 + 1 < x'.heap.size := World.block_lt_of_cell? _ _ s9_4
          have hbq : Below w.heap.size w x' := HB6.out.trans (hR.mono HB6.out.size)
          have HB9 := Lib.hid hbq
          clear hbq hR hall hF HB6 s6_0 s6_1 s6_2 s6_3 s6_4 s6_5 s6_6 s6_7 g6_0 g6_2 g6_4
          go_upto_region 12 with (go_at_call 33; refine Calls.mono (HP.out _) ?_; rintro e w10 ⟨rfl, hb10⟩)
          have s10_0 : w10.cell? ⟨w.heap.size, 0, none⟩ = some (.int .i64 a) := cell_keep hb10 (by go_simp)
          have s10_1 : w10.cell? ⟨w.heap.size, 1, none⟩ = some (.int .i64 b) := cell_keep hb10 (by go_simp)
          have s10_2 : w10.cell? ⟨w.heap.size + 1, 0, none⟩ = some (.int .i64 c) := cell_keep hb10 (by go_simp)
          have s10_3 : w10.cell? ⟨w.heap.size + 1, 1, none⟩ = some (.int .i64 d) := cell_keep hb10 (by go_simp)
          have s10_4 : w10.cell? ⟨w.heap.size + 1 + 1, 0, none⟩ = some (.int .i64 v0) := cell_keep hb10 (by go_simp)
          have s10_5 : w10.cell? ⟨w.heap.size + 1 + 1, 1, none⟩ = some (.int .i64 v1) := cell_keep hb10 (by go_simp)
          have s10_6 : w10.cell? ⟨w.heap.size + 1 + 1, 2, none⟩ = some (.int .i64 v2) := cell_keep hb10 (by go_simp)
          have s10_7 : w10.cell? ⟨w.heap.size + 1 + 1, 3, none⟩ = some (.int .i64 v3) := cell_keep hb10 (by go_simp)
          have g10_0 : w.heap.size < w10.heap.size := World.block_lt_of_cell? _ _ s10_0
          have g10_2 : w.heap.size + 1 < w10.heap.size := World.block_lt_of_cell? _ _ s10_2
          have g10_4 : w.heap.size + 1 + 1 < w10.heap.size := World.block_lt_of_cell? _ _ s10_4
          have hbw10 : Below w.heap.size w w10 := HB9.out.trans (hb10.mono HB9.out.size)
          have HB10 := Lib.hid hbw10
          clear hb10 hbw10 s9_0 s9_1 s9_2 s9_3 s9_4 s9_5 s9_6 s9_7 g9_0 g9_2 g9_4
          rcases MP.out with ⟨rfl, rfl, rfl⟩ | rfl
          all_goals
            go_wp2_with (go_at_call 18; refine Calls.mono (HW.out _) ?_; rintro e w11 ⟨rfl, hb11⟩)
            go_ret
            exact ⟨rfl, (HB10.out.alloc (by omega) _).trans (hb11.mono (by simp <;> omega))⟩
    · rcases MT.out with ⟨rfl, rfl, rfl⟩ | rfl
      · go_upto_region 10 with (first
          | (go_at_call_of 59 (Value.int .i64 t0); refine Calls.mono (HPL.out _) ?_; rintro e w7 ⟨rfl, hb7⟩; have s7_0 := cell_keep hb7 s6_0; have s7_1 := cell_keep hb7 s6_1; have s7_2 := cell_keep hb7 s6_2; have s7_3 := cell_keep hb7 s6_3; have s7_4 := cell_keep hb7 s6_4; have s7_5 := cell_keep hb7 s6_5; have s7_6 := cell_keep hb7 s6_6; have s7_7 := cell_keep hb7 s6_7; have s7_T0 := cell_keep hb7 s6_T0; have s7_T1 := cell_keep hb7 s6_T1; have g7_0 : w.heap.size < w7.heap.size := World.block_lt_of_cell? _ _ s7_0; have g7_2 : w.heap.size + 1 < w7.heap.size := World.block_lt_of_cell? _ _ s7_2; have g7_4 : w.heap.size + 1 + 1 < w7.heap.size := World.block_lt_of_cell? _ _ s7_4; have g7_T0 : w5.heap.size < w7.heap.size := World.block_lt_of_cell? _ _ s7_T0; have hbw7 : Below w.heap.size w w7 := HB6.out.trans (hb7.mono HB6.out.size); have HB7 := Lib.hid hbw7; clear hb7 hbw7)
          | (go_at_call_of 59 (Value.int .i64 t1); refine Calls.mono (HPH.out _) ?_; rintro e w8 ⟨rfl, hb8⟩; have s8_0 := cell_keep hb8 s7_0; have s8_1 := cell_keep hb8 s7_1; have s8_2 := cell_keep hb8 s7_2; have s8_3 := cell_keep hb8 s7_3; have s8_4 := cell_keep hb8 s7_4; have s8_5 := cell_keep hb8 s7_5; have s8_6 := cell_keep hb8 s7_6; have s8_7 := cell_keep hb8 s7_7; have s8_T0 := cell_keep hb8 s7_T0; have s8_T1 := cell_keep hb8 s7_T1; have g8_0 : w.heap.size < w8.heap.size := World.block_lt_of_cell? _ _ s8_0; have g8_2 : w.heap.size + 1 < w8.heap.size := World.block_lt_of_cell? _ _ s8_2; have g8_4 : w.heap.size + 1 + 1 < w8.heap.size := World.block_lt_of_cell? _ _ s8_4; have g8_T0 : w5.heap.size < w8.heap.size := World.block_lt_of_cell? _ _ s8_T0; have hbw8 : Below w.heap.size w w8 := HB7.out.trans (hb8.mono HB7.out.size); have HB8 := Lib.hid hbw8; clear hb8 hbw8))
        refine wpIn_wide.1 (region_inv (n := 9) (by kernel_rfl) (fun i => match i with
            | 0 => .pointer (some ⟨w.heap.size + 1 + 1, 2, none⟩) | 1 => .int .i64 v2 | 2 => .agg #[.int .i64 0, .int .i64 1000] | 3 => .int .i64 n | 4 => .pointer (some ⟨w.heap.size + 1 + 1, 3, none⟩) | 5 => .int .i64 v3 | 6 => .agg #[.int .i64 1, .int .i64 1000] | 7 => .int .i64 k | 8 => .int .i64 n | 9 => .int .i64 k | _ => undef)
          (fun _ x => Below w8.heap.size w8 x) (by kernel_rfl) rfl (Below.refl _ _).drew ?hstep ?hend)
        case hstep =>
          intro i' o ho L b' x' hF hR hpre hl
          match i', ho with
            | 0, ho =>
              simp at ho
              subst ho
              refine step_plain rfl ?_
              have e5 := hF.was 5 (by kernel_rfl) rfl
              have hM := hR
              clear hF hpre hl hR
              first | (go_simp; done) | (go_simp; exact hM)
            | 1, ho =>
              simp at ho
              subst ho
              refine step_plain rfl ?_
              have e134 := hF.gave 0 rfl (hpre ⟨0, .data⟩ (by simp) rfl) rfl
              have hM := hR
              clear hF hpre hl hR
              have q0 := cell_keep hM s8_0
              have q1 := cell_keep hM s8_1
              have q2 := cell_keep hM s8_2
              have q3 := cell_keep hM s8_3
              have q4 := cell_keep hM s8_4
              have q5 := cell_keep hM s8_5
              have q6 := cell_keep hM s8_6
              have q7 := cell_keep hM s8_7
              first | (go_simp; done) | (go_simp; exact hM)
            | 2, ho =>
              simp at ho
              subst ho
              refine step_plain rfl ?_
              have hM := hR
              clear hF hpre hl hR
              first | (go_simp; done) | (go_simp; exact hM)
            | 3, ho =>
              simp at ho
              subst ho
              refine step_plain rfl ?_
              have e135 := hF.gave 1 rfl (hpre ⟨1, .data⟩ (by simp) rfl) rfl
              have e136 := hF.gave 2 rfl (hpre ⟨2, .data⟩ (by simp) rfl) rfl
              have hM := hR
              clear hF hpre hl hR
              have q0 := cell_keep hM s8_0
              have q1 := cell_keep hM s8_1
              have q2 := cell_keep hM s8_2
              have q3 := cell_keep hM s8_3
              have q4 := cell_keep hM s8_4
              have q5 := cell_keep hM s8_5
              have q6 := cell_keep hM s8_6
              have q7 := cell_keep hM s8_7
              go_simp
              refine ⟨trivial, ?_⟩
              refine CallsIn.mono (callsIn_wide.2 (HN.out _)) ?_
              rintro e y ⟨rfl, hy⟩
              have hs := hM.size
              exact ⟨rfl, hM.trans (hy.mono hs)⟩
            | 4, ho =>
              simp at ho
              subst ho
              refine step_plain rfl ?_
              have e5 := hF.was 5 (by kernel_rfl) rfl
              have hM := hR
              clear hF hpre hl hR
              first | (go_simp; done) | (go_simp; exact hM)
            | 5, ho =>
              simp at ho
              subst ho
              refine step_plain rfl ?_
              have e138 := hF.gave 4 rfl (hpre ⟨4, .data⟩ (by simp) rfl) rfl
              have hM := hR
              clear hF hpre hl hR
              have q0 := cell_keep hM s8_0
              have q1 := cell_keep hM s8_1
              have q2 := cell_keep hM s8_2
              have q3 := cell_keep hM s8_3
              have q4 := cell_keep hM s8_4
              have q5 := cell_keep hM s8_5
              have q6 := cell_keep hM s8_6
              have q7 := cell_keep hM s8_7
              first | (go_simp; done) | (go_simp; exact hM)
            | 6, ho =>
              simp at ho
              subst ho
              refine step_plain rfl ?_
              have hM := hR
              clear hF hpre hl hR
              first | (go_simp; done) | (go_simp; exact hM)
            | 7, ho =>
              simp at ho
              subst ho
              refine step_plain rfl ?_
              have e139 := hF.gave 5 rfl (hpre ⟨5, .data⟩ (by simp) rfl) rfl
              have e140 := hF.gave 6 rfl (hpre ⟨6, .data⟩ (by simp) rfl) rfl
              have hM := hR
              clear hF hpre hl hR
              have q0 := cell_keep hM s8_0
              have q1 := cell_keep hM s8_1
              have q2 := cell_keep hM s8_2
              have q3 := cell_keep hM s8_3
              have q4 := cell_keep hM s8_4
              have q5 := cell_keep hM s8_5
              have q6 := cell_keep hM s8_6
              have q7 := cell_keep hM s8_7
              go_simp
              refine ⟨trivial, ?_⟩
              refine CallsIn.mono (callsIn_wide.2 (HK.out _)) ?_
              rintro e y ⟨rfl, hy⟩
              have hs := hM.size
              exact ⟨rfl, hM.trans (hy.mono hs)⟩
            | 8, ho =>
              simp at ho
              subst ho
              refine step_plain rfl ?_
              have e137 := hF.gave 3 rfl (hpre ⟨3, .data⟩ (by simp) rfl) rfl
              have hM := hR
              clear hF hpre hl hR
              first | (go_simp; done) | (go_simp; exact hM)
            | 9, ho =>
              simp at ho
              subst ho
              refine step_plain rfl ?_
              have e141 := hF.gave 7 rfl (hpre ⟨7, .data⟩ (by simp) rfl) rfl
              have hM := hR
              clear hF hpre hl hR
              first | (go_simp; done) | (go_simp; exact hM)
            | i + 10, ho => simp at ho
        case hend =>
          intro L' b' x' hF hall hR
          have e := hF.all (by kernel_rfl) hall
          subst e
          simp [final, dstOf, List.range, List.range.loop]
          have s9_0 := cell_keep hR s8_0
          have s9_1 := cell_keep hR s8_1
          have s9_2 := cell_keep hR s8_2
          have s9_3 := cell_keep hR s8_3
          have s9_4 := cell_keep hR s8_4
          have s9_5 := cell_keep hR s8_5
          have s9_6 := cell_keep hR s8_6
          have s9_7 := cell_keep hR s8_7
          have g9_0 : w.heap.size < x'.heap.size := World.block_lt_of_cell? _ _ s9_0
          have g9_2 : w.heap.size + 1 < x'.heap.size := World.block_lt_of_cell? _ _ s9_2
          have g9_4 : w.heap.size + 1 + 1 < x'.heap.size := World.block_lt_of_cell? _ _ s9_4
          have hbq : Below w.heap.size w x' := HB8.out.trans (hR.mono HB8.out.size)
          have HB9 := Lib.hid hbq
          clear hbq hR hall hF HB8 s8_0 s8_1 s8_2 s8_3 s8_4 s8_5 s8_6 s8_7 g8_0 g8_2 g8_4
          go_upto_region 12 with (go_at_call 33; refine Calls.mono (HP.out _) ?_; rintro e w10 ⟨rfl, hb10⟩)
          have s10_0 : w10.cell? ⟨w.heap.size, 0, none⟩ = some (.int .i64 a) := cell_keep hb10 (by go_simp)
          have s10_1 : w10.cell? ⟨w.heap.size, 1, none⟩ = some (.int .i64 b) := cell_keep hb10 (by go_simp)
          have s10_2 : w10.cell? ⟨w.heap.size + 1, 0, none⟩ = some (.int .i64 c) := cell_keep hb10 (by go_simp)
          have s10_3 : w10.cell? ⟨w.heap.size + 1, 1, none⟩ = some (.int .i64 d) := cell_keep hb10 (by go_simp)
          have s10_4 : w10.cell? ⟨w.heap.size + 1 + 1, 0, none⟩ = some (.int .i64 v0) := cell_keep hb10 (by go_simp)
          have s10_5 : w10.cell? ⟨w.heap.size + 1 + 1, 1, none⟩ = some (.int .i64 v1) := cell_keep hb10 (by go_simp)
          have s10_6 : w10.cell? ⟨w.heap.size + 1 + 1, 2, none⟩ = some (.int .i64 v2) := cell_keep hb10 (by go_simp)
          have s10_7 : w10.cell? ⟨w.heap.size + 1 + 1, 3, none⟩ = some (.int .i64 v3) := cell_keep hb10 (by go_simp)
          have g10_0 : w.heap.size < w10.heap.size := World.block_lt_of_cell? _ _ s10_0
          have g10_2 : w.heap.size + 1 < w10.heap.size := World.block_lt_of_cell? _ _ s10_2
          have g10_4 : w.heap.size + 1 + 1 < w10.heap.size := World.block_lt_of_cell? _ _ s10_4
          have hbw10 : Below w.heap.size w w10 := HB9.out.trans (hb10.mono HB9.out.size)
          have HB10 := Lib.hid hbw10
          clear hb10 hbw10 s9_0 s9_1 s9_2 s9_3 s9_4 s9_5 s9_6 s9_7 g9_0 g9_2 g9_4
          rcases MP.out with ⟨rfl, rfl, rfl⟩ | rfl
          all_goals
            go_wp2_with (go_at_call 18; refine Calls.mono (HW.out _) ?_; rintro e w11 ⟨rfl, hb11⟩)
            go_ret
            exact ⟨rfl, (HB10.out.alloc (by omega) _).trans (hb11.mono (by simp <;> omega))⟩
      · go_upto_region 10 with fail
        refine wpIn_wide.1 (region_inv (n := 9) (by kernel_rfl) (fun i => match i with
            | 0 => .pointer (some ⟨w.heap.size + 1 + 1, 2, none⟩) | 1 => .int .i64 v2 | 2 => .agg #[.int .i64 0, .int .i64 1000] | 3 => .int .i64 n | 4 => .pointer (some ⟨w.heap.size + 1 + 1, 3, none⟩) | 5 => .int .i64 v3 | 6 => .agg #[.int .i64 1, .int .i64 1000] | 7 => .int .i64 k | 8 => .int .i64 n | 9 => .int .i64 k | _ => undef)
          (fun _ x => Below w6.heap.size w6 x) (by kernel_rfl) rfl (Below.refl _ _).drew ?hstep ?hend)
        case hstep =>
          intro i' o ho L b' x' hF hR hpre hl
          match i', ho with
            | 0, ho =>
              simp at ho
              subst ho
              refine step_plain rfl ?_
              have e5 := hF.was 5 (by kernel_rfl) rfl
              have hM := hR
              clear hF hpre hl hR
              first | (go_simp; done) | (go_simp; exact hM)
            | 1, ho =>
              simp at ho
              subst ho
              refine step_plain rfl ?_
              have e134 := hF.gave 0 rfl (hpre ⟨0, .data⟩ (by simp) rfl) rfl
              have hM := hR
              clear hF hpre hl hR
              have q0 := cell_keep hM s6_0
              have q1 := cell_keep hM s6_1
              have q2 := cell_keep hM s6_2
              have q3 := cell_keep hM s6_3
              have q4 := cell_keep hM s6_4
              have q5 := cell_keep hM s6_5
              have q6 := cell_keep hM s6_6
              have q7 := cell_keep hM s6_7
              first | (go_simp; done) | (go_simp; exact hM)
            | 2, ho =>
              simp at ho
              subst ho
              refine step_plain rfl ?_
              have hM := hR
              clear hF hpre hl hR
              first | (go_simp; done) | (go_simp; exact hM)
            | 3, ho =>
              simp at ho
              subst ho
              refine step_plain rfl ?_
              have e135 := hF.gave 1 rfl (hpre ⟨1, .data⟩ (by simp) rfl) rfl
              have e136 := hF.gave 2 rfl (hpre ⟨2, .data⟩ (by simp) rfl) rfl
              have hM := hR
              clear hF hpre hl hR
              have q0 := cell_keep hM s6_0
              have q1 := cell_keep hM s6_1
              have q2 := cell_keep hM s6_2
              have q3 := cell_keep hM s6_3
              have q4 := cell_keep hM s6_4
              have q5 := cell_keep hM s6_5
              have q6 := cell_keep hM s6_6
              have q7 := cell_keep hM s6_7
              go_simp
              refine ⟨trivial, ?_⟩
              refine CallsIn.mono (callsIn_wide.2 (HN.out _)) ?_
              rintro e y ⟨rfl, hy⟩
              have hs := hM.size
              exact ⟨rfl, hM.trans (hy.mono hs)⟩
            | 4, ho =>
              simp at ho
              subst ho
              refine step_plain rfl ?_
              have e5 := hF.was 5 (by kernel_rfl) rfl
              have hM := hR
              clear hF hpre hl hR
              first | (go_simp; done) | (go_simp; exact hM)
            | 5, ho =>
              simp at ho
              subst ho
              refine step_plain rfl ?_
              have e138 := hF.gave 4 rfl (hpre ⟨4, .data⟩ (by simp) rfl) rfl
              have hM := hR
              clear hF hpre hl hR
              have q0 := cell_keep hM s6_0
              have q1 := cell_keep hM s6_1
              have q2 := cell_keep hM s6_2
              have q3 := cell_keep hM s6_3
              have q4 := cell_keep hM s6_4
              have q5 := cell_keep hM s6_5
              have q6 := cell_keep hM s6_6
              have q7 := cell_keep hM s6_7
              first | (go_simp; done) | (go_simp; exact hM)
            | 6, ho =>
              simp at ho
              subst ho
              refine step_plain rfl ?_
              have hM := hR
              clear hF hpre hl hR
              first | (go_simp; done) | (go_simp; exact hM)
            | 7, ho =>
              simp at ho
              subst ho
              refine step_plain rfl ?_
              have e139 := hF.gave 5 rfl (hpre ⟨5, .data⟩ (by simp) rfl) rfl
              have e140 := hF.gave 6 rfl (hpre ⟨6, .data⟩ (by simp) rfl) rfl
              have hM := hR
              clear hF hpre hl hR
              have q0 := cell_keep hM s6_0
              have q1 := cell_keep hM s6_1
              have q2 := cell_keep hM s6_2
              have q3 := cell_keep hM s6_3
              have q4 := cell_keep hM s6_4
              have q5 := cell_keep hM s6_5
              have q6 := cell_keep hM s6_6
              have q7 := cell_keep hM s6_7
              go_simp
              refine ⟨trivial, ?_⟩
              refine CallsIn.mono (callsIn_wide.2 (HK.out _)) ?_
              rintro e y ⟨rfl, hy⟩
              have hs := hM.size
              exact ⟨rfl, hM.trans (hy.mono hs)⟩
            | 8, ho =>
              simp at ho
              subst ho
              refine step_plain rfl ?_
              have e137 := hF.gave 3 rfl (hpre ⟨3, .data⟩ (by simp) rfl) rfl
              have hM := hR
              clear hF hpre hl hR
              first | (go_simp; done) | (go_simp; exact hM)
            | 9, ho =>
              simp at ho
              subst ho
              refine step_plain rfl ?_
              have e141 := hF.gave 7 rfl (hpre ⟨7, .data⟩ (by simp) rfl) rfl
              have hM := hR
              clear hF hpre hl hR
              first | (go_simp; done) | (go_simp; exact hM)
            | i + 10, ho => simp at ho
        case hend =>
          intro L' b' x' hF hall hR
          have e := hF.all (by kernel_rfl) hall
          subst e
          simp [final, dstOf, List.range, List.range.loop]
          have s9_0 := cell_keep hR s6_0
          have s9_1 := cell_keep hR s6_1
          have s9_2 := cell_keep hR s6_2
          have s9_3 := cell_keep hR s6_3
          have s9_4 := cell_keep hR s6_4
          have s9_5 := cell_keep hR s6_5
          have s9_6 := cell_keep hR s6_6
          have s9_7 := cell_keep hR s6_7
          have g9_0 : w.heap.size < x'.heap.size := World.block_lt_of_cell? _ _ s9_0
          have g9_2 : w.heap.size + 1 < x'.heap.size := World.block_lt_of_cell? _ _ s9_2
          have g9_4 : w.heap.size + 1 + 1 < x'.heap.size := World.block_lt_of_cell? _ _ s9_4
          have hbq : Below w.heap.size w x' := HB6.out.trans (hR.mono HB6.out.size)
          have HB9 := Lib.hid hbq
          clear hbq hR hall hF HB6 s6_0 s6_1 s6_2 s6_3 s6_4 s6_5 s6_6 s6_7 g6_0 g6_2 g6_4
          go_upto_region 12 with (go_at_call 33; refine Calls.mono (HP.out _) ?_; rintro e w10 ⟨rfl, hb10⟩)
          have s10_0 : w10.cell? ⟨w.heap.size, 0, none⟩ = some (.int .i64 a) := cell_keep hb10 (by go_simp)
          have s10_1 : w10.cell? ⟨w.heap.size, 1, none⟩ = some (.int .i64 b) := cell_keep hb10 (by go_simp)
          have s10_2 : w10.cell? ⟨w.heap.size + 1, 0, none⟩ = some (.int .i64 c) := cell_keep hb10 (by go_simp)
          have s10_3 : w10.cell? ⟨w.heap.size + 1, 1, none⟩ = some (.int .i64 d) := cell_keep hb10 (by go_simp)
          have s10_4 : w10.cell? ⟨w.heap.size + 1 + 1, 0, none⟩ = some (.int .i64 v0) := cell_keep hb10 (by go_simp)
          have s10_5 : w10.cell? ⟨w.heap.size + 1 + 1, 1, none⟩ = some (.int .i64 v1) := cell_keep hb10 (by go_simp)
          have s10_6 : w10.cell? ⟨w.heap.size + 1 + 1, 2, none⟩ = some (.int .i64 v2) := cell_keep hb10 (by go_simp)
          have s10_7 : w10.cell? ⟨w.heap.size + 1 + 1, 3, none⟩ = some (.int .i64 v3) := cell_keep hb10 (by go_simp)
          have g10_0 : w.heap.size < w10.heap.size := World.block_lt_of_cell? _ _ s10_0
          have g10_2 : w.heap.size + 1 < w10.heap.size := World.block_lt_of_cell? _ _ s10_2
          have g10_4 : w.heap.size + 1 + 1 < w10.heap.size := World.block_lt_of_cell? _ _ s10_4
          have hbw10 : Below w.heap.size w w10 := HB9.out.trans (hb10.mono HB9.out.size)
          have HB10 := Lib.hid hbw10
          clear hb10 hbw10 s9_0 s9_1 s9_2 s9_3 s9_4 s9_5 s9_6 s9_7 g9_0 g9_2 g9_4
          rcases MP.out with ⟨rfl, rfl, rfl⟩ | rfl
          all_goals
            go_wp2_with (go_at_call 18; refine Calls.mono (HW.out _) ?_; rintro e w11 ⟨rfl, hb11⟩)
            go_ret
            exact ⟨rfl, (HB10.out.alloc (by omega) _).trans (hb11.mono (by simp <;> omega))⟩

end Go.Proofs.Ytjdahphnmeaolaa

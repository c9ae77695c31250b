/- Part of both sides. -/
import Derived.Test.YtjdahphnmeaolaaAdd
namespace Go.Proofs.Ytjdahphnmeaolaa
open Go.RowKit

def partS (a b n d : Int) : (Int × Int) × Int := if vI a b then (if (0 ≤ n ∧ n ≤ 1000) ∧ (1 ≤ d ∧ d ≤ 1000) then madeS (fl (a * n) d) (cl (b * n) d) else ((0, 0), 1)) else ((0, 0), 10)

set_option maxRecDepth 100000 in
set_option maxHeartbeats 2000000 in
theorem rpart_any (a b n d : Int) (w : World) : Calls Try.prog 34 #[.agg #[.int .i64 a, .int .i64 b], .int .i64 n, .int .i64 d] w fun e w' =>
    e = .returned (.tuple #[.agg #[.int .i64 (partS a b n d).1.1, .int .i64 (partS a b n d).1.2], .int .i64 (partS a b n d).2]) ∧ Below w.heap.size w w' := by
  cases h1 : vI a b with
  | false =>
    have e0 : partS a b n d = ((0, 0), 10) := by unfold partS; rw [h1]; rfl
    rw [e0]
    clear e0
    have HE := Lib.hid h1
    clear h1
    go_enter Try.func34, Try.ntmps34
    go_wp2_with (go_at_call 57; refine Calls.mono (rvalid_any a b _) ?_; rintro e w1 ⟨rfl, hb1⟩; rw [HE.out]; have t0 : w1.cell? ⟨w.heap.size, 0, none⟩ = some (.int .i64 a) := cell_keep hb1 (by go_simp); have t1 : w1.cell? ⟨w.heap.size, 1, none⟩ = some (.int .i64 b) := cell_keep hb1 (by go_simp); have t4 : w1.cell? ⟨w.heap.size + 1, 0, none⟩ = some (.int .i64 0) := cell_keep hb1 (by go_simp); have t5 : w1.cell? ⟨w.heap.size + 1, 1, none⟩ = some (.int .i64 0) := cell_keep hb1 (by go_simp); have t6 : w1.frozen? ⟨w.heap.size + 1, 0, none⟩ = false := (hb1.frozen (p := ⟨w.heap.size + 1, 0, none⟩) (by simp <;> omega)).trans (by go_simp); have t7 : w1.frozen? ⟨w.heap.size + 1, 1, none⟩ = false := (hb1.frozen (p := ⟨w.heap.size + 1, 1, none⟩) (by simp <;> omega)).trans (by go_simp); have l0 : w.heap.size < w1.heap.size := World.block_lt_of_cell? _ _ t0; have l2 : w.heap.size + 1 < w1.heap.size := World.block_lt_of_cell? _ _ t4; have hbw : Below w.heap.size w w1 := Below.trans (by go_grown) (hb1.mono (by simp <;> omega)); have HBW := Lib.hid hbw; clear hb1 hbw)
    have z1 : ∀ v, (w1.setCell ⟨w.heap.size + 1, 0, none⟩ v).cell? ⟨w.heap.size + 1, 0, none⟩ = some v := fun v => World.cell?_setCell_same' _ _ _ (by rw [t4]; rfl)
    have z2 : ∀ v u, ((w1.setCell ⟨w.heap.size + 1, 0, none⟩ v).setCell ⟨w.heap.size + 1, 1, none⟩ u).cell? ⟨w.heap.size + 1, 1, none⟩ = some u := fun v u => World.cell?_setCell_same' _ _ _ (by rw [World.cell?_setCell_other _ _ _ _ (by simp)]; rw [t5]; rfl)
    refine bodyPost_ret (v := .tuple #[.agg #[.int .i64 0, .int .i64 0], .int .i64 10]) (by simp [results, Try.results34, go_sem, z1, z2]) rfl ?_
    exact ⟨rfl, (HBW.out.setCell (by simp) _).setCell (by simp) _⟩
  | true =>
    have HE := Lib.hid h1
    obtain ⟨i1, i2, i3, i4, i5⟩ := vI_get h1
    by_cases hd : (0 ≤ n ∧ n ≤ 1000) ∧ (1 ≤ d ∧ d ≤ 1000)
    · have e0 : partS a b n d = madeS (fl (a * n) d) (cl (b * n) d) := by unfold partS; rw [h1, if_pos rfl, if_pos hd]
      rw [e0]
      obtain ⟨⟨n1, n2⟩, n3, n4⟩ := hd
      have hM := fun W => made_any (fl (a * n) d) (cl (b * n) d) W
      generalize madeS (fl (a * n) d) (cl (b * n) d) = m at *
      obtain ⟨⟨m0, m1⟩, me⟩ := m
      have HM := Lib.hid hM
      have k1 := mul_bd3 (a := a) (c := n) (M := 1000000) (N := 1000) i1 i2 (by omega) n2 (by omega)
      have k2 := mul_bd3 (a := b) (c := n) (M := 1000000) (N := 1000) i3 i4 (by omega) n2 (by omega)
      obtain ⟨k11, k12⟩ := k1
      obtain ⟨k21, k22⟩ := k2
      have j1 : IntKind.i64.wrap (a * n) = a * n := IntWalk.i64_in _ (by omega)
      have j2 : IntKind.i64.wrap (b * n) = b * n := IntWalk.i64_in _ (by omega)
      clear e0 hM h1
      go_enter Try.func34, Try.ntmps34
      go_upto_region 5 with (first
        | (go_at_call 57; refine Calls.mono (rvalid_any a b _) ?_; rintro e w1 ⟨rfl, hb1⟩; rw [HE.out]; have t0 : w1.cell? ⟨w.heap.size, 0, none⟩ = some (.int .i64 a) := cell_keep hb1 (by go_simp); have t1 : w1.cell? ⟨w.heap.size, 1, none⟩ = some (.int .i64 b) := cell_keep hb1 (by go_simp); have t4 : w1.cell? ⟨w.heap.size + 1, 0, none⟩ = some (.int .i64 0) := cell_keep hb1 (by go_simp); have t5 : w1.cell? ⟨w.heap.size + 1, 1, none⟩ = some (.int .i64 0) := cell_keep hb1 (by go_simp); have t6 : w1.frozen? ⟨w.heap.size + 1, 0, none⟩ = false := (hb1.frozen (p := ⟨w.heap.size + 1, 0, none⟩) (by simp <;> omega)).trans (by go_simp); have t7 : w1.frozen? ⟨w.heap.size + 1, 1, none⟩ = false := (hb1.frozen (p := ⟨w.heap.size + 1, 1, none⟩) (by simp <;> omega)).trans (by go_simp); have l0 : w.heap.size < w1.heap.size := World.block_lt_of_cell? _ _ t0; have l2 : w.heap.size + 1 < w1.heap.size := World.block_lt_of_cell? _ _ t4; have hbw : Below w.heap.size w w1 := Below.trans (by go_grown) (hb1.mono (by simp <;> omega)); have HBW := Lib.hid hbw; clear hb1 hbw)
        | (go_at_call 48; refine Calls.mono (from_any _ _ _ _) ?_; rintro e w9 ⟨rfl, rfl⟩))
      refine wpIn_wide.1 (region_inv (n := 9) (by kernel_rfl) (fun i => match i with
          | 0 => .pointer (some ⟨w.heap.size, 0, none⟩) | 1 => .int .i64 a | 2 => .int .i64 n | 3 => .int .i64 (a * n) | 4 => .int .i64 d | 5 => .int .i64 (fl (a * n) d) | 6 => .pointer (some ⟨w.heap.size, 1, none⟩) | 7 => .int .i64 b | 8 => .int .i64 n | 9 => .int .i64 (b * n) | 10 => .int .i64 d | 11 => .int .i64 (cl (b * n) d) | 12 => .agg #[.int .i64 (fl (a * n) d), .int .i64 (cl (b * n) d)] | 13 => .tuple #[.agg #[.int .i64 m0, .int .i64 m1], .int .i64 me] | 14 => .agg #[.int .i64 m0, .int .i64 m1] | 15 => .int .i64 me | 17 => .int .i64 me | _ => undef)
        (fun L x => (L.getD 16 false = false → Below w1.heap.size w1 x) ∧ (L.getD 16 false = true → ∃ y, Below w1.heap.size w1 y ∧ x = (y.setCell ⟨w.heap.size + 1, 0, none⟩ (.int .i64 m0)).setCell ⟨w.heap.size + 1, 1, none⟩ (.int .i64 m1)))
        (by kernel_rfl) rfl ⟨fun _ => (Below.refl _ _).drew, fun h => by simp at h⟩ ?hstep ?hend)
      case hstep =>
        intro i' o ho L b' x' hF hR hpre hl
        match i', ho with
        | 0, ho =>
          simp at ho
          subst ho
          refine step_plain rfl ?_
          have e3 := hF.was 3 (by kernel_rfl) rfl
          have hN := hF.later hl 16 rfl (e := ⟨0, .phase⟩) (by simp) rfl rfl
          have hM := hR.1 hN
          rw [Array.getD_eq_getD_getElem?] at hN
          clear hF hpre hl hR
          first | (go_simp; done) | (go_simp; exact hM)
        | 1, ho =>
          simp at ho
          subst ho
          refine step_plain rfl ?_
          have e21 := hF.gave 0 rfl (hpre ⟨0, .data⟩ (by simp) rfl) rfl
          have hN := hF.later hl 16 rfl (e := ⟨1, .phase⟩) (by simp) rfl rfl
          have hM := hR.1 hN
          rw [Array.getD_eq_getD_getElem?] at hN
          clear hF hpre hl hR
          have q0 := cell_keep hM t0
          have q1 := cell_keep hM t1
          first | (go_simp; done) | (go_simp; exact hM)
        | 2, ho =>
          simp at ho
          subst ho
          refine step_plain rfl ?_
          have e1 := hF.was 1 (by kernel_rfl) rfl
          have hN := hF.later hl 16 rfl (e := ⟨2, .phase⟩) (by simp) rfl rfl
          have hM := hR.1 hN
          rw [Array.getD_eq_getD_getElem?] at hN
          clear hF hpre hl hR
          first | (go_simp; done) | (go_simp; exact hM)
        | 3, ho =>
          simp at ho
          subst ho
          refine step_plain rfl ?_
          have e22 := hF.gave 1 rfl (hpre ⟨1, .data⟩ (by simp) rfl) rfl
          have e23 := hF.gave 2 rfl (hpre ⟨2, .data⟩ (by simp) rfl) rfl
          have hN := hF.later hl 16 rfl (e := ⟨3, .phase⟩) (by simp) rfl rfl
          have hM := hR.1 hN
          rw [Array.getD_eq_getD_getElem?] at hN
          clear hF hpre hl hR
          first | (go_simp; done) | (go_simp; exact hM)
        | 4, ho =>
          simp at ho
          subst ho
          refine step_plain rfl ?_
          have e2 := hF.was 2 (by kernel_rfl) rfl
          have hN := hF.later hl 16 rfl (e := ⟨4, .phase⟩) (by simp) rfl rfl
          have hM := hR.1 hN
          rw [Array.getD_eq_getD_getElem?] at hN
          clear hF hpre hl hR
          first | (go_simp; done) | (go_simp; exact hM)
        | 5, ho =>
          simp at ho
          subst ho
          refine step_plain rfl ?_
          have e24 := hF.gave 3 rfl (hpre ⟨3, .data⟩ (by simp) rfl) rfl
          have e25 := hF.gave 4 rfl (hpre ⟨4, .data⟩ (by simp) rfl) rfl
          have hN := hF.later hl 16 rfl (e := ⟨5, .phase⟩) (by simp) rfl rfl
          have hM := hR.1 hN
          rw [Array.getD_eq_getD_getElem?] at hN
          clear hF hpre hl hR
          have q0 := cell_keep hM t0
          have q1 := cell_keep hM t1
          go_simp
          refine ⟨trivial, ?_⟩
          refine CallsIn.mono (callsIn_wide.2 (rfloor_any (a * n) d _ (by omega) (by omega) (by omega) (by omega))) ?_
          rintro e y ⟨rfl, rfl⟩
          exact ⟨rfl, hM⟩
        | 6, ho =>
          simp at ho
          subst ho
          refine step_plain rfl ?_
          have e3 := hF.was 3 (by kernel_rfl) rfl
          have hN := hF.later hl 16 rfl (e := ⟨6, .phase⟩) (by simp) rfl rfl
          have hM := hR.1 hN
          rw [Array.getD_eq_getD_getElem?] at hN
          clear hF hpre hl hR
          first | (go_simp; done) | (go_simp; exact hM)
        | 7, ho =>
          simp at ho
          subst ho
          refine step_plain rfl ?_
          have e27 := hF.gave 6 rfl (hpre ⟨6, .data⟩ (by simp) rfl) rfl
          have hN := hF.later hl 16 rfl (e := ⟨7, .phase⟩) (by simp) rfl rfl
          have hM := hR.1 hN
          rw [Array.getD_eq_getD_getElem?] at hN
          clear hF hpre hl hR
          have q0 := cell_keep hM t0
          have q1 := cell_keep hM t1
          first | (go_simp; done) | (go_simp; exact hM)
        | 8, ho =>
          simp at ho
          subst ho
          refine step_plain rfl ?_
          have e1 := hF.was 1 (by kernel_rfl) rfl
          have hN := hF.later hl 16 rfl (e := ⟨8, .phase⟩) (by simp) rfl rfl
          have hM := hR.1 hN
          rw [Array.getD_eq_getD_getElem?] at hN
          clear hF hpre hl hR
          first | (go_simp; done) | (go_simp; exact hM)
        | 9, ho =>
          simp at ho
          subst ho
          refine step_plain rfl ?_
          have e28 := hF.gave 7 rfl (hpre ⟨7, .data⟩ (by simp) rfl) rfl
          have e29 := hF.gave 8 rfl (hpre ⟨8, .data⟩ (by simp) rfl) rfl
          have hN := hF.later hl 16 rfl (e := ⟨9, .phase⟩) (by simp) rfl rfl
          have hM := hR.1 hN
          rw [Array.getD_eq_getD_getElem?] at hN
          clear hF hpre hl hR
          first | (go_simp; done) | (go_simp; exact hM)
        | 10, ho =>
          simp at ho
          subst ho
          refine step_plain rfl ?_
          have e2 := hF.was 2 (by kernel_rfl) rfl
          have hN := hF.later hl 16 rfl (e := ⟨10, .phase⟩) (by simp) rfl rfl
          have hM := hR.1 hN
          rw [Array.getD_eq_getD_getElem?] at hN
          clear hF hpre hl hR
          first | (go_simp; done) | (go_simp; exact hM)
        | 11, ho =>
          simp at ho
          subst ho
          refine step_plain rfl ?_
          have e30 := hF.gave 9 rfl (hpre ⟨9, .data⟩ (by simp) rfl) rfl
          have e31 := hF.gave 10 rfl (hpre ⟨10, .data⟩ (by simp) rfl) rfl
          have hN := hF.later hl 16 rfl (e := ⟨11, .phase⟩) (by simp) rfl rfl
          have hM := hR.1 hN
          rw [Array.getD_eq_getD_getElem?] at hN
          clear hF hpre hl hR
          have q0 := cell_keep hM t0
          have q1 := cell_keep hM t1
          go_simp
          refine ⟨trivial, ?_⟩
          refine CallsIn.mono (callsIn_wide.2 (rceil_any (b * n) d _ (by omega) (by omega) (by omega) (by omega))) ?_
          rintro e y ⟨rfl, rfl⟩
          exact ⟨rfl, hM⟩
        | 12, ho =>
          simp at ho
          subst ho
          refine step_plain rfl ?_
          have e26 := hF.gave 5 rfl (hpre ⟨5, .data⟩ (by simp) rfl) rfl
          have e32 := hF.gave 11 rfl (hpre ⟨11, .data⟩ (by simp) rfl) rfl
          have hN := hF.later hl 16 rfl (e := ⟨12, .phase⟩) (by simp) rfl rfl
          have hM := hR.1 hN
          rw [Array.getD_eq_getD_getElem?] at hN
          clear hF hpre hl hR
          first | (go_simp; done) | (go_simp; exact hM)
        | 13, ho =>
          simp at ho
          subst ho
          refine step_plain rfl ?_
          have e33 := hF.gave 12 rfl (hpre ⟨12, .data⟩ (by simp) rfl) rfl
          have hN := hF.later hl 16 rfl (e := ⟨13, .phase⟩) (by simp) rfl rfl
          have hM := hR.1 hN
          rw [Array.getD_eq_getD_getElem?] at hN
          clear hF hpre hl hR
          have q0 := cell_keep hM t0
          have q1 := cell_keep hM t1
          go_simp
          refine ⟨trivial, ?_⟩
          refine CallsIn.mono (callsIn_wide.2 (HM.out _)) ?_
          rintro e y ⟨rfl, hy⟩
          have hs := hM.size
          exact ⟨rfl, hM.trans (hy.mono hs)⟩
        | 14, ho =>
          simp at ho
          subst ho
          refine step_plain rfl ?_
          have e34 := hF.gave 13 rfl (hpre ⟨13, .data⟩ (by simp) rfl) rfl
          have hN := hF.later hl 16 rfl (e := ⟨14, .phase⟩) (by simp) rfl rfl
          have hM := hR.1 hN
          rw [Array.getD_eq_getD_getElem?] at hN
          clear hF hpre hl hR
          first | (go_simp; done) | (go_simp; exact hM)
        | 15, ho =>
          simp at ho
          subst ho
          refine step_plain rfl ?_
          have e34 := hF.gave 13 rfl (hpre ⟨13, .data⟩ (by simp) rfl) rfl
          have hN := hF.later hl 16 rfl (e := ⟨15, .phase⟩) (by simp) rfl rfl
          have hM := hR.1 hN
          rw [Array.getD_eq_getD_getElem?] at hN
          clear hF hpre hl hR
          first | (go_simp; done) | (go_simp; exact hM)
        | 16, ho =>
          simp at ho
          subst ho
          refine step_plain rfl ?_
          have e6 := hF.was 6 (by kernel_rfl) rfl
          have e35 := hF.gave 14 rfl (hpre ⟨14, .data⟩ (by simp) rfl) rfl
          have hls := hF.lsize
          have hls' : 16 < L.size := by rw [hls]; decide
          have hM := hR.1 (by rw [← getD_same hls']; exact hl)
          clear hF hpre hl hR hls
          have q0 := cell_keep hM t4
          have q1 := cell_keep hM t5
          have q4 := (hM.frozen (p := ⟨w.heap.size + 1, 0, none⟩) l2).trans t6
          have q5 := (hM.frozen (p := ⟨w.heap.size + 1, 1, none⟩) l2).trans t7
          go_simp
          exact ⟨x', hM, rfl⟩
        | 17, ho =>
          simp at ho
          subst ho
          refine step_plain rfl ?_
          have e36 := hF.gave 15 rfl (hpre ⟨15, .data⟩ (by simp) rfl) rfl
          have hT : L.getD 16 false = true := hpre ⟨16, .phase⟩ (by simp) rfl
          obtain ⟨y, hy, rfl⟩ := hR.2 hT
          rw [Array.getD_eq_getD_getElem?] at hT
          clear hF hpre hl hR
          go_simp
          exact ⟨y, hy, rfl⟩
        | i + 18, ho => simp at ho
      case hend =>
        intro L b' x' hF hall hR
        obtain ⟨y, hy, rfl⟩ := hR.2 (hall 16 (by decide))
        have e := hF.all (by kernel_rfl) hall
        subst e
        simp [final, dstOf, List.range, List.range.loop]
        have u4 := cell_keep hy t4
        have u5 := cell_keep hy t5
        have hby := Lib.hid (HBW.out.trans (hy.mono HBW.out.size))
        have z1 : ∀ v, (y.setCell ⟨w.heap.size + 1, 0, none⟩ v).cell? ⟨w.heap.size + 1, 0, none⟩ = some v := fun v => World.cell?_setCell_same' _ _ _ (by rw [u4]; rfl)
        have z2 : ∀ v u, ((y.setCell ⟨w.heap.size + 1, 0, none⟩ v).setCell ⟨w.heap.size + 1, 1, none⟩ u).cell? ⟨w.heap.size + 1, 1, none⟩ = some u := fun v u => World.cell?_setCell_same' _ _ _ (by rw [World.cell?_setCell_other _ _ _ _ (by simp), u5]; rfl)
        clear hF hall hR hy
        go_wp2
        refine bodyPost_ret (v := .tuple #[.agg #[.int .i64 m0, .int .i64 m1], .int .i64 me]) (by simp [results, Try.results34, go_sem, z1, z2]) rfl ?_
        exact ⟨rfl, (hby.out.setCell (by simp) _).setCell (by simp) _⟩
    · have e0 : partS a b n d = ((0, 0), 1) := by unfold partS; rw [h1, if_pos rfl, if_neg hd]
      rw [e0]
      clear e0 h1
      by_cases hn : 0 ≤ n ∧ n ≤ 1000
      · have b1 : (decide (0 ≤ n) && decide (n ≤ 1000)) = true := by simp; omega
        have b2 : (decide (1 ≤ d) && decide (d ≤ 1000)) = false := by rw [Bool.eq_false_iff]; simp; omega
        have HB1 := Lib.hid b1
        have HB2 := Lib.hid b2
        clear hd hn b1 b2
        go_enter Try.func34, Try.ntmps34
        go_wp2_with (first
          | (go_at_call 57; refine Calls.mono (rvalid_any a b _) ?_; rintro e w1 ⟨rfl, hb1⟩; rw [HE.out]; have t0 : w1.cell? ⟨w.heap.size, 0, none⟩ = some (.int .i64 a) := cell_keep hb1 (by go_simp); have t1 : w1.cell? ⟨w.heap.size, 1, none⟩ = some (.int .i64 b) := cell_keep hb1 (by go_simp); have t4 : w1.cell? ⟨w.heap.size + 1, 0, none⟩ = some (.int .i64 0) := cell_keep hb1 (by go_simp); have t5 : w1.cell? ⟨w.heap.size + 1, 1, none⟩ = some (.int .i64 0) := cell_keep hb1 (by go_simp); have t6 : w1.frozen? ⟨w.heap.size + 1, 0, none⟩ = false := (hb1.frozen (p := ⟨w.heap.size + 1, 0, none⟩) (by simp <;> omega)).trans (by go_simp); have t7 : w1.frozen? ⟨w.heap.size + 1, 1, none⟩ = false := (hb1.frozen (p := ⟨w.heap.size + 1, 1, none⟩) (by simp <;> omega)).trans (by go_simp); have l0 : w.heap.size < w1.heap.size := World.block_lt_of_cell? _ _ t0; have l2 : w.heap.size + 1 < w1.heap.size := World.block_lt_of_cell? _ _ t4; have hbw : Below w.heap.size w w1 := Below.trans (by go_grown) (hb1.mono (by simp <;> omega)); have HBW := Lib.hid hbw; clear hb1 hbw)
          | (go_at_call_of 48 (Value.int .i64 n); refine Calls.mono (from_any n 0 1000 _) ?_; rintro e w9 ⟨rfl, rfl⟩; rw [HB1.out])
          | (go_at_call_of 48 (Value.int .i64 d); refine Calls.mono (from_any d 1 1000 _) ?_; rintro e w9 ⟨rfl, rfl⟩; rw [HB2.out]))
        have z1 : ∀ v u, (((w1.setCell ⟨w.heap.size + 1, 0, none⟩ v).setCell ⟨w.heap.size + 1, 1, none⟩ u)).cell? ⟨w.heap.size + 1, 0, none⟩ = some v := fun v u => by
          rw [World.cell?_setCell_other _ _ _ _ (by simp)]; exact World.cell?_setCell_same' _ _ _ (by rw [t4]; rfl)
        have z2 : ∀ v u, (((w1.setCell ⟨w.heap.size + 1, 0, none⟩ v).setCell ⟨w.heap.size + 1, 1, none⟩ u)).cell? ⟨w.heap.size + 1, 1, none⟩ = some u := fun v u => by
          exact World.cell?_setCell_same' _ _ _ (by rw [World.cell?_setCell_other _ _ _ _ (by simp), t5]; rfl)
        refine bodyPost_ret (v := .tuple #[.agg #[.int .i64 0, .int .i64 0], .int .i64 1]) (by simp [results, Try.results34, go_sem, z1, z2]) rfl ?_
        exact ⟨rfl, (HBW.out.setCell (by simp) _).setCell (by simp) _⟩
      · have b1 : (decide (0 ≤ n) && decide (n ≤ 1000)) = false := by rw [Bool.eq_false_iff]; simp; omega
        have HB1 := Lib.hid b1
        clear hd hn b1
        go_enter Try.func34, Try.ntmps34
        go_wp2_with (first
          | (go_at_call 57; refine Calls.mono (rvalid_any a b _) ?_; rintro e w1 ⟨rfl, hb1⟩; rw [HE.out]; have t0 : w1.cell? ⟨w.heap.size, 0, none⟩ = some (.int .i64 a) := cell_keep hb1 (by go_simp); have t1 : w1.cell? ⟨w.heap.size, 1, none⟩ = some (.int .i64 b) := cell_keep hb1 (by go_simp); have t4 : w1.cell? ⟨w.heap.size + 1, 0, none⟩ = some (.int .i64 0) := cell_keep hb1 (by go_simp); have t5 : w1.cell? ⟨w.heap.size + 1, 1, none⟩ = some (.int .i64 0) := cell_keep hb1 (by go_simp); have t6 : w1.frozen? ⟨w.heap.size + 1, 0, none⟩ = false := (hb1.frozen (p := ⟨w.heap.size + 1, 0, none⟩) (by simp <;> omega)).trans (by go_simp); have t7 : w1.frozen? ⟨w.heap.size + 1, 1, none⟩ = false := (hb1.frozen (p := ⟨w.heap.size + 1, 1, none⟩) (by simp <;> omega)).trans (by go_simp); have l0 : w.heap.size < w1.heap.size := World.block_lt_of_cell? _ _ t0; have l2 : w.heap.size + 1 < w1.heap.size := World.block_lt_of_cell? _ _ t4; have hbw : Below w.heap.size w w1 := Below.trans (by go_grown) (hb1.mono (by simp <;> omega)); have HBW := Lib.hid hbw; clear hb1 hbw)
          | (go_at_call_of 48 (Value.int .i64 n); refine Calls.mono (from_any n 0 1000 _) ?_; rintro e w9 ⟨rfl, rfl⟩; rw [HB1.out]))
        have z1 : ∀ v u, (((w1.setCell ⟨w.heap.size + 1, 0, none⟩ v).setCell ⟨w.heap.size + 1, 1, none⟩ u)).cell? ⟨w.heap.size + 1, 0, none⟩ = some v := fun v u => by
          rw [World.cell?_setCell_other _ _ _ _ (by simp)]; exact World.cell?_setCell_same' _ _ _ (by rw [t4]; rfl)
        have z2 : ∀ v u, (((w1.setCell ⟨w.heap.size + 1, 0, none⟩ v).setCell ⟨w.heap.size + 1, 1, none⟩ u)).cell? ⟨w.heap.size + 1, 1, none⟩ = some u := fun v u => by
          exact World.cell?_setCell_same' _ _ _ (by rw [World.cell?_setCell_other _ _ _ _ (by simp), t5]; rfl)
        refine bodyPost_ret (v := .tuple #[.agg #[.int .i64 0, .int .i64 0], .int .i64 1]) (by simp [results, Try.results34, go_sem, z1, z2]) rfl ?_
        exact ⟨rfl, (HBW.out.setCell (by simp) _).setCell (by simp) _⟩

set_option maxRecDepth 100000 in
set_option maxHeartbeats 2000000 in
theorem part_span_any (a b n d : Int) (w : World) : Calls Try.prog 33 #[.agg #[.int .i64 a, .int .i64 b], .int .i64 n, .int .i64 d] w fun e w' =>
    e = .returned (.tuple #[.agg #[.int .i64 (partS a b n d).1.1, .int .i64 (partS a b n d).1.2], .int .i64 (partS a b n d).2]) ∧ Below w.heap.size w w' := by
  cases h1 : vI a b with
  | false =>
    have e0 : partS a b n d = ((0, 0), 10) := by unfold partS; rw [h1]; rfl
    rw [e0]
    clear e0
    have hE : [(a, b)].all vS = false := by simp only [List.all_cons, List.all_nil, Bool.and_true, vS_vI]; exact h1
    have HE := Lib.hid hE
    clear hE h1
    go_enter Try.func33, Try.ntmps33
    go_wp2_with (go_at_call 65; refine Calls.mono (valid_any _ _ _ _ [(a, b)] _ rfl (le_maxLen (by simp)) ?c3 (RS.new1 (by simp))) ?_; (case c3 => simp); rintro e w1 ⟨rfl, hb1⟩; rw [HE.out]; have t0 : w1.cell? ⟨w.heap.size, 0, none⟩ = some (.int .i64 a) := cell_keep hb1 (by go_simp); have t1 : w1.cell? ⟨w.heap.size, 1, none⟩ = some (.int .i64 b) := cell_keep hb1 (by go_simp); have t4 : w1.cell? ⟨w.heap.size + 1, 0, none⟩ = some (.int .i64 0) := cell_keep hb1 (by go_simp); have t5 : w1.cell? ⟨w.heap.size + 1, 1, none⟩ = some (.int .i64 0) := cell_keep hb1 (by go_simp); have t6 : w1.frozen? ⟨w.heap.size + 1, 0, none⟩ = false := (hb1.frozen (p := ⟨w.heap.size + 1, 0, none⟩) (by simp <;> omega)).trans (by go_simp); have t7 : w1.frozen? ⟨w.heap.size + 1, 1, none⟩ = false := (hb1.frozen (p := ⟨w.heap.size + 1, 1, none⟩) (by simp <;> omega)).trans (by go_simp); have l0 : w.heap.size < w1.heap.size := World.block_lt_of_cell? _ _ t0; have l2 : w.heap.size + 1 < w1.heap.size := World.block_lt_of_cell? _ _ t4; have hbw : Below w.heap.size w w1 := Below.trans (by go_grown) (hb1.mono (by simp <;> omega)); have HBW := Lib.hid hbw; clear hb1 hbw)
    have z1 : ∀ v, (w1.setCell ⟨w.heap.size + 1, 0, none⟩ v).cell? ⟨w.heap.size + 1, 0, none⟩ = some v := fun v => World.cell?_setCell_same' _ _ _ (by rw [t4]; rfl)
    have z2 : ∀ v u, ((w1.setCell ⟨w.heap.size + 1, 0, none⟩ v).setCell ⟨w.heap.size + 1, 1, none⟩ u).cell? ⟨w.heap.size + 1, 1, none⟩ = some u := fun v u => World.cell?_setCell_same' _ _ _ (by rw [World.cell?_setCell_other _ _ _ _ (by simp)]; rw [t5]; rfl)
    refine bodyPost_ret (v := .tuple #[.agg #[.int .i64 0, .int .i64 0], .int .i64 10]) (by simp [results, Try.results33, go_sem, z1, z2]) rfl ?_
    exact ⟨rfl, (HBW.out.setCell (by simp) _).setCell (by simp) _⟩
  | true =>
    have hE : [(a, b)].all vS = true := by simp only [List.all_cons, List.all_nil, Bool.and_true, vS_vI]; exact h1
    have HE := Lib.hid hE
    clear hE
    obtain ⟨i1, i2, i3, i4, i5⟩ := vI_get h1
    by_cases hd : (0 ≤ n ∧ n ≤ 1000) ∧ (1 ≤ d ∧ d ≤ 1000)
    · have e0 : partS a b n d = madeS (fl (a * n) d) (cl (b * n) d) := by unfold partS; rw [h1, if_pos rfl, if_pos hd]
      rw [e0]
      obtain ⟨⟨n1, n2⟩, n3, n4⟩ := hd
      have hM := fun W => bounded_any (fl (a * n) d) (cl (b * n) d) W
      generalize madeS (fl (a * n) d) (cl (b * n) d) = m at *
      obtain ⟨⟨m0, m1⟩, me⟩ := m
      have HM := Lib.hid hM
      have k1 := mul_bd3 (a := a) (c := n) (M := 1000000) (N := 1000) i1 i2 (by omega) n2 (by omega)
      have k2 := mul_bd3 (a := b) (c := n) (M := 1000000) (N := 1000) i3 i4 (by omega) n2 (by omega)
      obtain ⟨k11, k12⟩ := k1
      obtain ⟨k21, k22⟩ := k2
      have j1 : IntKind.i64.wrap (a * n) = a * n := IntWalk.i64_in _ (by omega)
      have j2 : IntKind.i64.wrap (b * n) = b * n := IntWalk.i64_in _ (by omega)
      clear e0 hM h1
      have b1 : wB 0 1000 [n] = true := by simp [wB]; omega
      have b2 : wB 1 1000 [d] = true := by simp [wB]; omega
      go_enter Try.func33, Try.ntmps33
      go_upto_region 5 with (first
        | (go_at_call 65; refine Calls.mono (valid_any _ _ _ _ [(a, b)] _ rfl (le_maxLen (by simp)) ?c3 (RS.new1 (by simp))) ?_; (case c3 => simp); rintro e w1 ⟨rfl, hb1⟩; rw [HE.out]; have t0 : w1.cell? ⟨w.heap.size, 0, none⟩ = some (.int .i64 a) := cell_keep hb1 (by go_simp); have t1 : w1.cell? ⟨w.heap.size, 1, none⟩ = some (.int .i64 b) := cell_keep hb1 (by go_simp); have t4 : w1.cell? ⟨w.heap.size + 1, 0, none⟩ = some (.int .i64 0) := cell_keep hb1 (by go_simp); have t5 : w1.cell? ⟨w.heap.size + 1, 1, none⟩ = some (.int .i64 0) := cell_keep hb1 (by go_simp); have t6 : w1.frozen? ⟨w.heap.size + 1, 0, none⟩ = false := (hb1.frozen (p := ⟨w.heap.size + 1, 0, none⟩) (by simp <;> omega)).trans (by go_simp); have t7 : w1.frozen? ⟨w.heap.size + 1, 1, none⟩ = false := (hb1.frozen (p := ⟨w.heap.size + 1, 1, none⟩) (by simp <;> omega)).trans (by go_simp); have l0 : w.heap.size < w1.heap.size := World.block_lt_of_cell? _ _ t0; have l2 : w.heap.size + 1 < w1.heap.size := World.block_lt_of_cell? _ _ t4; have hbw : Below w.heap.size w w1 := Below.trans (by go_grown) (hb1.mono (by simp <;> omega)); have HBW := Lib.hid hbw; clear hb1 hbw)
        | (go_at_call_of 67 (Value.int .i64 0); refine Calls.mono (within_any 0 1000 _ _ _ _ [n] _ rfl (le_maxLen (by simp)) (RI.new1 (by simp))) ?_; rintro e w9 ⟨rfl, rfl⟩)
        | (go_at_call_of 67 (Value.int .i64 1); refine Calls.mono (within_any 1 1000 _ _ _ _ [d] _ rfl (le_maxLen (by simp)) (RI.new1 (by simp))) ?_; rintro e w9 ⟨rfl, rfl⟩))
      generalize hWq : ((w1.alloc _).alloc _) = wq
      have hq : Below w1.heap.size w1 wq := by rw [← hWq]; clear hWq; go_grown
      replace t0 := cell_keep hq t0
      replace t1 := cell_keep hq t1
      replace t4 := cell_keep hq t4
      replace t5 := cell_keep hq t5
      replace t6 := (hq.frozen (p := ⟨w.heap.size + 1, 0, none⟩) l2).trans t6
      replace t7 := (hq.frozen (p := ⟨w.heap.size + 1, 1, none⟩) l2).trans t7
      replace l0 : w.heap.size < wq.heap.size := World.block_lt_of_cell? _ _ t0
      replace l2 : w.heap.size + 1 < wq.heap.size := World.block_lt_of_cell? _ _ t4
      have hbq := HBW.out.trans (hq.mono HBW.out.size)
      clear HBW hq hWq
      have HBW := Lib.hid hbq
      clear hbq
      refine wpIn_wide.1 (region_inv (n := 9) (by kernel_rfl) (fun i => match i with
          | 0 => .pointer (some ⟨w.heap.size, 0, none⟩) | 1 => .int .i64 a | 2 => .int .i64 n | 3 => .int .i64 (a * n) | 4 => .int .i64 d | 5 => .int .i64 (fl (a * n) d) | 6 => .pointer (some ⟨w.heap.size, 1, none⟩) | 7 => .int .i64 b | 8 => .int .i64 n | 9 => .int .i64 (b * n) | 10 => .int .i64 d | 11 => .int .i64 (cl (b * n) d) | 12 => .agg #[.int .i64 (fl (a * n) d), .int .i64 (cl (b * n) d)] | 13 => .tuple #[.agg #[.int .i64 m0, .int .i64 m1], .int .i64 me] | 14 => .agg #[.int .i64 m0, .int .i64 m1] | 15 => .int .i64 me | 17 => .int .i64 me | _ => undef)
        (fun L x => (L.getD 16 false = false → Below wq.heap.size wq x) ∧ (L.getD 16 false = true → ∃ y, Below wq.heap.size wq y ∧ x = (y.setCell ⟨w.heap.size + 1, 0, none⟩ (.int .i64 m0)).setCell ⟨w.heap.size + 1, 1, none⟩ (.int .i64 m1)))
        (by kernel_rfl) rfl ⟨fun _ => (Below.refl _ _).drew, fun h => by simp at h⟩ ?hstep ?hend)
      case hstep =>
        intro i' o ho L b' x' hF hR hpre hl
        match i', ho with
        | 0, ho =>
          simp at ho
          subst ho
          refine step_plain rfl ?_
          have e3 := hF.was 3 (by kernel_rfl) rfl
          have hN := hF.later hl 16 rfl (e := ⟨0, .phase⟩) (by simp) rfl rfl
          have hM := hR.1 hN
          rw [Array.getD_eq_getD_getElem?] at hN
          clear hF hpre hl hR
          first | (go_simp; done) | (go_simp; exact hM)
        | 1, ho =>
          simp at ho
          subst ho
          refine step_plain rfl ?_
          have e24 := hF.gave 0 rfl (hpre ⟨0, .data⟩ (by simp) rfl) rfl
          have hN := hF.later hl 16 rfl (e := ⟨1, .phase⟩) (by simp) rfl rfl
          have hM := hR.1 hN
          rw [Array.getD_eq_getD_getElem?] at hN
          clear hF hpre hl hR
          have q0 := cell_keep hM t0
          have q1 := cell_keep hM t1
          first | (go_simp; done) | (go_simp; exact hM)
        | 2, ho =>
          simp at ho
          subst ho
          refine step_plain rfl ?_
          have e1 := hF.was 1 (by kernel_rfl) rfl
          have hN := hF.later hl 16 rfl (e := ⟨2, .phase⟩) (by simp) rfl rfl
          have hM := hR.1 hN
          rw [Array.getD_eq_getD_getElem?] at hN
          clear hF hpre hl hR
          first | (go_simp; done) | (go_simp; exact hM)
        | 3, ho =>
          simp at ho
          subst ho
          refine step_plain rfl ?_
          have e25 := hF.gave 1 rfl (hpre ⟨1, .data⟩ (by simp) rfl) rfl
          have e26 := hF.gave 2 rfl (hpre ⟨2, .data⟩ (by simp) rfl) rfl
          have hN := hF.later hl 16 rfl (e := ⟨3, .phase⟩) (by simp) rfl rfl
          have hM := hR.1 hN
          rw [Array.getD_eq_getD_getElem?] at hN
          clear hF hpre hl hR
          first | (go_simp; done) | (go_simp; exact hM)
        | 4, ho =>
          simp at ho
          subst ho
          refine step_plain rfl ?_
          have e2 := hF.was 2 (by kernel_rfl) rfl
          have hN := hF.later hl 16 rfl (e := ⟨4, .phase⟩) (by simp) rfl rfl
          have hM := hR.1 hN
          rw [Array.getD_eq_getD_getElem?] at hN
          clear hF hpre hl hR
          first | (go_simp; done) | (go_simp; exact hM)
        | 5, ho =>
          simp at ho
          subst ho
          refine step_plain rfl ?_
          have e27 := hF.gave 3 rfl (hpre ⟨3, .data⟩ (by simp) rfl) rfl
          have e28 := hF.gave 4 rfl (hpre ⟨4, .data⟩ (by simp) rfl) rfl
          have hN := hF.later hl 16 rfl (e := ⟨5, .phase⟩) (by simp) rfl rfl
          have hM := hR.1 hN
          rw [Array.getD_eq_getD_getElem?] at hN
          clear hF hpre hl hR
          have q0 := cell_keep hM t0
          have q1 := cell_keep hM t1
          go_simp
          refine ⟨trivial, ?_⟩
          refine CallsIn.mono (callsIn_wide.2 (floor_any (a * n) d _ (by omega) (by omega) (by omega) (by omega))) ?_
          rintro e y ⟨rfl, rfl⟩
          exact ⟨rfl, hM⟩
        | 6, ho =>
          simp at ho
          subst ho
          refine step_plain rfl ?_
          have e3 := hF.was 3 (by kernel_rfl) rfl
          have hN := hF.later hl 16 rfl (e := ⟨6, .phase⟩) (by simp) rfl rfl
          have hM := hR.1 hN
          rw [Array.getD_eq_getD_getElem?] at hN
          clear hF hpre hl hR
          first | (go_simp; done) | (go_simp; exact hM)
        | 7, ho =>
          simp at ho
          subst ho
          refine step_plain rfl ?_
          have e30 := hF.gave 6 rfl (hpre ⟨6, .data⟩ (by simp) rfl) rfl
          have hN := hF.later hl 16 rfl (e := ⟨7, .phase⟩) (by simp) rfl rfl
          have hM := hR.1 hN
          rw [Array.getD_eq_getD_getElem?] at hN
          clear hF hpre hl hR
          have q0 := cell_keep hM t0
          have q1 := cell_keep hM t1
          first | (go_simp; done) | (go_simp; exact hM)
        | 8, ho =>
          simp at ho
          subst ho
          refine step_plain rfl ?_
          have e1 := hF.was 1 (by kernel_rfl) rfl
          have hN := hF.later hl 16 rfl (e := ⟨8, .phase⟩) (by simp) rfl rfl
          have hM := hR.1 hN
          rw [Array.getD_eq_getD_getElem?] at hN
          clear hF hpre hl hR
          first | (go_simp; done) | (go_simp; exact hM)
        | 9, ho =>
          simp at ho
          subst ho
          refine step_plain rfl ?_
          have e31 := hF.gave 7 rfl (hpre ⟨7, .data⟩ (by simp) rfl) rfl
          have e32 := hF.gave 8 rfl (hpre ⟨8, .data⟩ (by simp) rfl) rfl
          have hN := hF.later hl 16 rfl (e := ⟨9, .phase⟩) (by simp) rfl rfl
          have hM := hR.1 hN
          rw [Array.getD_eq_getD_getElem?] at hN
          clear hF hpre hl hR
          first | (go_simp; done) | (go_simp; exact hM)
        | 10, ho =>
          simp at ho
          subst ho
          refine step_plain rfl ?_
          have e2 := hF.was 2 (by kernel_rfl) rfl
          have hN := hF.later hl 16 rfl (e := ⟨10, .phase⟩) (by simp) rfl rfl
          have hM := hR.1 hN
          rw [Array.getD_eq_getD_getElem?] at hN
          clear hF hpre hl hR
          first | (go_simp; done) | (go_simp; exact hM)
        | 11, ho =>
          simp at ho
          subst ho
          refine step_plain rfl ?_
          have e33 := hF.gave 9 rfl (hpre ⟨9, .data⟩ (by simp) rfl) rfl
          have e34 := hF.gave 10 rfl (hpre ⟨10, .data⟩ (by simp) rfl) rfl
          have hN := hF.later hl 16 rfl (e := ⟨11, .phase⟩) (by simp) rfl rfl
          have hM := hR.1 hN
          rw [Array.getD_eq_getD_getElem?] at hN
          clear hF hpre hl hR
          have q0 := cell_keep hM t0
          have q1 := cell_keep hM t1
          go_simp
          refine ⟨trivial, ?_⟩
          refine CallsIn.mono (callsIn_wide.2 (ceil_any (b * n) d _ (by omega) (by omega) (by omega) (by omega))) ?_
          rintro e y ⟨rfl, rfl⟩
          exact ⟨rfl, hM⟩
        | 12, ho =>
          simp at ho
          subst ho
          refine step_plain rfl ?_
          have e29 := hF.gave 5 rfl (hpre ⟨5, .data⟩ (by simp) rfl) rfl
          have e35 := hF.gave 11 rfl (hpre ⟨11, .data⟩ (by simp) rfl) rfl
          have hN := hF.later hl 16 rfl (e := ⟨12, .phase⟩) (by simp) rfl rfl
          have hM := hR.1 hN
          rw [Array.getD_eq_getD_getElem?] at hN
          clear hF hpre hl hR
          have q0 := cell_keep hM t0
          have q1 := cell_keep hM t1
          go_simp
          refine ⟨trivial, ?_⟩
          refine CallsIn.mono (callsIn_wide.2 (span_any _ _ _)) ?_
          rintro e y ⟨rfl, hy⟩
          have hs := hM.size
          exact ⟨rfl, hM.trans (hy.mono hs)⟩
        | 13, ho =>
          simp at ho
          subst ho
          refine step_plain rfl ?_
          have e36 := hF.gave 12 rfl (hpre ⟨12, .data⟩ (by simp) rfl) rfl
          have hN := hF.later hl 16 rfl (e := ⟨13, .phase⟩) (by simp) rfl rfl
          have hM := hR.1 hN
          rw [Array.getD_eq_getD_getElem?] at hN
          clear hF hpre hl hR
          have q0 := cell_keep hM t0
          have q1 := cell_keep hM t1
          go_simp
          refine ⟨trivial, ?_⟩
          refine CallsIn.mono (callsIn_wide.2 (HM.out _)) ?_
          rintro e y ⟨rfl, hy⟩
          have hs := hM.size
          exact ⟨rfl, hM.trans (hy.mono hs)⟩
        | 14, ho =>
          simp at ho
          subst ho
          refine step_plain rfl ?_
          have e37 := hF.gave 13 rfl (hpre ⟨13, .data⟩ (by simp) rfl) rfl
          have hN := hF.later hl 16 rfl (e := ⟨14, .phase⟩) (by simp) rfl rfl
          have hM := hR.1 hN
          rw [Array.getD_eq_getD_getElem?] at hN
          clear hF hpre hl hR
          first | (go_simp; done) | (go_simp; exact hM)
        | 15, ho =>
          simp at ho
          subst ho
          refine step_plain rfl ?_
          have e37 := hF.gave 13 rfl (hpre ⟨13, .data⟩ (by simp) rfl) rfl
          have hN := hF.later hl 16 rfl (e := ⟨15, .phase⟩) (by simp) rfl rfl
          have hM := hR.1 hN
          rw [Array.getD_eq_getD_getElem?] at hN
          clear hF hpre hl hR
          first | (go_simp; done) | (go_simp; exact hM)
        | 16, ho =>
          simp at ho
          subst ho
          refine step_plain rfl ?_
          have e6 := hF.was 6 (by kernel_rfl) rfl
          have e38 := hF.gave 14 rfl (hpre ⟨14, .data⟩ (by simp) rfl) rfl
          have hls := hF.lsize
          have hls' : 16 < L.size := by rw [hls]; decide
          have hM := hR.1 (by rw [← getD_same hls']; exact hl)
          clear hF hpre hl hR hls
          have q0 := cell_keep hM t4
          have q1 := cell_keep hM t5
          have q4 := (hM.frozen (p := ⟨w.heap.size + 1, 0, none⟩) l2).trans t6
          have q5 := (hM.frozen (p := ⟨w.heap.size + 1, 1, none⟩) l2).trans t7
          go_simp
          exact ⟨x', hM, rfl⟩
        | 17, ho =>
          simp at ho
          subst ho
          refine step_plain rfl ?_
          have e39 := hF.gave 15 rfl (hpre ⟨15, .data⟩ (by simp) rfl) rfl
          have hT : L.getD 16 false = true := hpre ⟨16, .phase⟩ (by simp) rfl
          obtain ⟨y, hy, rfl⟩ := hR.2 hT
          rw [Array.getD_eq_getD_getElem?] at hT
          clear hF hpre hl hR
          go_simp
          exact ⟨y, hy, rfl⟩
        | i + 18, ho => simp at ho
      case hend =>
        intro L b' x' hF hall hR
        obtain ⟨y, hy, rfl⟩ := hR.2 (hall 16 (by decide))
        have e := hF.all (by kernel_rfl) hall
        subst e
        simp [final, dstOf, List.range, List.range.loop]
        have u4 := cell_keep hy t4
        have u5 := cell_keep hy t5
        have hby := Lib.hid (HBW.out.trans (hy.mono HBW.out.size))
        have z1 : ∀ v, (y.setCell ⟨w.heap.size + 1, 0, none⟩ v).cell? ⟨w.heap.size + 1, 0, none⟩ = some v := fun v => World.cell?_setCell_same' _ _ _ (by rw [u4]; rfl)
        have z2 : ∀ v u, ((y.setCell ⟨w.heap.size + 1, 0, none⟩ v).setCell ⟨w.heap.size + 1, 1, none⟩ u).cell? ⟨w.heap.size + 1, 1, none⟩ = some u := fun v u => World.cell?_setCell_same' _ _ _ (by rw [World.cell?_setCell_other _ _ _ _ (by simp), u5]; rfl)
        clear hF hall hR hy
        go_wp2
        refine bodyPost_ret (v := .tuple #[.agg #[.int .i64 m0, .int .i64 m1], .int .i64 me]) (by simp [results, Try.results33, go_sem, z1, z2]) rfl ?_
        exact ⟨rfl, (hby.out.setCell (by simp) _).setCell (by simp) _⟩
    · have e0 : partS a b n d = ((0, 0), 1) := by unfold partS; rw [h1, if_pos rfl, if_neg hd]
      rw [e0]
      clear e0 h1
      by_cases hn : 0 ≤ n ∧ n ≤ 1000
      · have b1 : wB 0 1000 [n] = true := by simp [wB]; omega
        have b2 : wB 1 1000 [d] = false := by rw [Bool.eq_false_iff]; simp [wB]; omega
        have HB1 := Lib.hid b1
        have HB2 := Lib.hid b2
        clear hd hn b1 b2
        go_enter Try.func33, Try.ntmps33
        go_wp2_with (first
          | (go_at_call 65; refine Calls.mono (valid_any _ _ _ _ [(a, b)] _ rfl (le_maxLen (by simp)) ?c3 (RS.new1 (by simp))) ?_; (case c3 => simp); rintro e w1 ⟨rfl, hb1⟩; rw [HE.out]; have t0 : w1.cell? ⟨w.heap.size, 0, none⟩ = some (.int .i64 a) := cell_keep hb1 (by go_simp); have t1 : w1.cell? ⟨w.heap.size, 1, none⟩ = some (.int .i64 b) := cell_keep hb1 (by go_simp); have t4 : w1.cell? ⟨w.heap.size + 1, 0, none⟩ = some (.int .i64 0) := cell_keep hb1 (by go_simp); have t5 : w1.cell? ⟨w.heap.size + 1, 1, none⟩ = some (.int .i64 0) := cell_keep hb1 (by go_simp); have t6 : w1.frozen? ⟨w.heap.size + 1, 0, none⟩ = false := (hb1.frozen (p := ⟨w.heap.size + 1, 0, none⟩) (by simp <;> omega)).trans (by go_simp); have t7 : w1.frozen? ⟨w.heap.size + 1, 1, none⟩ = false := (hb1.frozen (p := ⟨w.heap.size + 1, 1, none⟩) (by simp <;> omega)).trans (by go_simp); have l0 : w.heap.size < w1.heap.size := World.block_lt_of_cell? _ _ t0; have l2 : w.heap.size + 1 < w1.heap.size := World.block_lt_of_cell? _ _ t4; have hbw : Below w.heap.size w w1 := Below.trans (by go_grown) (hb1.mono (by simp <;> omega)); have HBW := Lib.hid hbw; clear hb1 hbw)
          | (go_at_call_of 67 (Value.int .i64 0); refine Calls.mono (within_any 0 1000 _ _ _ _ [n] _ rfl (le_maxLen (by simp)) (RI.new1 (by simp))) ?_; rintro e w9 ⟨rfl, rfl⟩; rw [HB1.out])
          | (go_at_call_of 67 (Value.int .i64 1); refine Calls.mono (within_any 1 1000 _ _ _ _ [d] _ rfl (le_maxLen (by simp)) (RI.new1 (by simp))) ?_; rintro e w9 ⟨rfl, rfl⟩; rw [HB2.out]))
        have z1 : ∀ v u C0 C1, (((((w1.setCell ⟨w.heap.size + 1, 0, none⟩ v).setCell ⟨w.heap.size + 1, 1, none⟩ u)).alloc C0).alloc C1).cell? ⟨w.heap.size + 1, 0, none⟩ = some v := fun v u C0 C1 => by
          rw [World.cell?_alloc_past _ _ _ (by simp <;> omega)]; rw [World.cell?_alloc_past _ _ _ (by simp <;> omega)]; rw [World.cell?_setCell_other _ _ _ _ (by simp)]; exact World.cell?_setCell_same' _ _ _ (by rw [t4]; rfl)
        have z2 : ∀ v u C0 C1, (((((w1.setCell ⟨w.heap.size + 1, 0, none⟩ v).setCell ⟨w.heap.size + 1, 1, none⟩ u)).alloc C0).alloc C1).cell? ⟨w.heap.size + 1, 1, none⟩ = some u := fun v u C0 C1 => by
          rw [World.cell?_alloc_past _ _ _ (by simp <;> omega)]; rw [World.cell?_alloc_past _ _ _ (by simp <;> omega)]; exact World.cell?_setCell_same' _ _ _ (by rw [World.cell?_setCell_other _ _ _ _ (by simp), t5]; rfl)
        refine bodyPost_ret (v := .tuple #[.agg #[.int .i64 0, .int .i64 0], .int .i64 1]) (by simp [results, Try.results33, go_sem, z1, z2]) rfl ?_
        exact ⟨rfl, (((HBW.out.setCell (by simp) _).setCell (by simp) _).alloc (by simp <;> omega) _).alloc (by simp <;> omega) _⟩
      · have b1 : wB 0 1000 [n] = false := by rw [Bool.eq_false_iff]; simp [wB]; omega
        have HB1 := Lib.hid b1
        clear hd hn b1
        go_enter Try.func33, Try.ntmps33
        go_wp2_with (first
          | (go_at_call 65; refine Calls.mono (valid_any _ _ _ _ [(a, b)] _ rfl (le_maxLen (by simp)) ?c3 (RS.new1 (by simp))) ?_; (case c3 => simp); rintro e w1 ⟨rfl, hb1⟩; rw [HE.out]; have t0 : w1.cell? ⟨w.heap.size, 0, none⟩ = some (.int .i64 a) := cell_keep hb1 (by go_simp); have t1 : w1.cell? ⟨w.heap.size, 1, none⟩ = some (.int .i64 b) := cell_keep hb1 (by go_simp); have t4 : w1.cell? ⟨w.heap.size + 1, 0, none⟩ = some (.int .i64 0) := cell_keep hb1 (by go_simp); have t5 : w1.cell? ⟨w.heap.size + 1, 1, none⟩ = some (.int .i64 0) := cell_keep hb1 (by go_simp); have t6 : w1.frozen? ⟨w.heap.size + 1, 0, none⟩ = false := (hb1.frozen (p := ⟨w.heap.size + 1, 0, none⟩) (by simp <;> omega)).trans (by go_simp); have t7 : w1.frozen? ⟨w.heap.size + 1, 1, none⟩ = false := (hb1.frozen (p := ⟨w.heap.size + 1, 1, none⟩) (by simp <;> omega)).trans (by go_simp); have l0 : w.heap.size < w1.heap.size := World.block_lt_of_cell? _ _ t0; have l2 : w.heap.size + 1 < w1.heap.size := World.block_lt_of_cell? _ _ t4; have hbw : Below w.heap.size w w1 := Below.trans (by go_grown) (hb1.mono (by simp <;> omega)); have HBW := Lib.hid hbw; clear hb1 hbw)
          | (go_at_call_of 67 (Value.int .i64 0); refine Calls.mono (within_any 0 1000 _ _ _ _ [n] _ rfl (le_maxLen (by simp)) (RI.new1 (by simp))) ?_; rintro e w9 ⟨rfl, rfl⟩; rw [HB1.out]))
        have z1 : ∀ v u C0, ((((w1.setCell ⟨w.heap.size + 1, 0, none⟩ v).setCell ⟨w.heap.size + 1, 1, none⟩ u)).alloc C0).cell? ⟨w.heap.size + 1, 0, none⟩ = some v := fun v u C0 => by
          rw [World.cell?_alloc_past _ _ _ (by simp <;> omega)]; rw [World.cell?_setCell_other _ _ _ _ (by simp)]; exact World.cell?_setCell_same' _ _ _ (by rw [t4]; rfl)
        have z2 : ∀ v u C0, ((((w1.setCell ⟨w.heap.size + 1, 0, none⟩ v).setCell ⟨w.heap.size + 1, 1, none⟩ u)).alloc C0).cell? ⟨w.heap.size + 1, 1, none⟩ = some u := fun v u C0 => by
          rw [World.cell?_alloc_past _ _ _ (by simp <;> omega)]; exact World.cell?_setCell_same' _ _ _ (by rw [World.cell?_setCell_other _ _ _ _ (by simp), t5]; rfl)
        refine bodyPost_ret (v := .tuple #[.agg #[.int .i64 0, .int .i64 0], .int .i64 1]) (by simp [results, Try.results33, go_sem, z1, z2]) rfl ?_
        exact ⟨rfl, ((HBW.out.setCell (by simp) _).setCell (by simp) _).alloc (by simp <;> omega) _⟩

end Go.Proofs.Ytjdahphnmeaolaa

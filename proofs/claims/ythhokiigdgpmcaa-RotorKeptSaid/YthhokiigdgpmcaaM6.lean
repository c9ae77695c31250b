/- Contracts of the functions that the statement reaches: Part, HQ, HWhole, HTrend, HExt, HStore, Qg, LawKit, Open, HOwn, HOwn2, HTailA, HPair, JTab, DMath, DBox. -/
import Derived.Test.YthhokiigdgpmcaaM5
import Derived.Test.YthhokiigdgpmcaaM1
import Derived.Test.YthhokiigdgpmcaaM4
import Derived.OneCell
import Derived.ArgAppend
import Derived.Laws.MakeOwn
import Derived.ChangeSame
import Derived.Below
import Derived.JoinedOf
import Derived.JoinedAt
import Derived.RowKit3
import Derived.Lib.SmallJoins
import Derived.ProofKit
import Derived.OpenShut
import Derived.Deep.SlicePairs
import Derived.Deep.Matrix
import Derived.Carry
import Derived.Deep.Upon
import Derived.CallsIn
import Derived.OwnWalkIn
import Derived.ChangeKeysEq
import Derived.Test.YthhokiigdgpmcaaM2

/- Part of both sides. -/
namespace Go.Proofs.Ythhokiigdgpmcaa
open Go.RowKit

def partS (a b n d : Int) : (Int × Int) × Int := if vI a b then (if (0 ≤ n ∧ n ≤ 1000) ∧ (1 ≤ d ∧ d ≤ 1000) then madeS (fl (a * n) d) (cl (b * n) d) else ((0, 0), 1)) else ((0, 0), 10)

set_option maxRecDepth 100000 in
set_option maxHeartbeats 2000000 in
theorem rpart_any (a b n d : Int) (w : World) : Calls Try.prog 81 #[.agg #[.int .i64 a, .int .i64 b], .int .i64 n, .int .i64 d] w fun e w' =>
    e = .returned (.tuple #[.agg #[.int .i64 (partS a b n d).1.1, .int .i64 (partS a b n d).1.2], .int .i64 (partS a b n d).2]) ∧ Below w.heap.size w w' := by
  cases h1 : vI a b with
  | false =>
    have e0 : partS a b n d = ((0, 0), 10) := by unfold partS; rw [h1]; rfl
    rw [e0]
    clear e0
    have HE := Lib.hid h1
    clear h1
    go_enter Try.func81, Try.ntmps81
    go_wp2_with (go_at_call 43; refine Calls.mono (rvalid_any a b _) ?_; rintro e w1 ⟨rfl, hb1⟩; rw [HE.out]; have t0 : w1.cell? ⟨w.heap.size, 0, none⟩ = some (.int .i64 a) := cell_keep hb1 (by go_simp); have t1 : w1.cell? ⟨w.heap.size, 1, none⟩ = some (.int .i64 b) := cell_keep hb1 (by go_simp); have t4 : w1.cell? ⟨w.heap.size + 1, 0, none⟩ = some (.int .i64 0) := cell_keep hb1 (by go_simp); have t5 : w1.cell? ⟨w.heap.size + 1, 1, none⟩ = some (.int .i64 0) := cell_keep hb1 (by go_simp); have t6 : w1.frozen? ⟨w.heap.size + 1, 0, none⟩ = false := (hb1.frozen (p := ⟨w.heap.size + 1, 0, none⟩) (by simp <;> omega)).trans (by go_simp); have t7 : w1.frozen? ⟨w.heap.size + 1, 1, none⟩ = false := (hb1.frozen (p := ⟨w.heap.size + 1, 1, none⟩) (by simp <;> omega)).trans (by go_simp); have l0 : w.heap.size < w1.heap.size := World.block_lt_of_cell? _ _ t0; have l2 : w.heap.size + 1 < w1.heap.size := World.block_lt_of_cell? _ _ t4; have hbw : Below w.heap.size w w1 := Below.trans (by go_grown) (hb1.mono (by simp <;> omega)); have HBW := Lib.hid hbw; clear hb1 hbw)
    have z1 : ∀ v, (w1.setCell ⟨w.heap.size + 1, 0, none⟩ v).cell? ⟨w.heap.size + 1, 0, none⟩ = some v := fun v => World.cell?_setCell_same' _ _ _ (by rw [t4]; rfl)
    have z2 : ∀ v u, ((w1.setCell ⟨w.heap.size + 1, 0, none⟩ v).setCell ⟨w.heap.size + 1, 1, none⟩ u).cell? ⟨w.heap.size + 1, 1, none⟩ = some u := fun v u => World.cell?_setCell_same' _ _ _ (by rw [World.cell?_setCell_other _ _ _ _ (by simp)]; rw [t5]; rfl)
    refine bodyPost_ret (v := .tuple #[.agg #[.int .i64 0, .int .i64 0], .int .i64 10]) (by simp [results, Try.results81, go_sem, z1, z2]) rfl ?_
    exact ⟨rfl, (HBW.out.setCell (by simp) _).setCell (by simp) _⟩
  | true =>
    have HE := Lib.hid h1
    obtain ⟨i1, i2, i3, i4, i5⟩ := vI_get h1
    by_cases hd : (0 ≤ n ∧ n ≤ 1000) ∧ (1 ≤ d ∧ d ≤ 1000)
    · have e0 : partS a b n d = madeS (fl (a * n) d) (cl (b * n) d) := by unfold partS; rw [h1, if_pos rfl, if_pos hd]
      rw [e0]
      obtain ⟨⟨n1, n2⟩, n3, n4⟩ := hd
      have hM := fun W => made_any (fl (a * n) d) (cl (b * n) d) W
      generalize madeS (fl (a * n) d) (cl (b * n) d) = m at *
      obtain ⟨⟨m0, m1⟩, me⟩ := m
      have HM := Lib.hid hM
      have k1 := mul_bd3 (a := a) (c := n) (M := 1000000) (N := 1000) i1 i2 (by omega) n2 (by omega)
      have k2 := mul_bd3 (a := b) (c := n) (M := 1000000) (N := 1000) i3 i4 (by omega) n2 (by omega)
      obtain ⟨k11, k12⟩ := k1
      obtain ⟨k21, k22⟩ := k2
      have j1 : IntKind.i64.wrap (a * n) = a * n := IntWalk.i64_in _ (by omega)
      have j2 : IntKind.i64.wrap (b * n) = b * n := IntWalk.i64_in _ (by omega)
      clear e0 hM h1
      go_enter Try.func81, Try.ntmps81
      go_upto_region 5 with (first
        | (go_at_call 43; refine Calls.mono (rvalid_any a b _) ?_; rintro e w1 ⟨rfl, hb1⟩; rw [HE.out]; have t0 : w1.cell? ⟨w.heap.size, 0, none⟩ = some (.int .i64 a) := cell_keep hb1 (by go_simp); have t1 : w1.cell? ⟨w.heap.size, 1, none⟩ = some (.int .i64 b) := cell_keep hb1 (by go_simp); have t4 : w1.cell? ⟨w.heap.size + 1, 0, none⟩ = some (.int .i64 0) := cell_keep hb1 (by go_simp); have t5 : w1.cell? ⟨w.heap.size + 1, 1, none⟩ = some (.int .i64 0) := cell_keep hb1 (by go_simp); have t6 : w1.frozen? ⟨w.heap.size + 1, 0, none⟩ = false := (hb1.frozen (p := ⟨w.heap.size + 1, 0, none⟩) (by simp <;> omega)).trans (by go_simp); have t7 : w1.frozen? ⟨w.heap.size + 1, 1, none⟩ = false := (hb1.frozen (p := ⟨w.heap.size + 1, 1, none⟩) (by simp <;> omega)).trans (by go_simp); have l0 : w.heap.size < w1.heap.size := World.block_lt_of_cell? _ _ t0; have l2 : w.heap.size + 1 < w1.heap.size := World.block_lt_of_cell? _ _ t4; have hbw : Below w.heap.size w w1 := Below.trans (by go_grown) (hb1.mono (by simp <;> omega)); have HBW := Lib.hid hbw; clear hb1 hbw)
        | (go_at_call 103; refine Calls.mono (from_any _ _ _ _) ?_; rintro e w9 ⟨rfl, rfl⟩))
      refine wpIn_wide.1 (region_inv (n := 9) (by kernel_rfl) (fun i => match i with
          | 0 => .pointer (some ⟨w.heap.size, 0, none⟩) | 1 => .int .i64 a | 2 => .int .i64 n | 3 => .int .i64 (a * n) | 4 => .int .i64 d | 5 => .int .i64 (fl (a * n) d) | 6 => .pointer (some ⟨w.heap.size, 1, none⟩) | 7 => .int .i64 b | 8 => .int .i64 n | 9 => .int .i64 (b * n) | 10 => .int .i64 d | 11 => .int .i64 (cl (b * n) d) | 12 => .agg #[.int .i64 (fl (a * n) d), .int .i64 (cl (b * n) d)] | 13 => .tuple #[.agg #[.int .i64 m0, .int .i64 m1], .int .i64 me] | 14 => .agg #[.int .i64 m0, .int .i64 m1] | 15 => .int .i64 me | 17 => .int .i64 me | _ => undef)
        (fun L x => (L.getD 16 false = false → Below w1.heap.size w1 x) ∧ (L.getD 16 false = true → ∃ y, Below w1.heap.size w1 y ∧ x = (y.setCell ⟨w.heap.size + 1, 0, none⟩ (.int .i64 m0)).setCell ⟨w.heap.size + 1, 1, none⟩ (.int .i64 m1)))
        (by kernel_rfl) rfl ⟨fun _ => (Below.refl _ _).drew, fun h => by simp at h⟩ ?hstep ?hend)
      case hstep =>
        intro i' o ho L b' x' hF hR hpre hl
        match i', ho with
        | 0, ho =>
          simp at ho
          subst ho
          refine step_plain rfl ?_
          have e3 := hF.was 3 (by kernel_rfl) rfl
          have hN := hF.later hl 16 rfl (e := ⟨0, .phase⟩) (by simp) rfl rfl
          have hM := hR.1 hN
          rw [Array.getD_eq_getD_getElem?] at hN
          clear hF hpre hl hR
          first | (go_simp; done) | (go_simp; exact hM)
        | 1, ho =>
          simp at ho
          subst ho
          refine step_plain rfl ?_
          have e21 := hF.gave 0 rfl (hpre ⟨0, .data⟩ (by simp) rfl) rfl
          have hN := hF.later hl 16 rfl (e := ⟨1, .phase⟩) (by simp) rfl rfl
          have hM := hR.1 hN
          rw [Array.getD_eq_getD_getElem?] at hN
          clear hF hpre hl hR
          have q0 := cell_keep hM t0
          have q1 := cell_keep hM t1
          first | (go_simp; done) | (go_simp; exact hM)
        | 2, ho =>
          simp at ho
          subst ho
          refine step_plain rfl ?_
          have e1 := hF.was 1 (by kernel_rfl) rfl
          have hN := hF.later hl 16 rfl (e := ⟨2, .phase⟩) (by simp) rfl rfl
          have hM := hR.1 hN
          rw [Array.getD_eq_getD_getElem?] at hN
          clear hF hpre hl hR
          first | (go_simp; done) | (go_simp; exact hM)
        | 3, ho =>
          simp at ho
          subst ho
          refine step_plain rfl ?_
          have e22 := hF.gave 1 rfl (hpre ⟨1, .data⟩ (by simp) rfl) rfl
          have e23 := hF.gave 2 rfl (hpre ⟨2, .data⟩ (by simp) rfl) rfl
          have hN := hF.later hl 16 rfl (e := ⟨3, .phase⟩) (by simp) rfl rfl
          have hM := hR.1 hN
          rw [Array.getD_eq_getD_getElem?] at hN
          clear hF hpre hl hR
          first | (go_simp; done) | (go_simp; exact hM)
        | 4, ho =>
          simp at ho
          subst ho
          refine step_plain rfl ?_
          have e2 := hF.was 2 (by kernel_rfl) rfl
          have hN := hF.later hl 16 rfl (e := ⟨4, .phase⟩) (by simp) rfl rfl
          have hM := hR.1 hN
          rw [Array.getD_eq_getD_getElem?] at hN
          clear hF hpre hl hR
          first | (go_simp; done) | (go_simp; exact hM)
        | 5, ho =>
          simp at ho
          subst ho
          refine step_plain rfl ?_
          have e24 := hF.gave 3 rfl (hpre ⟨3, .data⟩ (by simp) rfl) rfl
          have e25 := hF.gave 4 rfl (hpre ⟨4, .data⟩ (by simp) rfl) rfl
          have hN := hF.later hl 16 rfl (e := ⟨5, .phase⟩) (by simp) rfl rfl
          have hM := hR.1 hN
          rw [Array.getD_eq_getD_getElem?] at hN
          clear hF hpre hl hR
          have q0 := cell_keep hM t0
          have q1 := cell_keep hM t1
          go_simp
          refine ⟨trivial, ?_⟩
          refine CallsIn.mono (callsIn_wide.2 (rfloor_any (a * n) d _ (by omega) (by omega) (by omega) (by omega))) ?_
          rintro e y ⟨rfl, rfl⟩
          exact ⟨rfl, hM⟩
        | 6, ho =>
          simp at ho
          subst ho
          refine step_plain rfl ?_
          have e3 := hF.was 3 (by kernel_rfl) rfl
          have hN := hF.later hl 16 rfl (e := ⟨6, .phase⟩) (by simp) rfl rfl
          have hM := hR.1 hN
          rw [Array.getD_eq_getD_getElem?] at hN
          clear hF hpre hl hR
          first | (go_simp; done) | (go_simp; exact hM)
        | 7, ho =>
          simp at ho
          subst ho
          refine step_plain rfl ?_
          have e27 := hF.gave 6 rfl (hpre ⟨6, .data⟩ (by simp) rfl) rfl
          have hN := hF.later hl 16 rfl (e := ⟨7, .phase⟩) (by simp) rfl rfl
          have hM := hR.1 hN
          rw [Array.getD_eq_getD_getElem?] at hN
          clear hF hpre hl hR
          have q0 := cell_keep hM t0
          have q1 := cell_keep hM t1
          first | (go_simp; done) | (go_simp; exact hM)
        | 8, ho =>
          simp at ho
          subst ho
          refine step_plain rfl ?_
          have e1 := hF.was 1 (by kernel_rfl) rfl
          have hN := hF.later hl 16 rfl (e := ⟨8, .phase⟩) (by simp) rfl rfl
          have hM := hR.1 hN
          rw [Array.getD_eq_getD_getElem?] at hN
          clear hF hpre hl hR
          first | (go_simp; done) | (go_simp; exact hM)
        | 9, ho =>
          simp at ho
          subst ho
          refine step_plain rfl ?_
          have e28 := hF.gave 7 rfl (hpre ⟨7, .data⟩ (by simp) rfl) rfl
          have e29 := hF.gave 8 rfl (hpre ⟨8, .data⟩ (by simp) rfl) rfl
          have hN := hF.later hl 16 rfl (e := ⟨9, .phase⟩) (by simp) rfl rfl
          have hM := hR.1 hN
          rw [Array.getD_eq_getD_getElem?] at hN
          clear hF hpre hl hR
          first | (go_simp; done) | (go_simp; exact hM)
        | 10, ho =>
          simp at ho
          subst ho
          refine step_plain rfl ?_
          have e2 := hF.was 2 (by kernel_rfl) rfl
          have hN := hF.later hl 16 rfl (e := ⟨10, .phase⟩) (by simp) rfl rfl
          have hM := hR.1 hN
          rw [Array.getD_eq_getD_getElem?] at hN
          clear hF hpre hl hR
          first | (go_simp; done) | (go_simp; exact hM)
        | 11, ho =>
          simp at ho
          subst ho
          refine step_plain rfl ?_
          have e30 := hF.gave 9 rfl (hpre ⟨9, .data⟩ (by simp) rfl) rfl
          have e31 := hF.gave 10 rfl (hpre ⟨10, .data⟩ (by simp) rfl) rfl
          have hN := hF.later hl 16 rfl (e := ⟨11, .phase⟩) (by simp) rfl rfl
          have hM := hR.1 hN
          rw [Array.getD_eq_getD_getElem?] at hN
          clear hF hpre hl hR
          have q0 := cell_keep hM t0
          have q1 := cell_keep hM t1
          go_simp
          refine ⟨trivial, ?_⟩
          refine CallsIn.mono (callsIn_wide.2 (rceil_any (b * n) d _ (by omega) (by omega) (by omega) (by omega))) ?_
          rintro e y ⟨rfl, rfl⟩
          exact ⟨rfl, hM⟩
        | 12, ho =>
          simp at ho
          subst ho
          refine step_plain rfl ?_
          have e26 := hF.gave 5 rfl (hpre ⟨5, .data⟩ (by simp) rfl) rfl
          have e32 := hF.gave 11 rfl (hpre ⟨11, .data⟩ (by simp) rfl) rfl
          have hN := hF.later hl 16 rfl (e := ⟨12, .phase⟩) (by simp) rfl rfl
          have hM := hR.1 hN
          rw [Array.getD_eq_getD_getElem?] at hN
          clear hF hpre hl hR
          first | (go_simp; done) | (go_simp; exact hM)
        | 13, ho =>
          simp at ho
          subst ho
          refine step_plain rfl ?_
          have e33 := hF.gave 12 rfl (hpre ⟨12, .data⟩ (by simp) rfl) rfl
          have hN := hF.later hl 16 rfl (e := ⟨13, .phase⟩) (by simp) rfl rfl
          have hM := hR.1 hN
          rw [Array.getD_eq_getD_getElem?] at hN
          clear hF hpre hl hR
          have q0 := cell_keep hM t0
          have q1 := cell_keep hM t1
          go_simp
          refine ⟨trivial, ?_⟩
          refine CallsIn.mono (callsIn_wide.2 (HM.out _)) ?_
          rintro e y ⟨rfl, hy⟩
          have hs := hM.size
          exact ⟨rfl, hM.trans (hy.mono hs)⟩
        | 14, ho =>
          simp at ho
          subst ho
          refine step_plain rfl ?_
          have e34 := hF.gave 13 rfl (hpre ⟨13, .data⟩ (by simp) rfl) rfl
          have hN := hF.later hl 16 rfl (e := ⟨14, .phase⟩) (by simp) rfl rfl
          have hM := hR.1 hN
          rw [Array.getD_eq_getD_getElem?] at hN
          clear hF hpre hl hR
          first | (go_simp; done) | (go_simp; exact hM)
        | 15, ho =>
          simp at ho
          subst ho
          refine step_plain rfl ?_
          have e34 := hF.gave 13 rfl (hpre ⟨13, .data⟩ (by simp) rfl) rfl
          have hN := hF.later hl 16 rfl (e := ⟨15, .phase⟩) (by simp) rfl rfl
          have hM := hR.1 hN
          rw [Array.getD_eq_getD_getElem?] at hN
          clear hF hpre hl hR
          first | (go_simp; done) | (go_simp; exact hM)
        | 16, ho =>
          simp at ho
          subst ho
          refine step_plain rfl ?_
          have e6 := hF.was 6 (by kernel_rfl) rfl
          have e35 := hF.gave 14 rfl (hpre ⟨14, .data⟩ (by simp) rfl) rfl
          have hls := hF.lsize
          have hls' : 16 < L.size := by rw [hls]; decide
          have hM := hR.1 (by rw [← getD_same hls']; exact hl)
          clear hF hpre hl hR hls
          have q0 := cell_keep hM t4
          have q1 := cell_keep hM t5
          have q4 := (hM.frozen (p := ⟨w.heap.size + 1, 0, none⟩) l2).trans t6
          have q5 := (hM.frozen (p := ⟨w.heap.size + 1, 1, none⟩) l2).trans t7
          go_simp
          exact ⟨x', hM, rfl⟩
        | 17, ho =>
          simp at ho
          subst ho
          refine step_plain rfl ?_
          have e36 := hF.gave 15 rfl (hpre ⟨15, .data⟩ (by simp) rfl) rfl
          have hT : L.getD 16 false = true := hpre ⟨16, .phase⟩ (by simp) rfl
          obtain ⟨y, hy, rfl⟩ := hR.2 hT
          rw [Array.getD_eq_getD_getElem?] at hT
          clear hF hpre hl hR
          go_simp
          exact ⟨y, hy, rfl⟩
        | i + 18, ho => simp at ho
      case hend =>
        intro L b' x' hF hall hR
        obtain ⟨y, hy, rfl⟩ := hR.2 (hall 16 (by decide))
        have e := hF.all (by kernel_rfl) hall
        subst e
        simp [final, dstOf, List.range, List.range.loop]
        have u4 := cell_keep hy t4
        have u5 := cell_keep hy t5
        have hby := Lib.hid (HBW.out.trans (hy.mono HBW.out.size))
        have z1 : ∀ v, (y.setCell ⟨w.heap.size + 1, 0, none⟩ v).cell? ⟨w.heap.size + 1, 0, none⟩ = some v := fun v => World.cell?_setCell_same' _ _ _ (by rw [u4]; rfl)
        have z2 : ∀ v u, ((y.setCell ⟨w.heap.size + 1, 0, none⟩ v).setCell ⟨w.heap.size + 1, 1, none⟩ u).cell? ⟨w.heap.size + 1, 1, none⟩ = some u := fun v u => World.cell?_setCell_same' _ _ _ (by rw [World.cell?_setCell_other _ _ _ _ (by simp), u5]; rfl)
        clear hF hall hR hy
        go_wp2
        refine bodyPost_ret (v := .tuple #[.agg #[.int .i64 m0, .int .i64 m1], .int .i64 me]) (by simp [results, Try.results81, go_sem, z1, z2]) rfl ?_
        exact ⟨rfl, (hby.out.setCell (by simp) _).setCell (by simp) _⟩
    · have e0 : partS a b n d = ((0, 0), 1) := by unfold partS; rw [h1, if_pos rfl, if_neg hd]
      rw [e0]
      clear e0 h1
      by_cases hn : 0 ≤ n ∧ n ≤ 1000
      · have b1 : (decide (0 ≤ n) && decide (n ≤ 1000)) = true := by simp; omega
        have b2 : (decide (1 ≤ d) && decide (d ≤ 1000)) = false := by rw [Bool.eq_false_iff]; simp; omega
        have HB1 := Lib.hid b1
        have HB2 := Lib.hid b2
        clear hd hn b1 b2
        go_enter Try.func81, Try.ntmps81
        go_wp2_with (first
          | (go_at_call 43; refine Calls.mono (rvalid_any a b _) ?_; rintro e w1 ⟨rfl, hb1⟩; rw [HE.out]; have t0 : w1.cell? ⟨w.heap.size, 0, none⟩ = some (.int .i64 a) := cell_keep hb1 (by go_simp); have t1 : w1.cell? ⟨w.heap.size, 1, none⟩ = some (.int .i64 b) := cell_keep hb1 (by go_simp); have t4 : w1.cell? ⟨w.heap.size + 1, 0, none⟩ = some (.int .i64 0) := cell_keep hb1 (by go_simp); have t5 : w1.cell? ⟨w.heap.size + 1, 1, none⟩ = some (.int .i64 0) := cell_keep hb1 (by go_simp); have t6 : w1.frozen? ⟨w.heap.size + 1, 0, none⟩ = false := (hb1.frozen (p := ⟨w.heap.size + 1, 0, none⟩) (by simp <;> omega)).trans (by go_simp); have t7 : w1.frozen? ⟨w.heap.size + 1, 1, none⟩ = false := (hb1.frozen (p := ⟨w.heap.size + 1, 1, none⟩) (by simp <;> omega)).trans (by go_simp); have l0 : w.heap.size < w1.heap.size := World.block_lt_of_cell? _ _ t0; have l2 : w.heap.size + 1 < w1.heap.size := World.block_lt_of_cell? _ _ t4; have hbw : Below w.heap.size w w1 := Below.trans (by go_grown) (hb1.mono (by simp <;> omega)); have HBW := Lib.hid hbw; clear hb1 hbw)
          | (go_at_call_of 103 (Value.int .i64 n); refine Calls.mono (from_any n 0 1000 _) ?_; rintro e w9 ⟨rfl, rfl⟩; rw [HB1.out])
          | (go_at_call_of 103 (Value.int .i64 d); refine Calls.mono (from_any d 1 1000 _) ?_; rintro e w9 ⟨rfl, rfl⟩; rw [HB2.out]))
        have z1 : ∀ v u, (((w1.setCell ⟨w.heap.size + 1, 0, none⟩ v).setCell ⟨w.heap.size + 1, 1, none⟩ u)).cell? ⟨w.heap.size + 1, 0, none⟩ = some v := fun v u => by
          rw [World.cell?_setCell_other _ _ _ _ (by simp)]; exact World.cell?_setCell_same' _ _ _ (by rw [t4]; rfl)
        have z2 : ∀ v u, (((w1.setCell ⟨w.heap.size + 1, 0, none⟩ v).setCell ⟨w.heap.size + 1, 1, none⟩ u)).cell? ⟨w.heap.size + 1, 1, none⟩ = some u := fun v u => by
          exact World.cell?_setCell_same' _ _ _ (by rw [World.cell?_setCell_other _ _ _ _ (by simp), t5]; rfl)
        refine bodyPost_ret (v := .tuple #[.agg #[.int .i64 0, .int .i64 0], .int .i64 1]) (by simp [results, Try.results81, go_sem, z1, z2]) rfl ?_
        exact ⟨rfl, (HBW.out.setCell (by simp) _).setCell (by simp) _⟩
      · have b1 : (decide (0 ≤ n) && decide (n ≤ 1000)) = false := by rw [Bool.eq_false_iff]; simp; omega
        have HB1 := Lib.hid b1
        clear hd hn b1
        go_enter Try.func81, Try.ntmps81
        go_wp2_with (first
          | (go_at_call 43; refine Calls.mono (rvalid_any a b _) ?_; rintro e w1 ⟨rfl, hb1⟩; rw [HE.out]; have t0 : w1.cell? ⟨w.heap.size, 0, none⟩ = some (.int .i64 a) := cell_keep hb1 (by go_simp); have t1 : w1.cell? ⟨w.heap.size, 1, none⟩ = some (.int .i64 b) := cell_keep hb1 (by go_simp); have t4 : w1.cell? ⟨w.heap.size + 1, 0, none⟩ = some (.int .i64 0) := cell_keep hb1 (by go_simp); have t5 : w1.cell? ⟨w.heap.size + 1, 1, none⟩ = some (.int .i64 0) := cell_keep hb1 (by go_simp); have t6 : w1.frozen? ⟨w.heap.size + 1, 0, none⟩ = false := (hb1.frozen (p := ⟨w.heap.size + 1, 0, none⟩) (by simp <;> omega)).trans (by go_simp); have t7 : w1.frozen? ⟨w.heap.size + 1, 1, none⟩ = false := (hb1.frozen (p := ⟨w.heap.size + 1, 1, none⟩) (by simp <;> omega)).trans (by go_simp); have l0 : w.heap.size < w1.heap.size := World.block_lt_of_cell? _ _ t0; have l2 : w.heap.size + 1 < w1.heap.size := World.block_lt_of_cell? _ _ t4; have hbw : Below w.heap.size w w1 := Below.trans (by go_grown) (hb1.mono (by simp <;> omega)); have HBW := Lib.hid hbw; clear hb1 hbw)
          | (go_at_call_of 103 (Value.int .i64 n); refine Calls.mono (from_any n 0 1000 _) ?_; rintro e w9 ⟨rfl, rfl⟩; rw [HB1.out]))
        have z1 : ∀ v u, (((w1.setCell ⟨w.heap.size + 1, 0, none⟩ v).setCell ⟨w.heap.size + 1, 1, none⟩ u)).cell? ⟨w.heap.size + 1, 0, none⟩ = some v := fun v u => by
          rw [World.cell?_setCell_other _ _ _ _ (by simp)]; exact World.cell?_setCell_same' _ _ _ (by rw [t4]; rfl)
        have z2 : ∀ v u, (((w1.setCell ⟨w.heap.size + 1, 0, none⟩ v).setCell ⟨w.heap.size + 1, 1, none⟩ u)).cell? ⟨w.heap.size + 1, 1, none⟩ = some u := fun v u => by
          exact World.cell?_setCell_same' _ _ _ (by rw [World.cell?_setCell_other _ _ _ _ (by simp), t5]; rfl)
        refine bodyPost_ret (v := .tuple #[.agg #[.int .i64 0, .int .i64 0], .int .i64 1]) (by simp [results, Try.results81, go_sem, z1, z2]) rfl ?_
        exact ⟨rfl, (HBW.out.setCell (by simp) _).setCell (by simp) _⟩

set_option maxRecDepth 100000 in
set_option maxHeartbeats 2000000 in
theorem part_span_any (a b n d : Int) (w : World) : Calls Try.prog 33 #[.agg #[.int .i64 a, .int .i64 b], .int .i64 n, .int .i64 d] w fun e w' =>
    e = .returned (.tuple #[.agg #[.int .i64 (partS a b n d).1.1, .int .i64 (partS a b n d).1.2], .int .i64 (partS a b n d).2]) ∧ Below w.heap.size w w' := by
  cases h1 : vI a b with
  | false =>
    have e0 : partS a b n d = ((0, 0), 10) := by unfold partS; rw [h1]; rfl
    rw [e0]
    clear e0
    have hE : [(a, b)].all vS = false := by simp only [List.all_cons, List.all_nil, Bool.and_true, vS_vI]; exact h1
    have HE := Lib.hid hE
    clear hE h1
    go_enter Try.func33, Try.ntmps33
    go_wp2_with (go_at_call 82; refine Calls.mono (valid_any _ _ _ _ [(a, b)] _ rfl (le_maxLen (by simp)) ?c3 (RS.new1 (by simp))) ?_; (case c3 => simp); rintro e w1 ⟨rfl, hb1⟩; rw [HE.out]; have t0 : w1.cell? ⟨w.heap.size, 0, none⟩ = some (.int .i64 a) := cell_keep hb1 (by go_simp); have t1 : w1.cell? ⟨w.heap.size, 1, none⟩ = some (.int .i64 b) := cell_keep hb1 (by go_simp); have t4 : w1.cell? ⟨w.heap.size + 1, 0, none⟩ = some (.int .i64 0) := cell_keep hb1 (by go_simp); have t5 : w1.cell? ⟨w.heap.size + 1, 1, none⟩ = some (.int .i64 0) := cell_keep hb1 (by go_simp); have t6 : w1.frozen? ⟨w.heap.size + 1, 0, none⟩ = false := (hb1.frozen (p := ⟨w.heap.size + 1, 0, none⟩) (by simp <;> omega)).trans (by go_simp); have t7 : w1.frozen? ⟨w.heap.size + 1, 1, none⟩ = false := (hb1.frozen (p := ⟨w.heap.size + 1, 1, none⟩) (by simp <;> omega)).trans (by go_simp); have l0 : w.heap.size < w1.heap.size := World.block_lt_of_cell? _ _ t0; have l2 : w.heap.size + 1 < w1.heap.size := World.block_lt_of_cell? _ _ t4; have hbw : Below w.heap.size w w1 := Below.trans (by go_grown) (hb1.mono (by simp <;> omega)); have HBW := Lib.hid hbw; clear hb1 hbw)
    have z1 : ∀ v, (w1.setCell ⟨w.heap.size + 1, 0, none⟩ v).cell? ⟨w.heap.size + 1, 0, none⟩ = some v := fun v => World.cell?_setCell_same' _ _ _ (by rw [t4]; rfl)
    have z2 : ∀ v u, ((w1.setCell ⟨w.heap.size + 1, 0, none⟩ v).setCell ⟨w.heap.size + 1, 1, none⟩ u).cell? ⟨w.heap.size + 1, 1, none⟩ = some u := fun v u => World.cell?_setCell_same' _ _ _ (by rw [World.cell?_setCell_other _ _ _ _ (by simp)]; rw [t5]; rfl)
    refine bodyPost_ret (v := .tuple #[.agg #[.int .i64 0, .int .i64 0], .int .i64 10]) (by simp [results, Try.results33, go_sem, z1, z2]) rfl ?_
    exact ⟨rfl, (HBW.out.setCell (by simp) _).setCell (by simp) _⟩
  | true =>
    have hE : [(a, b)].all vS = true := by simp only [List.all_cons, List.all_nil, Bool.and_true, vS_vI]; exact h1
    have HE := Lib.hid hE
    clear hE
    obtain ⟨i1, i2, i3, i4, i5⟩ := vI_get h1
    by_cases hd : (0 ≤ n ∧ n ≤ 1000) ∧ (1 ≤ d ∧ d ≤ 1000)
    · have e0 : partS a b n d = madeS (fl (a * n) d) (cl (b * n) d) := by unfold partS; rw [h1, if_pos rfl, if_pos hd]
      rw [e0]
      obtain ⟨⟨n1, n2⟩, n3, n4⟩ := hd
      have hM := fun W => bounded_any (fl (a * n) d) (cl (b * n) d) W
      generalize madeS (fl (a * n) d) (cl (b * n) d) = m at *
      obtain ⟨⟨m0, m1⟩, me⟩ := m
      have HM := Lib.hid hM
      have k1 := mul_bd3 (a := a) (c := n) (M := 1000000) (N := 1000) i1 i2 (by omega) n2 (by omega)
      have k2 := mul_bd3 (a := b) (c := n) (M := 1000000) (N := 1000) i3 i4 (by omega) n2 (by omega)
      obtain ⟨k11, k12⟩ := k1
      obtain ⟨k21, k22⟩ := k2
      have j1 : IntKind.i64.wrap (a * n) = a * n := IntWalk.i64_in _ (by omega)
      have j2 : IntKind.i64.wrap (b * n) = b * n := IntWalk.i64_in _ (by omega)
      clear e0 hM h1
      have b1 : wB 0 1000 [n] = true := by simp [wB]; omega
      have b2 : wB 1 1000 [d] = true := by simp [wB]; omega
      go_enter Try.func33, Try.ntmps33
      go_upto_region 5 with (first
        | (go_at_call 82; refine Calls.mono (valid_any _ _ _ _ [(a, b)] _ rfl (le_maxLen (by simp)) ?c3 (RS.new1 (by simp))) ?_; (case c3 => simp); rintro e w1 ⟨rfl, hb1⟩; rw [HE.out]; have t0 : w1.cell? ⟨w.heap.size, 0, none⟩ = some (.int .i64 a) := cell_keep hb1 (by go_simp); have t1 : w1.cell? ⟨w.heap.size, 1, none⟩ = some (.int .i64 b) := cell_keep hb1 (by go_simp); have t4 : w1.cell? ⟨w.heap.size + 1, 0, none⟩ = some (.int .i64 0) := cell_keep hb1 (by go_simp); have t5 : w1.cell? ⟨w.heap.size + 1, 1, none⟩ = some (.int .i64 0) := cell_keep hb1 (by go_simp); have t6 : w1.frozen? ⟨w.heap.size + 1, 0, none⟩ = false := (hb1.frozen (p := ⟨w.heap.size + 1, 0, none⟩) (by simp <;> omega)).trans (by go_simp); have t7 : w1.frozen? ⟨w.heap.size + 1, 1, none⟩ = false := (hb1.frozen (p := ⟨w.heap.size + 1, 1, none⟩) (by simp <;> omega)).trans (by go_simp); have l0 : w.heap.size < w1.heap.size := World.block_lt_of_cell? _ _ t0; have l2 : w.heap.size + 1 < w1.heap.size := World.block_lt_of_cell? _ _ t4; have hbw : Below w.heap.size w w1 := Below.trans (by go_grown) (hb1.mono (by simp <;> omega)); have HBW := Lib.hid hbw; clear hb1 hbw)
        | (go_at_call_of 53 (Value.int .i64 0); refine Calls.mono (within_any 0 1000 _ _ _ _ [n] _ rfl (le_maxLen (by simp)) (RI.new1 (by simp))) ?_; rintro e w9 ⟨rfl, rfl⟩)
        | (go_at_call_of 53 (Value.int .i64 1); refine Calls.mono (within_any 1 1000 _ _ _ _ [d] _ rfl (le_maxLen (by simp)) (RI.new1 (by simp))) ?_; rintro e w9 ⟨rfl, rfl⟩))
      generalize hWq : ((w1.alloc _).alloc _) = wq
      have hq : Below w1.heap.size w1 wq := by rw [← hWq]; clear hWq; go_grown
      replace t0 := cell_keep hq t0
      replace t1 := cell_keep hq t1
      replace t4 := cell_keep hq t4
      replace t5 := cell_keep hq t5
      replace t6 := (hq.frozen (p := ⟨w.heap.size + 1, 0, none⟩) l2).trans t6
      replace t7 := (hq.frozen (p := ⟨w.heap.size + 1, 1, none⟩) l2).trans t7
      replace l0 : w.heap.size < wq.heap.size := World.block_lt_of_cell? _ _ t0
      replace l2 : w.heap.size + 1 < wq.heap.size := World.block_lt_of_cell? _ _ t4
      have hbq := HBW.out.trans (hq.mono HBW.out.size)
      clear HBW hq hWq
      have HBW := Lib.hid hbq
      clear hbq
      refine wpIn_wide.1 (region_inv (n := 9) (by kernel_rfl) (fun i => match i with
          | 0 => .pointer (some ⟨w.heap.size, 0, none⟩) | 1 => .int .i64 a | 2 => .int .i64 n | 3 => .int .i64 (a * n) | 4 => .int .i64 d | 5 => .int .i64 (fl (a * n) d) | 6 => .pointer (some ⟨w.heap.size, 1, none⟩) | 7 => .int .i64 b | 8 => .int .i64 n | 9 => .int .i64 (b * n) | 10 => .int .i64 d | 11 => .int .i64 (cl (b * n) d) | 12 => .agg #[.int .i64 (fl (a * n) d), .int .i64 (cl (b * n) d)] | 13 => .tuple #[.agg #[.int .i64 m0, .int .i64 m1], .int .i64 me] | 14 => .agg #[.int .i64 m0, .int .i64 m1] | 15 => .int .i64 me | 17 => .int .i64 me | _ => undef)
        (fun L x => (L.getD 16 false = false → Below wq.heap.size wq x) ∧ (L.getD 16 false = true → ∃ y, Below wq.heap.size wq y ∧ x = (y.setCell ⟨w.heap.size + 1, 0, none⟩ (.int .i64 m0)).setCell ⟨w.heap.size + 1, 1, none⟩ (.int .i64 m1)))
        (by kernel_rfl) rfl ⟨fun _ => (Below.refl _ _).drew, fun h => by simp at h⟩ ?hstep ?hend)
      case hstep =>
        intro i' o ho L b' x' hF hR hpre hl
        match i', ho with
        | 0, ho =>
          simp at ho
          subst ho
          refine step_plain rfl ?_
          have e3 := hF.was 3 (by kernel_rfl) rfl
          have hN := hF.later hl 16 rfl (e := ⟨0, .phase⟩) (by simp) rfl rfl
          have hM := hR.1 hN
          rw [Array.getD_eq_getD_getElem?] at hN
          clear hF hpre hl hR
          first | (go_simp; done) | (go_simp; exact hM)
        | 1, ho =>
          simp at ho
          subst ho
          refine step_plain rfl ?_
          have e24 := hF.gave 0 rfl (hpre ⟨0, .data⟩ (by simp) rfl) rfl
          have hN := hF.later hl 16 rfl (e := ⟨1, .phase⟩) (by simp) rfl rfl
          have hM := hR.1 hN
          rw [Array.getD_eq_getD_getElem?] at hN
          clear hF hpre hl hR
          have q0 := cell_keep hM t0
          have q1 := cell_keep hM t1
          first | (go_simp; done) | (go_simp; exact hM)
        | 2, ho =>
          simp at ho
          subst ho
          refine step_plain rfl ?_
          have e1 := hF.was 1 (by kernel_rfl) rfl
          have hN := hF.later hl 16 rfl (e := ⟨2, .phase⟩) (by simp) rfl rfl
          have hM := hR.1 hN
          rw [Array.getD_eq_getD_getElem?] at hN
          clear hF hpre hl hR
          first | (go_simp; done) | (go_simp; exact hM)
        | 3, ho =>
          simp at ho
          subst ho
          refine step_plain rfl ?_
          have e25 := hF.gave 1 rfl (hpre ⟨1, .data⟩ (by simp) rfl) rfl
          have e26 := hF.gave 2 rfl (hpre ⟨2, .data⟩ (by simp) rfl) rfl
          have hN := hF.later hl 16 rfl (e := ⟨3, .phase⟩) (by simp) rfl rfl
          have hM := hR.1 hN
          rw [Array.getD_eq_getD_getElem?] at hN
          clear hF hpre hl hR
          first | (go_simp; done) | (go_simp; exact hM)
        | 4, ho =>
          simp at ho
          subst ho
          refine step_plain rfl ?_
          have e2 := hF.was 2 (by kernel_rfl) rfl
          have hN := hF.later hl 16 rfl (e := ⟨4, .phase⟩) (by simp) rfl rfl
          have hM := hR.1 hN
          rw [Array.getD_eq_getD_getElem?] at hN
          clear hF hpre hl hR
          first | (go_simp; done) | (go_simp; exact hM)
        | 5, ho =>
          simp at ho
          subst ho
          refine step_plain rfl ?_
          have e27 := hF.gave 3 rfl (hpre ⟨3, .data⟩ (by simp) rfl) rfl
          have e28 := hF.gave 4 rfl (hpre ⟨4, .data⟩ (by simp) rfl) rfl
          have hN := hF.later hl 16 rfl (e := ⟨5, .phase⟩) (by simp) rfl rfl
          have hM := hR.1 hN
          rw [Array.getD_eq_getD_getElem?] at hN
          clear hF hpre hl hR
          have q0 := cell_keep hM t0
          have q1 := cell_keep hM t1
          go_simp
          refine ⟨trivial, ?_⟩
          refine CallsIn.mono (callsIn_wide.2 (floor_any (a * n) d _ (by omega) (by omega) (by omega) (by omega))) ?_
          rintro e y ⟨rfl, rfl⟩
          exact ⟨rfl, hM⟩
        | 6, ho =>
          simp at ho
          subst ho
          refine step_plain rfl ?_
          have e3 := hF.was 3 (by kernel_rfl) rfl
          have hN := hF.later hl 16 rfl (e := ⟨6, .phase⟩) (by simp) rfl rfl
          have hM := hR.1 hN
          rw [Array.getD_eq_getD_getElem?] at hN
          clear hF hpre hl hR
          first | (go_simp; done) | (go_simp; exact hM)
        | 7, ho =>
          simp at ho
          subst ho
          refine step_plain rfl ?_
          have e30 := hF.gave 6 rfl (hpre ⟨6, .data⟩ (by simp) rfl) rfl
          have hN := hF.later hl 16 rfl (e := ⟨7, .phase⟩) (by simp) rfl rfl
          have hM := hR.1 hN
          rw [Array.getD_eq_getD_getElem?] at hN
          clear hF hpre hl hR
          have q0 := cell_keep hM t0
          have q1 := cell_keep hM t1
          first | (go_simp; done) | (go_simp; exact hM)
        | 8, ho =>
          simp at ho
          subst ho
          refine step_plain rfl ?_
          have e1 := hF.was 1 (by kernel_rfl) rfl
          have hN := hF.later hl 16 rfl (e := ⟨8, .phase⟩) (by simp) rfl rfl
          have hM := hR.1 hN
          rw [Array.getD_eq_getD_getElem?] at hN
          clear hF hpre hl hR
          first | (go_simp; done) | (go_simp; exact hM)
        | 9, ho =>
          simp at ho
          subst ho
          refine step_plain rfl ?_
          have e31 := hF.gave 7 rfl (hpre ⟨7, .data⟩ (by simp) rfl) rfl
          have e32 := hF.gave 8 rfl (hpre ⟨8, .data⟩ (by simp) rfl) rfl
          have hN := hF.later hl 16 rfl (e := ⟨9, .phase⟩) (by simp) rfl rfl
          have hM := hR.1 hN
          rw [Array.getD_eq_getD_getElem?] at hN
          clear hF hpre hl hR
          first | (go_simp; done) | (go_simp; exact hM)
        | 10, ho =>
          simp at ho
          subst ho
          refine step_plain rfl ?_
          have e2 := hF.was 2 (by kernel_rfl) rfl
          have hN := hF.later hl 16 rfl (e := ⟨10, .phase⟩) (by simp) rfl rfl
          have hM := hR.1 hN
          rw [Array.getD_eq_getD_getElem?] at hN
          clear hF hpre hl hR
          first | (go_simp; done) | (go_simp; exact hM)
        | 11, ho =>
          simp at ho
          subst ho
          refine step_plain rfl ?_
          have e33 := hF.gave 9 rfl (hpre ⟨9, .data⟩ (by simp) rfl) rfl
          have e34 := hF.gave 10 rfl (hpre ⟨10, .data⟩ (by simp) rfl) rfl
          have hN := hF.later hl 16 rfl (e := ⟨11, .phase⟩) (by simp) rfl rfl
          have hM := hR.1 hN
          rw [Array.getD_eq_getD_getElem?] at hN
          clear hF hpre hl hR
          have q0 := cell_keep hM t0
          have q1 := cell_keep hM t1
          go_simp
          refine ⟨trivial, ?_⟩
          refine CallsIn.mono (callsIn_wide.2 (ceil_any (b * n) d _ (by omega) (by omega) (by omega) (by omega))) ?_
          rintro e y ⟨rfl, rfl⟩
          exact ⟨rfl, hM⟩
        | 12, ho =>
          simp at ho
          subst ho
          refine step_plain rfl ?_
          have e29 := hF.gave 5 rfl (hpre ⟨5, .data⟩ (by simp) rfl) rfl
          have e35 := hF.gave 11 rfl (hpre ⟨11, .data⟩ (by simp) rfl) rfl
          have hN := hF.later hl 16 rfl (e := ⟨12, .phase⟩) (by simp) rfl rfl
          have hM := hR.1 hN
          rw [Array.getD_eq_getD_getElem?] at hN
          clear hF hpre hl hR
          have q0 := cell_keep hM t0
          have q1 := cell_keep hM t1
          go_simp
          refine ⟨trivial, ?_⟩
          refine CallsIn.mono (callsIn_wide.2 (span_any _ _ _)) ?_
          rintro e y ⟨rfl, hy⟩
          have hs := hM.size
          exact ⟨rfl, hM.trans (hy.mono hs)⟩
        | 13, ho =>
          simp at ho
          subst ho
          refine step_plain rfl ?_
          have e36 := hF.gave 12 rfl (hpre ⟨12, .data⟩ (by simp) rfl) rfl
          have hN := hF.later hl 16 rfl (e := ⟨13, .phase⟩) (by simp) rfl rfl
          have hM := hR.1 hN
          rw [Array.getD_eq_getD_getElem?] at hN
          clear hF hpre hl hR
          have q0 := cell_keep hM t0
          have q1 := cell_keep hM t1
          go_simp
          refine ⟨trivial, ?_⟩
          refine CallsIn.mono (callsIn_wide.2 (HM.out _)) ?_
          rintro e y ⟨rfl, hy⟩
          have hs := hM.size
          exact ⟨rfl, hM.trans (hy.mono hs)⟩
        | 14, ho =>
          simp at ho
          subst ho
          refine step_plain rfl ?_
          have e37 := hF.gave 13 rfl (hpre ⟨13, .data⟩ (by simp) rfl) rfl
          have hN := hF.later hl 16 rfl (e := ⟨14, .phase⟩) (by simp) rfl rfl
          have hM := hR.1 hN
          rw [Array.getD_eq_getD_getElem?] at hN
          clear hF hpre hl hR
          first | (go_simp; done) | (go_simp; exact hM)
        | 15, ho =>
          simp at ho
          subst ho
          refine step_plain rfl ?_
          have e37 := hF.gave 13 rfl (hpre ⟨13, .data⟩ (by simp) rfl) rfl
          have hN := hF.later hl 16 rfl (e := ⟨15, .phase⟩) (by simp) rfl rfl
          have hM := hR.1 hN
          rw [Array.getD_eq_getD_getElem?] at hN
          clear hF hpre hl hR
          first | (go_simp; done) | (go_simp; exact hM)
        | 16, ho =>
          simp at ho
          subst ho
          refine step_plain rfl ?_
          have e6 := hF.was 6 (by kernel_rfl) rfl
          have e38 := hF.gave 14 rfl (hpre ⟨14, .data⟩ (by simp) rfl) rfl
          have hls := hF.lsize
          have hls' : 16 < L.size := by rw [hls]; decide
          have hM := hR.1 (by rw [← getD_same hls']; exact hl)
          clear hF hpre hl hR hls
          have q0 := cell_keep hM t4
          have q1 := cell_keep hM t5
          have q4 := (hM.frozen (p := ⟨w.heap.size + 1, 0, none⟩) l2).trans t6
          have q5 := (hM.frozen (p := ⟨w.heap.size + 1, 1, none⟩) l2).trans t7
          go_simp
          exact ⟨x', hM, rfl⟩
        | 17, ho =>
          simp at ho
          subst ho
          refine step_plain rfl ?_
          have e39 := hF.gave 15 rfl (hpre ⟨15, .data⟩ (by simp) rfl) rfl
          have hT : L.getD 16 false = true := hpre ⟨16, .phase⟩ (by simp) rfl
          obtain ⟨y, hy, rfl⟩ := hR.2 hT
          rw [Array.getD_eq_getD_getElem?] at hT
          clear hF hpre hl hR
          go_simp
          exact ⟨y, hy, rfl⟩
        | i + 18, ho => simp at ho
      case hend =>
        intro L b' x' hF hall hR
        obtain ⟨y, hy, rfl⟩ := hR.2 (hall 16 (by decide))
        have e := hF.all (by kernel_rfl) hall
        subst e
        simp [final, dstOf, List.range, List.range.loop]
        have u4 := cell_keep hy t4
        have u5 := cell_keep hy t5
        have hby := Lib.hid (HBW.out.trans (hy.mono HBW.out.size))
        have z1 : ∀ v, (y.setCell ⟨w.heap.size + 1, 0, none⟩ v).cell? ⟨w.heap.size + 1, 0, none⟩ = some v := fun v => World.cell?_setCell_same' _ _ _ (by rw [u4]; rfl)
        have z2 : ∀ v u, ((y.setCell ⟨w.heap.size + 1, 0, none⟩ v).setCell ⟨w.heap.size + 1, 1, none⟩ u).cell? ⟨w.heap.size + 1, 1, none⟩ = some u := fun v u => World.cell?_setCell_same' _ _ _ (by rw [World.cell?_setCell_other _ _ _ _ (by simp), u5]; rfl)
        clear hF hall hR hy
        go_wp2
        refine bodyPost_ret (v := .tuple #[.agg #[.int .i64 m0, .int .i64 m1], .int .i64 me]) (by simp [results, Try.results33, go_sem, z1, z2]) rfl ?_
        exact ⟨rfl, (hby.out.setCell (by simp) _).setCell (by simp) _⟩
    · have e0 : partS a b n d = ((0, 0), 1) := by unfold partS; rw [h1, if_pos rfl, if_neg hd]
      rw [e0]
      clear e0 h1
      by_cases hn : 0 ≤ n ∧ n ≤ 1000
      · have b1 : wB 0 1000 [n] = true := by simp [wB]; omega
        have b2 : wB 1 1000 [d] = false := by rw [Bool.eq_false_iff]; simp [wB]; omega
        have HB1 := Lib.hid b1
        have HB2 := Lib.hid b2
        clear hd hn b1 b2
        go_enter Try.func33, Try.ntmps33
        go_wp2_with (first
          | (go_at_call 82; refine Calls.mono (valid_any _ _ _ _ [(a, b)] _ rfl (le_maxLen (by simp)) ?c3 (RS.new1 (by simp))) ?_; (case c3 => simp); rintro e w1 ⟨rfl, hb1⟩; rw [HE.out]; have t0 : w1.cell? ⟨w.heap.size, 0, none⟩ = some (.int .i64 a) := cell_keep hb1 (by go_simp); have t1 : w1.cell? ⟨w.heap.size, 1, none⟩ = some (.int .i64 b) := cell_keep hb1 (by go_simp); have t4 : w1.cell? ⟨w.heap.size + 1, 0, none⟩ = some (.int .i64 0) := cell_keep hb1 (by go_simp); have t5 : w1.cell? ⟨w.heap.size + 1, 1, none⟩ = some (.int .i64 0) := cell_keep hb1 (by go_simp); have t6 : w1.frozen? ⟨w.heap.size + 1, 0, none⟩ = false := (hb1.frozen (p := ⟨w.heap.size + 1, 0, none⟩) (by simp <;> omega)).trans (by go_simp); have t7 : w1.frozen? ⟨w.heap.size + 1, 1, none⟩ = false := (hb1.frozen (p := ⟨w.heap.size + 1, 1, none⟩) (by simp <;> omega)).trans (by go_simp); have l0 : w.heap.size < w1.heap.size := World.block_lt_of_cell? _ _ t0; have l2 : w.heap.size + 1 < w1.heap.size := World.block_lt_of_cell? _ _ t4; have hbw : Below w.heap.size w w1 := Below.trans (by go_grown) (hb1.mono (by simp <;> omega)); have HBW := Lib.hid hbw; clear hb1 hbw)
          | (go_at_call_of 53 (Value.int .i64 0); refine Calls.mono (within_any 0 1000 _ _ _ _ [n] _ rfl (le_maxLen (by simp)) (RI.new1 (by simp))) ?_; rintro e w9 ⟨rfl, rfl⟩; rw [HB1.out])
          | (go_at_call_of 53 (Value.int .i64 1); refine Calls.mono (within_any 1 1000 _ _ _ _ [d] _ rfl (le_maxLen (by simp)) (RI.new1 (by simp))) ?_; rintro e w9 ⟨rfl, rfl⟩; rw [HB2.out]))
        have z1 : ∀ v u C0 C1, (((((w1.setCell ⟨w.heap.size + 1, 0, none⟩ v).setCell ⟨w.heap.size + 1, 1, none⟩ u)).alloc C0).alloc C1).cell? ⟨w.heap.size + 1, 0, none⟩ = some v := fun v u C0 C1 => by
          rw [World.cell?_alloc_past _ _ _ (by simp <;> omega)]; rw [World.cell?_alloc_past _ _ _ (by simp <;> omega)]; rw [World.cell?_setCell_other _ _ _ _ (by simp)]; exact World.cell?_setCell_same' _ _ _ (by rw [t4]; rfl)
        have z2 : ∀ v u C0 C1, (((((w1.setCell ⟨w.heap.size + 1, 0, none⟩ v).setCell ⟨w.heap.size + 1, 1, none⟩ u)).alloc C0).alloc C1).cell? ⟨w.heap.size + 1, 1, none⟩ = some u := fun v u C0 C1 => by
          rw [World.cell?_alloc_past _ _ _ (by simp <;> omega)]; rw [World.cell?_alloc_past _ _ _ (by simp <;> omega)]; exact World.cell?_setCell_same' _ _ _ (by rw [World.cell?_setCell_other _ _ _ _ (by simp), t5]; rfl)
        refine bodyPost_ret (v := .tuple #[.agg #[.int .i64 0, .int .i64 0], .int .i64 1]) (by simp [results, Try.results33, go_sem, z1, z2]) rfl ?_
        exact ⟨rfl, (((HBW.out.setCell (by simp) _).setCell (by simp) _).alloc (by simp <;> omega) _).alloc (by simp <;> omega) _⟩
      · have b1 : wB 0 1000 [n] = false := by rw [Bool.eq_false_iff]; simp [wB]; omega
        have HB1 := Lib.hid b1
        clear hd hn b1
        go_enter Try.func33, Try.ntmps33
        go_wp2_with (first
          | (go_at_call 82; refine Calls.mono (valid_any _ _ _ _ [(a, b)] _ rfl (le_maxLen (by simp)) ?c3 (RS.new1 (by simp))) ?_; (case c3 => simp); rintro e w1 ⟨rfl, hb1⟩; rw [HE.out]; have t0 : w1.cell? ⟨w.heap.size, 0, none⟩ = some (.int .i64 a) := cell_keep hb1 (by go_simp); have t1 : w1.cell? ⟨w.heap.size, 1, none⟩ = some (.int .i64 b) := cell_keep hb1 (by go_simp); have t4 : w1.cell? ⟨w.heap.size + 1, 0, none⟩ = some (.int .i64 0) := cell_keep hb1 (by go_simp); have t5 : w1.cell? ⟨w.heap.size + 1, 1, none⟩ = some (.int .i64 0) := cell_keep hb1 (by go_simp); have t6 : w1.frozen? ⟨w.heap.size + 1, 0, none⟩ = false := (hb1.frozen (p := ⟨w.heap.size + 1, 0, none⟩) (by simp <;> omega)).trans (by go_simp); have t7 : w1.frozen? ⟨w.heap.size + 1, 1, none⟩ = false := (hb1.frozen (p := ⟨w.heap.size + 1, 1, none⟩) (by simp <;> omega)).trans (by go_simp); have l0 : w.heap.size < w1.heap.size := World.block_lt_of_cell? _ _ t0; have l2 : w.heap.size + 1 < w1.heap.size := World.block_lt_of_cell? _ _ t4; have hbw : Below w.heap.size w w1 := Below.trans (by go_grown) (hb1.mono (by simp <;> omega)); have HBW := Lib.hid hbw; clear hb1 hbw)
          | (go_at_call_of 53 (Value.int .i64 0); refine Calls.mono (within_any 0 1000 _ _ _ _ [n] _ rfl (le_maxLen (by simp)) (RI.new1 (by simp))) ?_; rintro e w9 ⟨rfl, rfl⟩; rw [HB1.out]))
        have z1 : ∀ v u C0, ((((w1.setCell ⟨w.heap.size + 1, 0, none⟩ v).setCell ⟨w.heap.size + 1, 1, none⟩ u)).alloc C0).cell? ⟨w.heap.size + 1, 0, none⟩ = some v := fun v u C0 => by
          rw [World.cell?_alloc_past _ _ _ (by simp <;> omega)]; rw [World.cell?_setCell_other _ _ _ _ (by simp)]; exact World.cell?_setCell_same' _ _ _ (by rw [t4]; rfl)
        have z2 : ∀ v u C0, ((((w1.setCell ⟨w.heap.size + 1, 0, none⟩ v).setCell ⟨w.heap.size + 1, 1, none⟩ u)).alloc C0).cell? ⟨w.heap.size + 1, 1, none⟩ = some u := fun v u C0 => by
          rw [World.cell?_alloc_past _ _ _ (by simp <;> omega)]; exact World.cell?_setCell_same' _ _ _ (by rw [World.cell?_setCell_other _ _ _ _ (by simp), t5]; rfl)
        refine bodyPost_ret (v := .tuple #[.agg #[.int .i64 0, .int .i64 0], .int .i64 1]) (by simp [results, Try.results33, go_sem, z1, z2]) rfl ?_
        exact ⟨rfl, ((HBW.out.setCell (by simp) _).setCell (by simp) _).alloc (by simp <;> omega) _⟩

end Go.Proofs.Ythhokiigdgpmcaa

/- Plain mathematics of trends: no program. -/
namespace Go.Proofs.Ythhokiigdgpmcaa

/-- How a value compares. -/
def cmpI (a b : Int) : Int := if a < b then -1 else if a = b then 0 else 1
/-- How many more of b are less than v than greater. -/
def risN (b : List Int) (v : Int) : Int := (b.map (cmpI v)).sum
def trN (V : List Int) : Nat → Int
  | 0 => 0
  | n + 1 => trN V n + risN (V.take n) (V[n]?.getD 0)
def trL (V : List Int) : Int := trN V V.length

theorem cmpI_bd (a b : Int) : -1 ≤ cmpI a b ∧ cmpI a b ≤ 1 := by
  unfold cmpI
  split
  · omega
  · split <;> omega
theorem risN_step {b : List Int} {k : Nat} {x v : Int} (h : b[k]? = some x) : risN (b.take (k + 1)) v = risN (b.take k) v + cmpI v x := by
  unfold risN
  rw [List.take_add_one, h]
  simp
theorem risN_bd (b : List Int) (v : Int) : -(b.length : Int) ≤ risN b v ∧ risN b v ≤ b.length := by
  unfold risN
  induction b with
  | nil => simp
  | cons x b ih =>
    have := cmpI_bd v x
    simp only [List.map_cons, List.sum_cons, List.length_cons]
    omega
theorem trN_bd (V : List Int) (n : Nat) (h : n ≤ V.length) : -(n * n : Int) ≤ trN V n ∧ trN V n ≤ n * n := by
  induction n with
  | zero => simp [trN]
  | succ n ih =>
    have := ih (by omega)
    have h2 := risN_bd (V.take n) (V[n]?.getD 0)
    have h3 : (V.take n).length = n := by rw [List.length_take]; omega
    rw [h3] at h2
    simp only [trN]
    have e : ((n + 1 : Nat) : Int) * ((n + 1 : Nat) : Int) = n * n + 2 * n + 1 := by grind
    omega
theorem trN_take (V : List Int) (n m : Nat) (h : n ≤ m) : trN (V.take m) n = trN V n := by
  induction n with
  | zero => rfl
  | succ n ih =>
    simp only [trN]
    rw [ih (by omega), List.take_take, show min n m = n by omega, List.getElem?_take_of_lt (by omega)]
theorem trL_snoc (o : List Int) (v : Int) : trL (o ++ [v]) = trL o + risN o v := by
  unfold trL
  rw [List.length_append]
  show trN (o ++ [v]) o.length + _ = _
  rw [← trN_take (o ++ [v]) o.length o.length (by omega), List.take_left]
  simp

/-! ### All orders -/
/-- Of the values not yet used, behind some that are chosen: how many orders have at least a trend, and how many there are. -/
def ext (V : List Int) (least : Int) : Nat → List Int → List Bool → Int × Int
  | 0, o, _ => (if least ≤ trL o then 1 else 0, 1)
  | f + 1, o, u => (List.range V.length).foldl (fun acc i => if u[i]?.getD false then acc else (acc.1 + (ext V least f (o ++ [V[i]?.getD 0]) (u.set i true)).1, acc.2 + (ext V least f (o ++ [V[i]?.getD 0]) (u.set i true)).2)) (0, 0)
/-- .. after the first n values. -/
def extN (V : List Int) (least : Int) (f : Nat) (o : List Int) (u : List Bool) : Nat → Int × Int
  | 0 => (0, 0)
  | i + 1 => if u[i]?.getD false then extN V least f o u i else ((extN V least f o u i).1 + (ext V least f (o ++ [V[i]?.getD 0]) (u.set i true)).1, (extN V least f o u i).2 + (ext V least f (o ++ [V[i]?.getD 0]) (u.set i true)).2)
theorem ext_succ (V : List Int) (least : Int) (f : Nat) (o : List Int) (u : List Bool) : ext V least (f + 1) o u = extN V least f o u V.length := by
  have key : ∀ n, (List.range n).foldl (fun acc i => if u[i]?.getD false then acc else (acc.1 + (ext V least f (o ++ [V[i]?.getD 0]) (u.set i true)).1, acc.2 + (ext V least f (o ++ [V[i]?.getD 0]) (u.set i true)).2)) (0, 0) = extN V least f o u n := by
    intro n
    induction n with
    | zero => rfl
    | succ n ih =>
      rw [List.range_succ, List.foldl_append, ih]
      simp only [List.foldl_cons, List.foldl_nil, extN]
  rw [← key]
  rfl
/-- The orders of n values are at most n^n. -/
theorem ext_bd (V : List Int) (least : Int) (hV : V.length ≤ 8) (f : Nat) : ∀ o u, (0 ≤ (ext V least f o u).1 ∧ (ext V least f o u).1 ≤ 8 ^ f) ∧ (0 ≤ (ext V least f o u).2 ∧ (ext V least f o u).2 ≤ 8 ^ f) := by
  induction f with
  | zero => intro o u; simp only [ext]; split <;> simp
  | succ f ih =>
    intro o u
    have key : ∀ n : Nat, (0 ≤ (extN V least f o u n).1 ∧ (extN V least f o u n).1 ≤ n * 8 ^ f) ∧ (0 ≤ (extN V least f o u n).2 ∧ (extN V least f o u n).2 ≤ n * 8 ^ f) := by
      intro n
      induction n with
      | zero => simp [extN]
      | succ n ihn =>
        have h := ih (o ++ [V[n]?.getD 0]) (u.set n true)
        have e : ((n + 1 : Nat) : Int) * 8 ^ f = n * 8 ^ f + 8 ^ f := by grind
        have p : (0 : Int) ≤ 8 ^ f := by have : (0 : Int) < 8 ^ f := Int.pow_pos (by omega); omega
        unfold extN
        generalize (8 : Int) ^ f = E at *
        generalize (n : Int) * E = F at *
        rw [e]
        split
        · omega
        · dsimp only
          omega
    have h := key V.length
    rw [ext_succ]
    have e : (8 : Int) ^ (f + 1) = 8 * 8 ^ f := by grind
    have p : (0 : Int) ≤ 8 ^ f := by have : (0 : Int) < 8 ^ f := Int.pow_pos (by omega); omega
    have : (V.length : Int) * 8 ^ f ≤ 8 * 8 ^ f := Int.mul_le_mul_of_nonneg_right (by omega) p
    omega
theorem extN_bd (V : List Int) (least : Int) (hV : V.length ≤ 8) (f : Nat) (o : List Int) (u : List Bool) (n : Nat) :
    (0 ≤ (extN V least f o u n).1 ∧ (extN V least f o u n).1 ≤ n * 8 ^ f) ∧ (0 ≤ (extN V least f o u n).2 ∧ (extN V least f o u n).2 ≤ n * 8 ^ f) := by
  induction n with
  | zero => simp [extN]
  | succ n ihn =>
    have h := ext_bd V least hV f (o ++ [V[n]?.getD 0]) (u.set n true)
    have e : ((n + 1 : Nat) : Int) * 8 ^ f = n * 8 ^ f + 8 ^ f := by grind
    have p : (0 : Int) ≤ 8 ^ f := by have : (0 : Int) < 8 ^ f := Int.pow_pos (by omega); omega
    unfold extN
    generalize (8 : Int) ^ f = E at *
    generalize (n : Int) * E = F at *
    rw [e]
    split
    · omega
    · dsimp only
      omega
theorem extN_used {V : List Int} {least : Int} {f : Nat} {o : List Int} {u : List Bool} {k : Nat} (h : u[k]? = some true) : extN V least f o u (k + 1) = extN V least f o u k := by
  simp only [extN, h, Option.getD_some, if_true]
theorem extN_free {V : List Int} {least : Int} {f : Nat} {o : List Int} {u : List Bool} {k : Nat} {x : Int} (h : u[k]? = some false) (hx : V[k]? = some x) : extN V least f o u (k + 1) = ((extN V least f o u k).1 + (ext V least f (o ++ [x]) (u.set k true)).1, (extN V least f o u k).2 + (ext V least f (o ++ [x]) (u.set k true)).2) := by
  simp only [extN, h, hx, Option.getD_some]
  simp
end Go.Proofs.Ythhokiigdgpmcaa

/- whole.Within, Abs, Ascending, Lowest; the reference's within, Lowest. -/
namespace Go.Proofs.Ythhokiigdgpmcaa
open Go.RowKit

theorem ret_2 {k l : IntKind} {a b c d : Int} (h : a = c) (g : b = d) : Ending.returned (.tuple #[.int k a, .int l b]) = .returned (.tuple #[.int k c, .int l d]) := by rw [h, g]

end Go.Proofs.Ythhokiigdgpmcaa

/- cmp.Compare at integers; rises, trend, Trend. -/
namespace Go.Proofs.Ythhokiigdgpmcaa
open Go.RowKit

theorem RI.take {w : World} {B : Nat} {A : Option Addr} {xs : List Int} (h : RI w B A xs) (k : Nat) : RI w B A (xs.take k) := fun hp => by
  obtain ⟨b, off, e, hb, hc⟩ := h (by simp at hp ⊢; omega)
  refine ⟨b, off, e, hb, fun j u hu => hc j u ?_⟩
  rw [List.map_take, List.getElem?_take] at hu
  split at hu
  · exact hu
  · cases hu

/-- Values of a trend. -/
def valB (xs : List Int) : Bool := decide (1 ≤ xs.length ∧ xs.length ≤ 8) && wB (-1000000) 1000000 xs
theorem wB_len (lo hi x : Int) : wB lo hi [x] = decide (lo ≤ x ∧ x ≤ hi) := by simp [wB]

end Go.Proofs.Ythhokiigdgpmcaa

/- The memory of chance: what its closure keeps. -/
namespace Go.Proofs.Ythhokiigdgpmcaa
open Go.RowKit

theorem block_setCell {W : World} {b o : Nat} {cs : Array Value} {T : TypeId} {f : Nat × Nat} (v : Value) (h : W.heap[b]? = some (.cells cs T f)) : (W.setCell ⟨b, o, none⟩ v).heap[b]? = some (.cells (cs.setIfInBounds o v) T f) := by
  have hlt := lt_of_block h
  have h' : W.heap[b] = .cells cs T f := by simpa [Array.getElem?_eq_getElem hlt] using h
  show (W.heap.modify b _)[b]? = _
  rw [Array.getElem?_eq_getElem (by simpa using hlt), Array.getElem_modify_self, h']
  rfl
theorem block_setOther {W : World} {b : Nat} {a : Addr} (v : Value) (h : b ≠ a.block) : (W.setCell a v).heap[b]? = W.heap[b]? := Below.heap_setCell _ _ _ _ h
theorem block_alloc {W : World} {b : Nat} {o : Obj} (x : Obj) (h : W.heap[b]? = some o) : (W.alloc x).heap[b]? = some o := by
  have hlt := lt_of_block h
  rw [← h]
  show (W.heap.push x)[b]? = _
  rw [Array.getElem?_push, if_neg (by omega)]
theorem cellOf {W : World} {b o : Nat} {cs : Array Value} {T : TypeId} {f : Nat × Nat} {v : Value} (h : W.heap[b]? = some (.cells cs T f)) (hv : cs[o]? = some v) : W.cell? ⟨b, o, none⟩ = some v := by simp [World.cell?, h, hv]
theorem freeOf {W : World} {b o : Nat} {cs : Array Value} {T : TypeId} (h : W.heap[b]? = some (.cells cs T (0, 0))) : W.frozen? ⟨b, o, none⟩ = false := by simp [World.frozen?, h]

structure XP where
  w0 : World
  AV : Option Addr
  n : Nat
  c : Nat
  V : List Int
  least : Int
  B : Nat
def XP.N (p : XP) : Nat := p.w0.heap.size
def XP.caps (p : XP) : Array Value := #[.pointer (some ⟨p.N, 0, none⟩), .pointer (some ⟨p.N + 3, 0, none⟩), .pointer (some ⟨p.N + 2, 0, none⟩), .pointer (some ⟨p.N + 4, 0, none⟩), .pointer (some ⟨p.N + 5, 0, none⟩)]
structure XP.Ok (p : XP) : Prop where
  len : p.V.length = p.n
  lo : 1 ≤ p.n
  hi : p.n ≤ 8
  B : p.B ≤ p.N
  V : RI p.w0 p.B p.AV p.V
section
variable {p : XP} {num den : Int} {u : List Bool} {o : List Int} {W : World}
end

end Go.Proofs.Ythhokiigdgpmcaa

/- A drawn region whose last operation is a store: its others leave what was there as it was. -/
namespace Go.Proofs.Ythhokiigdgpmcaa
open Go.RowKit

def RQS (Q : Nat → Value → World → Prop) (W0 : World) (s : Nat) (a : Addr) (u : Value) (val : Nat → Value) (L : Array Bool) (W : World) : Prop :=
  (L.getD s false = false → RQ Q W0 val L W) ∧ (L.getD s false = true → ∃ y, Below W0.heap.size W0 y ∧ W = y.setCell a u)
section
variable {Q : Nat → Value → World → Prop} {W0 W W' : World} {s i : Nat} {a : Addr} {u v : Value} {val : Nat → Value} {L : Array Bool}
theorem RQS.start (Q : Nat → Value → World → Prop) (W0 : World) (s : Nat) (a : Addr) (u : Value) (n : Nat) : RQS Q W0 s a u (fun _ => undef) (Array.replicate n false) W0.drew :=
  ⟨fun _ => RQ.start Q W0 n, fun h => by rw [getD_replicate_no] at h; cases h⟩
theorem RQS.step (h : RQ Q W0 val L W) (hQ : Stays Q) (hb : Below W.heap.size W W') (hq : Q i v W') (hs : i ≠ s) (hN : L.getD s false = false) : RQS Q W0 s a u (upd val i v) (L.setIfInBounds i true) W' :=
  ⟨fun _ => h.step hQ hb hq, fun h2 => (by rw [getD_set_other hs, hN] at h2; cases h2)⟩
theorem RQS.store (h : RQ Q W0 val L W) (hs : s < L.size) : RQS Q W0 s a u (upd val s v) (L.setIfInBounds s true) (W.setCell a u) :=
  ⟨fun h2 => (by rw [getD_set_eq hs] at h2; cases h2), fun _ => ⟨W, h.1, rfl⟩⟩
end
theorem Fr.none2 {ops : Array Oper} {T : Array Value} {val : Nat → Value} {L : Array Bool} {a : Act} (h : Fr ops T val L a) {i : Nat} (hl : L.getD i true = false) (hi : i < ops.size) : L.getD i false = false := by
  rw [← getD_same (by rw [h.lsize]; exact hi)]
  exact hl

/-- A row of the call's own, known whole. -/
def RW (W : World) (g : Nat) (l : List Int) : Prop := W.heap[g]? = some (.cells (l.map (Value.int .i64)).toArray 3 (0, 0))
section
variable {W W' : World} {g : Nat} {l : List Int}
theorem RW.lt (h : RW W g l) : g < W.heap.size := lt_of_block h
theorem RW.stay (h : RW W g l) (hb : Below W.heap.size W W') : RW W' g l := (hb.block g h.lt).trans h
theorem RW.get {k : Nat} {x : Int} (h : RW W g l) (hk : l[k]? = some x) : W.cell? ⟨g, k, none⟩ = some (.int .i64 x) := cellOf h (by simp [hk])
theorem RW.free (h : RW W g l) (k : Nat) : W.frozen? ⟨g, k, none⟩ = false := freeOf h
theorem RW.set (h : RW W g l) (k : Nat) (x : Int) : RW (W.setCell ⟨g, k, none⟩ (.int .i64 x)) g (l.set k x) := by
  unfold RW
  rw [block_setCell _ h]
  simp
theorem RW.ri (h : RW W g l) : RI W W.heap.size (some ⟨g, 0, none⟩) l := fun _ => ⟨g, 0, rfl, h.lt, fun j u hu => by
  simp only [List.getElem?_map, Option.map_eq_some_iff] at hu
  obtain ⟨x, hx, rfl⟩ := hu
  rw [Nat.zero_add]
  exact h.get hx⟩
theorem made_ints (n : Nat) : madeCells #[Value.int .i64 0] n = ((List.replicate n (0 : Int)).map (Value.int .i64)).toArray := by
  apply Array.ext'
  simp only [madeCells, Array.toList_map, Array.toList_range]
  apply List.ext_getElem (by simp)
  intro k h1 h2
  simp [Nat.mod_one]
theorem RW.made (W : World) (n : Nat) : RW (W.alloc (.cells (madeCells #[Value.int .i64 0] n) 3)) W.heap.size (List.replicate n 0) := by
  unfold RW
  rw [made_ints]
  show (W.heap.push _)[W.heap.size]? = _
  rw [Array.getElem?_push, if_pos rfl]
end
/-- make([]int, n). -/
theorem wpList_makeI {w : World} {ops : Array Oper} {rest : List Oper} {o : Oper} {a : Act} {Q : Exit → Act → World → Prop} (hg : o.guard = none) (l c : Operand) (hop : o.op = Op.makeSlice 22 l c)
    (n : Nat) (hl : a.eval l = .int .i64 (n : Int)) (hc : a.eval c = .int .i64 (n : Int)) (hn : n ≤ 1000000)
    (hK : wpList Try.prog ops Q rest (a.put o.dst (.slice (some ⟨w.heap.size, 0, none⟩) n n)) (w.alloc (.cells (madeCells #[Value.int .i64 0] n) 3))) : wpList Try.prog ops Q (o :: rest) a w := by
  obtain ⟨i0, hi0, hz0, hz1, hz2⟩ := info_parts info_int
  refine wpList_plain hg fun K hK' => ?_
  have hrun := run_make (P := Try.prog) w 22 3 i0 (.int .i64 0) Try.underlying22 hi0 hz0 .i64 .i64 n n (by omega) (by omega) (by rw [hz2]; omega) (by omega)
  rw [hz1] at hrun
  simp only [Int.toNat_natCast, Nat.mul_one] at hrun
  unfold Oper.wp
  simp only [execOp, hop, hl, hc, hrun, Result.andThen, Sem.run_bind, Sem.run_pure]
  exact hK' _ _ hK
end Go.Proofs.Ythhokiigdgpmcaa

/- A family of properties by a list of values. -/
namespace Go.Proofs.Ythhokiigdgpmcaa
open Go.RowKit

def QG (vals : List (Option Value)) (ex : Nat → Value → World → Prop) (j : Nat) (v : Value) (W : World) : Prop :=
  match vals[j]? with
  | some (some u) => v = u
  | _ => ex j v W
theorem QG.stays {vals : List (Option Value)} {ex : Nat → Value → World → Prop} (h : Stays ex) : Stays (QG vals ex) := fun j v W W' hq hb => by
  unfold QG at hq ⊢
  split at hq
  · exact hq
  · exact h j v W W' hq hb

/-! Short words for the steps of a drawn region. -/
section
variable {Q : Nat → Value → World → Prop} {vals : List (Option Value)} {ex : Nat → Value → World → Prop}
theorem QG.val (HQ : Hid (Q = QG vals ex)) {i : Nat} {x v : Value} {W : World} (hx : vals[i]? = some (some x)) (h : Q i v W) : v = x := by
  have e := HQ.out
  subst e
  unfold QG at h
  rw [hx] at h
  exact h
theorem QG.put (HQ : Hid (Q = QG vals ex)) {i : Nat} {x v : Value} {W : World} (hx : vals[i]? = some (some x)) (h : v = x) : Q i v W := by
  have e := HQ.out
  subst e
  unfold QG
  rw [hx]
  exact h
theorem QG.none (HQ : Hid (Q = QG vals ex)) (i : Nat) (hx : vals[i]? = some Option.none) (he : ∀ v W, ex i v W) (v : Value) (W : World) : Q i v W := by
  have e := HQ.out
  subst e
  unfold QG
  rw [hx]
  exact he v W
theorem Fr.gv {ops : Array Oper} {T : Array Value} {val : Nat → Value} {L : Array Bool} {a : Act} {W : World} (h : Fr ops T val L a) (hR : ∀ j, L.getD j false = true → Q j (val j) W) (HQ : Hid (Q = QG vals ex)) (i : Nat) {s : Tmp} {x : Value} (hi : dstOf ops i = some s) (hl : L.getD i false = true) (hx : vals[i]? = some (some x)) : a.tmps[s]?.getD undef = x :=
  h.gave i hi hl (QG.val HQ hx (hR i hl))
theorem step_gd {ops : Array Oper} {T : Array Value} {val : Nat → Value} {L : Array Bool} {a : Act} {W : World} {o : Oper} {j s : Nat} {b : Bool} {A B : Prop} (hF : Fr ops T val L a) (hR : ∀ j, L.getD j false = true → Q j (val j) W) (HQ : Hid (Q = QG vals ex)) (hg : o.guard = some (j, b)) (hj : dstOf ops j = some s) (hs : decide (s < T.size) = true)
    (hl : L.getD j false = true) (hx : vals[j]? = some (some (.bool b))) (h : A) : if Region.wanted o (yielded ops a.tmps) then A else B :=
  step_guard hF hg hj hs hl (QG.val HQ hx (hR j hl)) h
theorem step_sk {ops : Array Oper} {T : Array Value} {val : Nat → Value} {L : Array Bool} {a : Act} {W : World} {o : Oper} {j s : Nat} {b : Bool} {v : Value} {A B : Prop} (hF : Fr ops T val L a) (hR : ∀ j, L.getD j false = true → Q j (val j) W) (HQ : Hid (Q = QG vals ex)) (hg : o.guard = some (j, b)) (hj : dstOf ops j = some s) (hs : decide (s < T.size) = true)
    (hl : L.getD j false = true) (hx : vals[j]? = some (some v)) (hne : v ≠ .bool b) (h : B) : if Region.wanted o (yielded ops a.tmps) then A else B :=
  step_skip hF hg hj hs hl (QG.val HQ hx (hR j hl)) hne h
variable {W0 W : World} {val : Nat → Value} {L : Array Bool}
theorem RQ.go (h : RQ Q W0 val L W) (hQ : Stays Q) (HQ : Hid (Q = QG vals ex)) (i : Nat) {x : Value} (hx : vals[i]? = some (some x)) : ∀ v W', Below W.heap.size W W' → v = x → RQ Q W0 (upd val i v) (L.setIfInBounds i true) W' :=
  fun _ _ hb e => h.step hQ hb (QG.put HQ hx e)
theorem RQ.goT (h : RQ Q W0 val L W) (hQ : Stays Q) {i : Nat} (hn : ∀ v W, Q i v W) : ∀ v W', Below W.heap.size W W' → True → RQ Q W0 (upd val i v) (L.setIfInBounds i true) W' :=
  fun v W' hb _ => h.step hQ hb (hn v W')
end
end Go.Proofs.Ythhokiigdgpmcaa

/- The last step of a law's row, where the call's world is known by Below alone: my own words over the library's post. -/
namespace Go.Proofs.Ythhokiigdgpmcaa
open Go.RowKit Go.WideShapes Go.ChangeShapes Go.ChangeAt Go.Joins

theorem own : ownKnob Try.prog.godebug = none := by kernel_rfl

section
variable {H : Type} {enc : TypeId × Value → H} {P : Program}
/-- A law without variables: it answers the bool v, its arguments read as they did, and nothing that was there has changed. -/
theorem law_post {f : Func} {s : ChangeSpec} {apart fresh handsOn again : Bool} {W W' : World} {args : Array Value} {v : Bool} {tb : TypeId} {ds : List (DataW H)} {before : List MemPlace}
    (hW : DataW.Whole enc P f.params.toList s.vars apart W args.toList ds [] before) (hr : f.resultTypes = #[tb]) (ht : P.underlying tb = some .bool) (hv : s.vars = []) (hs : s.fn H (ds ++ []) = { results := [.lit (.bool v)], args := ds })
    (hargs : ∀ sp : Nat → Bool, (∀ p ∈ before, sp p.block = true) → DataW.TrodAll enc P W' 0 sp true f.params.toList args.toList ds before) (hb : Below W.heap.size W W') :
    s.post enc P f apart fresh handsOn again W args (.bool v) W' := by
  have hlt : ∀ p ∈ before, p.block < W.heap.size := fun p hp => hW.lt p hp
  have hres : ∀ (b : Nat) (sp : Nat → Bool) (hd : Bool), DataW.TrodAll enc P W' b sp hd f.resultTypes.toList ((Value.bool v).resultList f.resultTypes.size) (s.fn H (ds ++ [])).results [] := fun b sp hd => by
    rw [hr, hs]
    exact trodAll_mk1 (shut_bool ht v)
  have hvars : ∀ sp : Nat → Bool, DataW.TrodVars enc P W' sp s.vars (s.fn H (ds ++ [])).vars [] := fun sp => by
    rw [hs, hv]
    rfl
  have hargs' : ∀ sp : Nat → Bool, (∀ p ∈ before, sp p.block = true) → DataW.TrodAll enc P W' 0 sp true f.params.toList args.toList (s.fn H (ds ++ [])).args before := fun sp h => by
    rw [hs]
    exact hargs sp h
  refine ⟨ds, [], before, [], before, [], hW, hres _ _ _, hargs' _ (fun p hp => decide_eq_true (hlt p hp)), hvars _, World.keptBut_mono (fun p hp => ⟨hp, ?_⟩) (hb.frame (· ∈ before)), fun _ => ?_⟩
  · exact Or.inr (by simpa using hp)
  · obtain ⟨_, _, _, _, _, hz, hn⟩ := hW
    refine ⟨?_, _, _, ([] ++ before) ++ [], ⟨[] ++ before, [], trodAll_append (hargs' _ (fun _ _ => rfl)) (hres _ _ _), hvars _, rfl, ?_, ?_⟩, ?_⟩
    · exact ok_one hr rfl (okWide_bool_mk ht v)
    · intro b off hp
      have hin : MemPlace.cell b off ∈ before := by simpa using hp
      rw [hb.frozen (hlt _ hin)]
      exact hz b off hin
    · intro ha
      simpa using hn ha
    · intro p hp _
      simpa using hp
end

set_option maxRecDepth 100000
theorem cells_span : Try.prog.cellsOf 34 = 2 := by kernel_rfl

/-- A span by value, opened. -/
theorem span_open {H : Type} {enc : TypeId × Value → H} {w : World} {base : Nat} {spare : Nat → Bool} {held : Bool} {r : Reach} {b0 : Nat} {v : Value} {d : DataW H} {p : List MemPlace}
    (hv : Value.okWide Try.prog w r b0 34 v) (h : DataW.Trod enc Try.prog w base spare held 34 v d p) :
    ∃ a b : Int, v = .agg #[.int .i64 a, .int .i64 b] ∧ d = .agg [.lit (.int .i64 a), .lit (.int .i64 b)] ∧ p = [] ∧ (Lit.int .i64 a).wf = true ∧ (Lit.int .i64 b).wf = true := by
  obtain ⟨c0, c1, y0, y1, m, rfl, rfl, rfl, hy0, hy1⟩ := open_agg2 Try.underlying34 (by kernel_rfl) cells_span hv h
  obtain ⟨a, e0, rfl, wa⟩ := DataW.trod_int Try.underlying3 hy0
  obtain ⟨b, e1, rfl, wb⟩ := DataW.trod_int Try.underlying3 hy1
  simp at e0 e1
  subst e0 e1
  exact ⟨a, b, rfl, rfl, rfl, wa, wb⟩
/-- .. and shut. -/
theorem span_shut {H : Type} {enc : TypeId × Value → H} {w : World} {base : Nat} {spare : Nat → Bool} {held : Bool} {a b : Int} (wa : (Lit.int .i64 a).wf = true) (wb : (Lit.int .i64 b).wf = true) :
    DataW.Trod enc Try.prog w base spare held 34 (.agg #[.int .i64 a, .int .i64 b]) (.agg [.lit (.int .i64 a), .lit (.int .i64 b)]) [] :=
  shut_agg2 (y0 := (.lit (.int .i64 a), [])) (y1 := (.lit (.int .i64 b), [])) Try.underlying34 (by kernel_rfl) cells_span ⟨1, by simp [DataW.trod, Try.underlying3, wa]⟩ ⟨1, by simp [DataW.trod, Try.underlying3, wb]⟩

end Go.Proofs.Ythhokiigdgpmcaa

/- Arguments that are slices of integers, boxes and tables: opened; and read again where nothing that was there has changed. -/
namespace Go.Proofs.Ythhokiigdgpmcaa
open Go.RowKit Go.WideShapes Go.ChangeShapes Go.ChangeAt Go.Joins Go.Deep

section
variable {H : Type} {enc : TypeId × Value → H}

theorem cell_plain {w : World} {a : Addr} {v : Value} {i : Nat} (h : w.cell? (a.add i) = some v) (h0 : ∃ u, w.cell? (a.add 0) = some u) : ∃ b off, a = ⟨b, off, none⟩ := by
  obtain ⟨b, off, spot⟩ := a
  obtain ⟨u, hu⟩ := h0
  have hspot : spot = none := by simpa [Addr.add] using World.cell?_spot hu
  subst hspot
  exact ⟨b, off, rfl⟩

theorem RI.of_cells {w : World} {a : Addr} {zs : List Int} {n : Nat} (h : ∀ i, i < n → w.cell? (a.add i) = some (.int .i64 (zs.getD i 0))) (hl : n ≤ zs.length) : RI w w.heap.size (some a) (zs.take n) := by
  intro hp
  have hn : 0 < n := by simp at hp; omega
  obtain ⟨b, off, rfl⟩ := cell_plain (h 0 hn) ⟨_, h 0 hn⟩
  have hb := World.block_lt_of_cell? w _ (h 0 hn)
  simp only [add_plain] at hb
  refine ⟨b, off, rfl, hb, fun j u hu => ?_⟩
  simp only [List.getElem?_map, Option.map_eq_some_iff] at hu
  obtain ⟨x, hx, rfl⟩ := hu
  obtain ⟨hj, e⟩ := List.getElem?_eq_some_iff.1 hx
  have hj' : j < n := by simp at hj; omega
  have := h j hj'
  rw [add_plain] at this
  rw [this]
  simp at e
  simp [List.getElem?_eq_getElem (show j < zs.length by omega), e]

/-- A cell that reads as a slice of integers. -/
theorem ints_of {w : World} {base : Nat} {spare : Nat → Bool} {held : Bool} {fuel : Nat} {cs : List Value} {x : DataW H × List MemPlace} (h : DataW.trod enc Try.prog w base spare held fuel 22 cs = some x) :
    ∃ A n c xs, cs = [.slice A n c] ∧ xs.length = n ∧ n ≤ maxLen ∧ RI w w.heap.size A xs := by
  rcases open_ints Try.underlying22 Try.underlying3 (by kernel_rfl) h with ⟨rfl, _⟩ | ⟨a, len, cap, zs, rfl, _, hl, hm, hz, _, hcell, _⟩
  · exact ⟨none, 0, 0, [], rfl, rfl, by unfold maxLen; omega, RV.nil⟩
  · have hlz : len ≤ zs.length := by rw [hz]; split <;> omega
    exact ⟨some a, len, cap, zs.take len, rfl, by simp; omega, by omega, RI.of_cells (fun i hi => hcell i (by omega)) hlz⟩

/-- A cell that reads as a slice of slices of integers. -/
theorem rows_of {w : World} {base : Nat} {held : Bool} {fuel : Nat} {cs : List Value} {x : DataW H × List MemPlace} (h : DataW.trod enc Try.prog w base (fun _ => true) held fuel 23 cs = some x) :
    ∃ A n c V, cs = [.slice A n c] ∧ V.length = n ∧ n ≤ maxLen ∧ (∀ r ∈ V, r.length ≤ maxLen) ∧ RR w w.heap.size A V := by
  rcases open_int_rows Try.underlying23 Try.underlying22 Try.underlying3 (by kernel_rfl) (by kernel_rfl) h with ⟨rfl, _⟩ | ⟨a, len, cap, A, L, C, Z, rfl, _, hl, hm, _, hr⟩
  · exact ⟨none, 0, 0, [], rfl, rfl, by unfold maxLen; omega, by simp, fun h => absurd h (by simp)⟩
  · have hlen : ∀ r, r < len → ((Z r).take (L r)).length = L r := fun r hr' => by
      obtain ⟨_, h1, _, h3, _⟩ := hr r (by omega)
      simp
      omega
    refine ⟨some a, len, cap, (List.range len).map fun r => (Z r).take (L r), rfl, by simp, by omega, fun r hr' => ?_, fun hp => ?_⟩
    · obtain ⟨k, hk, rfl⟩ := List.mem_map.1 hr'
      have hk' : k < len := List.mem_range.1 hk
      rw [hlen k hk']
      obtain ⟨_, h1, h2, _⟩ := hr k (by omega)
      omega
    · have hn : 0 < len := by simpa using hp
      have hc0 := (hr 0 (by omega)).1
      obtain ⟨b, off, rfl⟩ := cell_plain hc0 ⟨_, hc0⟩
      have hb := World.block_lt_of_cell? w _ hc0
      simp only [add_plain] at hb
      refine ⟨b, off, rfl, hb, fun j r hj => ?_⟩
      simp only [List.getElem?_map, Option.map_eq_some_iff] at hj
      obtain ⟨k, hk, rfl⟩ := hj
      obtain ⟨hk1, hk2⟩ := List.getElem?_eq_some_iff.1 hk
      simp at hk1 hk2
      subst hk2
      obtain ⟨h1, h2, h3, h4, _, h6, h7⟩ := hr j (by omega)
      rw [add_plain] at h1
      refine ⟨A j, C j, ?_, ?_⟩
      · rw [hlen j hk1]
        exact h1
      · cases e : A j with
        | none =>
          have := h6 e
          have e0 : L j = 0 := by omega
          rw [e0]
          exact RV.nil
        | some a' =>
          obtain ⟨_, h8⟩ := h7 a' e
          exact RI.of_cells (fun i hi => h8 i (by omega)) (by omega)

/-- A cell that reads as a slice of spans. -/
theorem spans_of {w : World} {base : Nat} {spare : Nat → Bool} {held : Bool} {t : TypeId} {fuel : Nat} {cs : List Value} {x : DataW H × List MemPlace} (ht : Try.prog.underlying t = some (.slice 34)) (h : DataW.trod enc Try.prog w base spare held fuel t cs = some x) :
    ∃ A n c l, cs = [.slice A n c] ∧ l.length = n ∧ n ≤ maxLen ∧ RS w w.heap.size A l := by
  rcases open_slice_pairs ht Try.underlying34 (by kernel_rfl) rfl rfl (by kernel_rfl) (by kernel_rfl) h with ⟨rfl, _⟩ | ⟨a, len, cap, m, n, V0, V1, D0, D1, P0, P1, rfl, _, hl, hm, hmm, _, hr⟩
  · exact ⟨none, 0, 0, [], rfl, rfl, by unfold maxLen; omega, fun h => absurd h (by simp)⟩
  · have hlm : len ≤ m := by rw [hmm]; split <;> omega
    have each : ∀ i, ∃ q : Int × Int, i < len → w.cell? (a.add (i * 2)) = some (.int .i64 q.1) ∧ w.cell? (a.add (i * 2 + 1)) = some (.int .i64 q.2) := fun i => by
      by_cases hi : i < len
      · obtain ⟨h0, h1, t0, t1⟩ := hr i (by omega)
        obtain ⟨u, e0, _, _⟩ := DataW.trod_int Try.underlying3 t0
        obtain ⟨v, e1, _, _⟩ := DataW.trod_int Try.underlying3 t1
        simp at e0 e1
        exact ⟨(u, v), fun _ => ⟨by rw [h0, e0], by rw [h1, e1]⟩⟩
      · exact ⟨(0, 0), fun h => absurd h hi⟩
    obtain ⟨f, hf⟩ : ∃ f : Nat → Int × Int, ∀ i, i < len → w.cell? (a.add (i * 2)) = some (.int .i64 (f i).1) ∧ w.cell? (a.add (i * 2 + 1)) = some (.int .i64 (f i).2) := ⟨fun i => (each i).choose, fun i => (each i).choose_spec⟩
    clear each hr
    refine ⟨some a, len, cap, (List.range len).map f, rfl, by simp, by omega, fun hp => ?_⟩
    have hn : 0 < len := by simpa using hp
    have hc0 := (hf 0 hn).1
    obtain ⟨b, off, rfl⟩ := cell_plain hc0 ⟨_, by simpa using hc0⟩
    have hb := World.block_lt_of_cell? w _ hc0
    simp only [add_plain] at hb
    refine ⟨b, off, rfl, hb, fun j p hj => ?_⟩
    simp only [List.getElem?_map, Option.map_eq_some_iff] at hj
    obtain ⟨k, hk, rfl⟩ := hj
    obtain ⟨hk1, hk2⟩ := List.getElem?_eq_some_iff.1 hk
    simp at hk1 hk2
    subst hk2
    obtain ⟨h1, h2⟩ := hf j hk1
    rw [add_plain] at h1 h2
    exact ⟨h1, h2⟩

set_option maxRecDepth 100000
theorem cells_table : Try.prog.cellsOf 25 = 3 := by kernel_rfl
theorem laid : laidOutB Try.prog = true := by kernel_rfl

/-- A table by value, opened. -/
theorem table_open {w : World} {base : Nat} {r : Reach} {b0 : Nat} {v : Value} {d : DataW H} {p : List MemPlace}
    (hv : Value.okWide Try.prog w r b0 25 v) (h : DataW.Trod enc Try.prog w base (fun _ => true) true 25 v d p) :
    ∃ AX nx cx AY ny cy AV nv cv X Y V, v = .agg #[.slice AX nx cx, .slice AY ny cy, .slice AV nv cv] ∧ X.length = nx ∧ Y.length = ny ∧ V.length = nv ∧ nx ≤ maxLen ∧ ny ≤ maxLen ∧ nv ≤ maxLen ∧
      (∀ r ∈ V, r.length ≤ maxLen) ∧ TB w w.heap.size AX AY AV X Y V := by
  obtain ⟨c0, c1, c2, y0, y1, y2, m, rfl, _, _, hy0, hy1, hy2⟩ := open_agg3 Try.underlying25 (by kernel_rfl) cells_table hv h
  obtain ⟨AX, nx, cx, X, e0, hx, hnx, rx⟩ := ints_of hy0
  obtain ⟨AY, ny, cy, Y, e1, hy, hny, ry⟩ := ints_of hy1
  obtain ⟨AV, nv, cv, V, e2, hv', hnv, hnr, rv⟩ := rows_of hy2
  simp at e0 e1 e2
  subst e0 e1 e2
  exact ⟨AX, nx, cx, AY, ny, cy, AV, nv, cv, X, Y, V, rfl, hx, hy, hv', hnx, hny, hnv, hnr, rx, ry, rv⟩

/-- An argument that is a slice of spans, opened. -/
theorem spans_open {w : World} {base : Nat} {r : Reach} {b0 : Nat} {t : TypeId} {v : Value} {d : DataW H} {p : List MemPlace} (ht : Try.prog.underlying t = some (.slice 34))
    (hv : Value.okWide Try.prog w r b0 t v) (h : DataW.Trod enc Try.prog w base (fun _ => true) true t v d p) :
    ∃ A n c l, v = .slice A n c ∧ l.length = n ∧ n ≤ maxLen ∧ RS w w.heap.size A l := by
  obtain ⟨a0, len, cap, rfl⟩ := okWide_slice ht hv
  obtain ⟨fuel, hf⟩ := h
  obtain ⟨A, n, c, l, e, h1, h2, h3⟩ := spans_of ht hf
  simp [Value.cells] at e
  obtain ⟨rfl, rfl, rfl⟩ := e
  exact ⟨_, _, _, l, rfl, h1, h2, h3⟩

/-- An argument reads again. -/
theorem again {t : TypeId} {W W' : World} {v : Value} {d : DataW H} {ps : List MemPlace} {sp : Nat → Bool} (hr : Try.prog.readableRec t = true) (ht : t < Try.prog.types.size)
    (h : DataW.Trod enc Try.prog W 0 (fun _ => true) true t v d ps) (hb : Below W.heap.size W W') (hlt : ∀ x ∈ ps, x.block < W.heap.size) (hs : ∀ x ∈ ps, sp x.block = true) : DataW.Trod enc Try.prog W' 0 sp true t v d ps :=
  WideElems.Trod_stays laid hr ht h (fun x hx => hb.same (hlt x hx)) hs
end

end Go.Proofs.Ythhokiigdgpmcaa

/- Lists of integers that the call owns. -/
namespace Go.Proofs.Ythhokiigdgpmcaa
open Go.RowKit

abbrev OI (base : Nat) (v : Value) (l : List Int) (w : World) : Prop := w.ownsRow base 3 1 v l.length (l.map (Value.int .i64))
section
variable {w w' : World} {base : Nat} {v : Value} {l : List Int}
theorem OI.nil : OI base (.slice none 0 0) [] w := ⟨by simp, .inl ⟨rfl, rfl⟩⟩
theorem OI.ri (h : OI base v l w) : ∃ A c, v = .slice A l.length c ∧ l.length ≤ c ∧ RI w w.heap.size A l := by
  rcases h.2 with ⟨rfl, e⟩ | ⟨g, cap, cur, rfl, _, _, hc, _⟩
  · have : l = [] := by simpa using e
    subst this
    exact ⟨none, 0, rfl, Nat.le_refl _, RV.nil⟩
  · refine ⟨_, cap, rfl, hc, fun _ => ⟨g, 0, rfl, (h.lt g rfl).2, fun j u hu => ?_⟩⟩
    have hj : j < l.length * 1 := by
      have h2 := (List.getElem?_eq_some_iff.1 hu).1
      simpa using h2
    rw [Nat.zero_add, h.cellAt j hj]
    exact hu
theorem OI.below {B : Nat} {w0 : World} (h : OI base v l w) (hg : w.grownBy w' v.ownBlock) (hb : Below B w0 w) (hB : B ≤ w.heap.size) (hbase : B ≤ base) : Below B w0 w' :=
  hb.trans ((Below.refl _ _).grown hg hB (fun q hq => by have := (h.lt _ hq).1; omega))
theorem OI.grownOther {v2 : Value} {_l2 : List Int} (h : OI base v l w) (hg : w.grownBy w' v2.ownBlock) (hne : v.ownBlock = none ∨ v.ownBlock ≠ v2.ownBlock) : OI base v l w' := World.ownsRow.kept h hg hne
end

/-- append(s, y), s the call's own. -/
theorem wpList_push {w : World} {ops : Array Oper} {rest : List Oper} {o : Oper} {a : Act} {Q : Exit → Act → World → Prop} (hgd : o.guard = none) (s x : Operand)
    (ho : o.op = .call { callee := .builtin .append, args := #[s, x], argTypes := #[22, 22] }) (base : Nat) (v : Value) (xs : List Int) (hs : a.eval s = v) (hown : OI base v xs w)
    (g : Nat) (y : Int) (hx : a.eval x = .slice (some ⟨g, 0, none⟩) 1 1) (hy : w.cell? ⟨g, 0, none⟩ = some (.int .i64 y)) (hlen : xs.length ≤ 1000000) (hbase : base ≤ w.heap.size)
    (h : ∀ v' w', OI base v' (xs ++ [y]) w' → w.grownBy w' v.ownBlock → wpList Try.prog ops Q rest (a.put o.dst v') w') : wpList Try.prog ops Q (o :: rest) a w := by
  obtain ⟨i0, hi0, hz0, hz1, hz2⟩ := info_parts info_int
  refine wpList_append_own w hgd s x 22 ho base 3 i0 (.int .i64 0) 1 8 Try.underlying22 hi0 hz0 hz1 hz2 rfl (by decide) v xs.length _ hs hown ⟨g, 0, none⟩ 1 1 [.int .i64 y] hx rfl (fun j u hu => ?_) (fun u hu => ?_) (by unfold maxLen; omega) (by omega) hbase (fun v' w' h1 h2 _ => h v' w' (by simpa [OI] using h1) h2)
  · match j, hu with
    | 0, hu => simp at hu; subst hu; exact hy
    | j + 1, hu => simp at hu
  · simp at hu; subst hu; rfl


/-- A value that reads as a list of integers. -/
def QI (l : List Int) (v : Value) (W : World) : Prop := ∃ A c, v = .slice A l.length c ∧ l.length ≤ c ∧ RI W W.heap.size A l
theorem QI.stay {l : List Int} {v : Value} {W W' : World} (h : QI l v W) (hb : Below W.heap.size W W') : QI l v W' := by
  obtain ⟨A, c, e, hc, h⟩ := h
  exact ⟨A, c, e, hc, (h.below hb).more hb.size⟩
theorem QI.nil {W : World} : QI [] (.slice none 0 0) W := ⟨none, 0, rfl, Nat.le_refl _, RV.nil⟩
end Go.Proofs.Ythhokiigdgpmcaa

/- append of one integer to a list of the call's own, behind whatever draws. -/
namespace Go.Proofs.Ythhokiigdgpmcaa
open Go.RowKit

theorem wpList_pushJ {w W0 w0 : World} {ops : Array Oper} {rest : List Oper} {o : Oper} {a : Act} {Q : Exit → Act → World → Prop} (hgd : o.guard = none) (s x : Operand)
    (ho : o.op = .call { callee := .builtin .append, args := #[s, x], argTypes := #[22, 22] }) (v : Value) (l : List Int) (hs : a.eval s = v) (hown : OI w0.heap.size v l W0) (hbw : Below w0.heap.size w0 W0) (y : Int)
    (hw : w.heap = W0.heap.push (.cells #[.int .i64 y] 3 (0, 0))) (hos : w.os = W0.os) (htp : w.tape = W0.tape) (hout : w.output = W0.output) (hx : a.eval x = .slice (some ⟨W0.heap.size, 0, none⟩) 1 1) (hlen : l.length ≤ 1000000)
    (h : ∀ v' w', OI w0.heap.size v' (l ++ [y]) w' → Below w0.heap.size w0 w' → wpList Try.prog ops Q rest (a.put o.dst v') w') : wpList Try.prog ops Q (o :: rest) a w := by
  have hz := hbw.size
  have hsz : w.heap.size = W0.heap.size + 1 := by rw [hw]; simp
  have hb2 : Below w0.heap.size w0 w := ⟨hos.trans hbw.os, htp.trans hbw.tape, hout.trans hbw.output, by omega, fun k hk => by rw [hw, Array.getElem?_push, if_neg (by omega)]; exact hbw.block k hk⟩
  have hown' : OI w0.heap.size v l w := by
    refine ⟨hown.1, hown.2.imp id fun ⟨g, cap, cur, e, hg, hc, h3⟩ => ⟨g, cap, cur, e, hg, ?_, h3⟩⟩
    have := lt_of_block hc
    rw [hw, Array.getElem?_push, if_neg (by omega)]
    exact hc
  have hblk : w.heap[W0.heap.size]? = some (.cells #[.int .i64 y] 3 (0, 0)) := by rw [hw, Array.getElem?_push, if_pos rfl]
  refine wpList_push hgd s x ho w0.heap.size v l hs hown' W0.heap.size y hx (cellOf hblk rfl) hlen (by omega) fun v' w' h1 h2 => h v' w' h1 (hb2.grown h2 (by omega) fun q hq => (hown.lt _ hq).1)
theorem OI.stay {base : Nat} {v : Value} {l : List Int} {w w' : World} (h : OI base v l w) (hb : Below w.heap.size w w') : OI base v l w' :=
  ⟨h.1, h.2.imp id fun ⟨g, cap, cur, e, hg, hc, h3⟩ => ⟨g, cap, cur, e, hg, (hb.block g (lt_of_block hc)).trans hc, h3⟩⟩
theorem OI.qi {base : Nat} {v : Value} {l : List Int} {w : World} (h : OI base v l w) : QI l v w := h.ri
end Go.Proofs.Ythhokiigdgpmcaa

/- A drawn region that ends with an append to a list of the call's own and its assignment. -/
namespace Go.Proofs.Ythhokiigdgpmcaa
open Go.RowKit

def RQA (Q : Nat → Value → World → Prop) (W0 : World) (s : Nat) (P : Value → World → Prop) (val : Nat → Value) (L : Array Bool) (W : World) : Prop :=
  (L.getD s false = false → RQ Q W0 val L W) ∧ (L.getD s false = true → P (val s) W ∧ (L.getD (s + 1) false = true → val (s + 1) = val s))
section
variable {Q : Nat → Value → World → Prop} {W0 W W' : World} {s i : Nat} {P : Value → World → Prop} {v : Value} {val : Nat → Value} {L : Array Bool}
theorem RQA.start (Q : Nat → Value → World → Prop) (W0 : World) (s : Nat) (P : Value → World → Prop) (n : Nat) : RQA Q W0 s P (fun _ => undef) (Array.replicate n false) W0.drew :=
  ⟨fun _ => RQ.start Q W0 n, fun h => by rw [getD_replicate_no] at h; cases h⟩
theorem RQA.step (h : RQ Q W0 val L W) (hQ : Stays Q) (hb : Below W.heap.size W W') (hq : Q i v W') (hs : i ≠ s) (hN : L.getD s false = false) : RQA Q W0 s P (upd val i v) (L.setIfInBounds i true) W' :=
  ⟨fun _ => h.step hQ hb hq, fun h2 => (by rw [getD_set_other hs, hN] at h2; cases h2)⟩
theorem RQA.push (hs : s < L.size) (hN : L.getD (s + 1) false = false) (hp : P v W) : RQA Q W0 s P (upd val s v) (L.setIfInBounds s true) W :=
  ⟨fun h2 => (by rw [getD_set_eq hs] at h2; cases h2), fun _ => ⟨by rw [upd_same]; exact hp, fun h2 => (by rw [getD_set_other (by omega), hN] at h2; cases h2)⟩⟩
theorem RQA.assign (h : RQA Q W0 s P val L W) (hs : L.getD s false = true) : RQA Q W0 s P (upd val (s + 1) (val s)) (L.setIfInBounds (s + 1) true) W := by
  have e1 : upd val (s + 1) (val s) s = val s := upd_other (by omega)
  have e2 : upd val (s + 1) (val s) (s + 1) = val s := upd_same _ _ _
  refine ⟨fun h2 => ?_, fun _ => ?_⟩
  · rw [getD_set_other (by omega), hs] at h2; cases h2
  · rw [e1, e2]
    exact ⟨(h.2 hs).1, fun _ => rfl⟩
end
theorem Fr.back {ops : Array Oper} {T : Array Value} {val : Nat → Value} {L : Array Bool} {a : Act} (h : Fr ops T val L a) {i : Nat} (hl : L.getD i false = false) (j : Nat) {o : Oper} (ho : ops[j]? = some o) (hi : i < ops.size) {e : Edge} (he : e ∈ o.after) (hb : Region.binds .any e = true) (hon : e.on = i) : L.getD j false = false :=
  h.later (by rw [getD_same (by rw [h.lsize]; exact hi)]; exact hl) j ho he hb hon
def oneDst (ops : Array Oper) (s : Tmp) (j : Nat) : Bool := (List.range ops.size).all fun i => dstOf ops i != some s || i == j
theorem Fr.wasOf {ops : Array Oper} {T : Array Value} {val : Nat → Value} {L : Array Bool} {a : Act} (h : Fr ops T val L a) (s : Tmp) (j : Nat) {v : Value} (hs : oneDst ops s j = true) (hl : L.getD j false = false) (hv : T.getD s undef = v) : a.tmps[s]?.getD undef = v := by
  rw [← Array.getD_eq_getD_getElem?]
  refine (h.base s fun i hi => ?_).trans hv
  have hil : i < ops.size := by
    unfold dstOf at hi
    cases hoj : ops[i]? with
    | none => rw [hoj] at hi; cases hi
    | some oj => exact (Array.getElem?_eq_some_iff.1 hoj).1
  have := List.all_eq_true.1 hs i (List.mem_range.2 hil)
  simp only [hi, bne_self_eq_false, Bool.false_or, beq_iff_eq] at this
  rw [this]
  exact hl
theorem step_push {F : Fence} {n : Nat} {w : World} {o : Oper} {a : Act} {K : Act → World → Prop} {Q : Exit → Act → World → Prop} (s x : Operand)
    (hop : o.op = .call { callee := .builtin .append, args := #[s, x], argTypes := #[22, 22] }) (base : Nat) (v : Value) (xs : List Int) (hs : a.eval s = v) (hown : OI base v xs w)
    (g : Nat) (y : Int) (hx : a.eval x = .slice (some ⟨g, 0, none⟩) 1 1) (hy : w.cell? ⟨g, 0, none⟩ = some (.int .i64 y)) (hlen : xs.length ≤ 1000000) (hbase : base ≤ w.heap.size)
    (h : ∀ v' w', OI base v' (xs ++ [y]) w' → w.grownBy w' v.ownBlock → K (a.put o.dst v') w') : o.wpIn F n Try.prog a w K Q := by
  obtain ⟨i0, hi0, hz0, hz1, hz2⟩ := info_parts info_int
  obtain ⟨v', w', hrun, r1, r2, _⟩ := run_append_own (P := Try.prog) w base 22 o.type 3 i0 (.int .i64 0) 1 8 Try.underlying22 hi0 hz0 hz1 hz2 rfl (by decide) v xs.length _ hown ⟨g, 0, none⟩ 1 1 [.int .i64 y] rfl (fun j u hu => (by
    match j, hu with
    | 0, hu => simp at hu; subst hu; exact hy
    | j + 1, hu => simp at hu)) (fun u hu => (by simp at hu; subst hu; rfl)) (by unfold maxLen; omega) (by omega) hbase
  have r1' : OI base v' (xs ++ [y]) w' := by simpa [OI] using r1
  unfold Oper.wpIn
  refine ⟨?_, ?_⟩
  · simp [Oper.about, hop, resolve, Target.leads, Sem.run_pure]
  · rw [Oper.semAt_plain F _ _ (by rw [hop]; intro c hc'; cases hc')]
    simp [execOp, hop, resolve, invoke, builtin, hs, hx, hrun, Result.andThen]
    exact h _ _ r1' r2
end Go.Proofs.Ythhokiigdgpmcaa

/- Lists of cells that the call owns; sameCells. -/
namespace Go.Proofs.Ythhokiigdgpmcaa
open Go.RowKit

def pV (x : Int × Int) : List Value := [.int .i64 x.1, .int .i64 x.2]
def pCells (l : List (Int × Int)) : List Value := l.flatMap pV
theorem pCells_get : ∀ {l : List (Int × Int)} {j : Nat} {p : Int × Int}, l[j]? = some p → (pCells l)[j * 2]? = some (.int .i64 p.1) ∧ (pCells l)[j * 2 + 1]? = some (.int .i64 p.2) := by
  intro l
  induction l with
  | nil => intro j p h; simp at h
  | cons x l ih =>
    intro j p h
    have e : pCells (x :: l) = .int .i64 x.1 :: .int .i64 x.2 :: pCells l := rfl
    rw [e]
    match j with
    | 0 => simp at h; subst h; exact ⟨rfl, rfl⟩
    | j + 1 =>
      have := ih (j := j) (p := p) (by simpa using h)
      rw [show (j + 1) * 2 = j * 2 + 1 + 1 by omega]
      exact this
/-- A value that reads as a list of cells. -/
def QC (l : List (Int × Int)) (v : Value) (W : World) : Prop := ∃ A c, v = .slice A l.length c ∧ RS W W.heap.size A l
theorem QC.stay {l : List (Int × Int)} {v : Value} {W W' : World} (h : QC l v W) (hb : Below W.heap.size W W') : QC l v W' := by
  obtain ⟨A, c, e, h⟩ := h
  exact ⟨A, c, e, (h.below hb).more hb.size⟩
theorem QC.nil {W : World} : QC [] (.slice none 0 0) W := ⟨none, 0, rfl, fun h => absurd h (by simp)⟩
def GivesCe (w : World) (r : List (Int × Int) × Int) (e : Ending) (w' : World) : Prop := ∃ v, e = .returned (.tuple #[v, .int .i64 r.2]) ∧ QC r.1 v w' ∧ Below w.heap.size w w'

theorem eq_int (d : Nat) (x : Int) (W : World) : Sem.run Try.prog (Op.equalIn (d + 1) 3 (.int .i64 x) (.int .i64 x)) W = .ok true W := by
  have hui : Try.prog.underlying 3 = some _ := Try.underlying3
  simp [Op.equalIn, run_underlying hui]
end Go.Proofs.Ythhokiigdgpmcaa

/- check.Spans, check.OnAxis, CheckHoist of both sides, winds. -/
namespace Go.Proofs.Ythhokiigdgpmcaa
open Go.RowKit

/-- A value that reads as a list of spans. -/
def QS (l : List (Int × Int)) (v : Value) (W : World) : Prop := ∃ A c, v = .slice A l.length c ∧ RS W W.heap.size A l
theorem QS.stay {l : List (Int × Int)} {v : Value} {W W' : World} (h : QS l v W) (hb : Below W.heap.size W W') : QS l v W' := by
  obtain ⟨A, c, e, h⟩ := h
  exact ⟨A, c, e, (h.below hb).more hb.size⟩
theorem chkE_one (p : Int × Int) : chkE [p] = if vS p then 0 else 10 := by
  unfold chkE chkB
  simp

set_option maxRecDepth 100000 in
theorem checkSpans_any (A : Option Addr) (n c B : Nat) (l : List (Int × Int)) (w : World) (hx : l.length = n) (hn : n ≤ maxLen) (hB : B ≤ w.heap.size) (h : RS w B A l) :
    Calls Try.prog 98 #[.slice A n c] w fun e w' => e = .returned (.bool (l.all vS)) ∧ Below w.heap.size w w' := by
  subst hx
  unfold maxLen at hn
  go_enter Try.func98, Try.ntmps98
  go_wp2
  go_loopw [7] (fun i wr => ∃ k : Nat, k ≤ l.length ∧ i = .int .i64 k ∧ (l.take k).all vS = true ∧ Below w.heap.size w wr) (fun i _ => l.length - (intOf i).toNat)
  case atStart => exact ⟨0, Nat.zero_le _, rfl, by simp, Below.refl _ _⟩
  case round =>
    obtain ⟨k, hk, rfl, hw, hbw⟩ := hrel
    have hsz := hbw.size
    by_cases hlt : k < l.length
    · obtain ⟨b, off, x, rfl, hb, hx, hc1, hc2⟩ := ((h.more hB).below hbw).at_ hlt
      have hb' : b < wr.heap.size := by omega
      obtain ⟨x1, x2⟩ := x
      simp only at hc1 hc2
      have HX := Lib.hid hx
      have HW := Lib.hid hw
      have HBW := Lib.hid hbw
      clear hx hw hbw
      have HC := Lib.hid (fun (W : World) (g : Nat) (hg : g < W.heap.size) (hr : RS W (g + 1) (some ⟨g, 0, none⟩) [(x1, x2)]) => check_any (some ⟨g, 0, none⟩) 1 1 (g + 1) [(x1, x2)] W rfl (le_maxLen (by omega)) hg hr)
      rw [chkE_one] at HC
      cases hv : vS (x1, x2) with
      | false =>
        have HV := Lib.hid (vS_bad HX.out hv)
        rw [hv] at HC
        simp only [Bool.false_eq_true, if_false] at HC
        clear hv
        go_wp2_with (go_at_call 122; refine Calls.mono (HC.out _ _ (by simp) (RS.new1 (by simp))) ?_; rintro e w1 ⟨rfl, hb1⟩; have HB1 := Lib.hid hb1; clear hb1)
        go_ret
        exact ⟨ret_bool HV.out.symm, (Below.trans (by exact HBW.out) (Below.trans (show Below wr.heap.size wr _ by go_grown) (HB1.out.mono (by simp <;> omega)) |>.mono hsz))⟩
      | true =>
        have HV := Lib.hid (show (l.take (k + 1)).all vS = true by rw [vS_step HX.out, HW.out, hv]; rfl)
        rw [hv] at HC
        simp only [if_true] at HC
        clear hv
        go_wp2_with (go_at_call 122; refine Calls.mono (HC.out _ _ (by simp) (RS.new1 (by simp))) ?_; rintro e w1 ⟨rfl, hb1⟩; have HB1 := Lib.hid hb1; clear hb1)
        go_roundw
        case rel => exact ⟨k + 1, by omega, by go_num, HV.out, (Below.trans (by exact HBW.out) (Below.trans (show Below wr.heap.size wr _ by go_grown) (HB1.out.mono (by simp <;> omega)) |>.mono hsz))⟩
        case measure => simp [intOf]; omega
    · go_wp2
      go_ret
      exact ⟨ret_bool (by rw [← hw, List.take_of_length_le (by omega)]), hbw⟩

/-- check.OnAxis. -/
def osB (X : List Int) (p : Int × Int) : Bool := onB X [p.1, p.2]
theorem osB_bad {X : List Int} {l : List (Int × Int)} {k : Nat} {p : Int × Int} (hx : l[k]? = some p) (h : osB X p = false) : l.all (osB X) = false := by
  rw [List.all_eq_false]
  obtain ⟨hk, e⟩ := List.getElem?_eq_some_iff.1 hx
  exact ⟨_, List.getElem_mem hk, by rw [e, h]; simp⟩
theorem osB_step {X : List Int} {l : List (Int × Int)} {k : Nat} {x : Int × Int} (hx : l[k]? = some x) : (l.take (k + 1)).all (osB X) = ((l.take k).all (osB X) && osB X x) := by
  rw [List.take_add_one, hx]
  simp

set_option maxRecDepth 100000 in
set_option maxHeartbeats 1000000 in
theorem onAxis2_any (A' A : Option Addr) (m c' n c B : Nat) (X : List Int) (l : List (Int × Int)) (w : World) (hX : X.length = m) (hm : 1 ≤ m ∧ m ≤ 1000000) (hx : l.length = n) (hn : n ≤ maxLen) (hB : B ≤ w.heap.size) (hr : RI w B A' X) (h : RS w B A l) :
    Calls Try.prog 127 #[.slice A' m c', .slice A n c] w fun e w' => e = .returned (.bool (l.all (osB X))) ∧ Below w.heap.size w w' := by
  subst hx
  unfold maxLen at hn
  obtain ⟨m1, m2⟩ := hm
  obtain ⟨bx, ox, x0, rfl, hbx, hx0, cx0⟩ := hr.at_ (k := 0) (by omega)
  obtain ⟨bx', ox', xl, hA, hbx', hxl, cxl⟩ := hr.at_ (k := m - 1) (by omega)
  obtain ⟨rfl, rfl⟩ : bx = bx' ∧ ox = ox' := by simpa using hA
  have HOS := Lib.hid (fun p : Int × Int => show osB X p = wB x0 xl [p.1, p.2] by unfold osB onB; rw [hx0, hX, hxl]; rfl)
  clear hr hx0 hxl hX hA
  rw [Nat.add_zero] at cx0
  go_enter Try.func127, Try.ntmps127
  go_wp2
  go_loopw [9] (fun i wr => ∃ k : Nat, k ≤ l.length ∧ i = .int .i64 k ∧ (l.take k).all (osB X) = true ∧ Below w.heap.size w wr) (fun i _ => l.length - (intOf i).toNat)
  case atStart => exact ⟨0, Nat.zero_le _, rfl, by simp, Below.refl _ _⟩
  case round =>
    obtain ⟨k, hk, rfl, hw, hbw⟩ := hrel
    have hsz := hbw.size
    by_cases hlt : k < l.length
    · obtain ⟨b, off, x, rfl, hb, hx, hc1, hc2⟩ := ((h.more hB).below hbw).at_ hlt
      have hb' : b < wr.heap.size := by omega
      obtain ⟨x1, x2⟩ := x
      simp only at hc1 hc2
      have a0 := cell_keep hbw cx0
      have al := cell_keep hbw cxl
      have hbxr : bx < wr.heap.size := by omega
      have HX := Lib.hid hx
      have HW := Lib.hid hw
      have HBW := Lib.hid hbw
      clear hx hw hbw
      go_upto_region 4 with (fail)
      have s0 : (wr.alloc (.cells #[.int .i64 x1, .int .i64 x2] 34)).cell? ⟨wr.heap.size, 0, none⟩ = some (.int .i64 x1) := by rw [cell_newest]; rfl
      have s1 : (wr.alloc (.cells #[.int .i64 x1, .int .i64 x2] 34)).cell? ⟨wr.heap.size, 1, none⟩ = some (.int .i64 x2) := by rw [cell_newest]; rfl
      generalize hbv : wB x0 xl [x1, x2] = bv at *
      have HBV := Lib.hid hbv
      have HB0 := Lib.hid (show Below w.heap.size w (wr.alloc (.cells #[.int .i64 x1, .int .i64 x2] 34)) from HBW.out.alloc hsz _)
      have b0 := cell_keep ((Below.refl wr.heap.size wr).alloc (Nat.le_refl _) (.cells #[.int .i64 x1, .int .i64 x2] 34)) a0
      have bl := cell_keep ((Below.refl wr.heap.size wr).alloc (Nat.le_refl _) (.cells #[.int .i64 x1, .int .i64 x2] 34)) al
      clear hbv a0 al hc1 hc2
      generalize wr.heap.size = g at *
      generalize wr.alloc _ = w0 at *
      have i1 : IntKind.i64.wrap ((m : Int) - 1) = (m : Int) - 1 := IntWalk.i64_in _ (by omega)
      have i2 : ((m : Int) - 1).toNat = m - 1 := by omega
      have i3 : (0 : Int) ≤ (m : Int) - 1 := by omega
      have i4 : (m : Int) - 1 < (m : Int) := by omega
      have i5 : (1 : Int) ≤ (m : Int) := by omega
      have i6 : (0 : Int) < (m : Int) := by omega
      have i7 : 0 < m := by omega
      obtain ⟨Q, hQ⟩ : ∃ q9 : Nat → Value → World → Prop, q9 = QG [some (.slice (some ⟨bx, ox, none⟩) m c'), some (.pointer (some ⟨bx, ox, none⟩)), some (.int .i64 x0), some (.slice (some ⟨bx, ox, none⟩) m c'), some (.slice (some ⟨bx, ox, none⟩) m c'), some (.int .i64 ((m : Int))), some (.int .i64 ((m : Int) - 1)), some (.pointer (some ⟨bx, ox + (m - 1), none⟩)), some (.int .i64 xl), some (.pointer (some ⟨g, 0, none⟩)), some (.int .i64 x1), some (.pointer (some ⟨g, 1, none⟩)), some (.int .i64 x2), none, some (.bool bv), some (.bool (!bv))] (fun j0' v0' w0' => (j0' = 13 → QI [x1, x2] v0' w0')) := ⟨_, rfl⟩
      have hst : Stays Q := by rw [hQ]; exact QG.stays (fun j v W W' h hb => fun e => (h e).stay hb)
      have U13 := Lib.hid (show ∀ v0' w0', Q 13 v0' w0' ↔ QI [x1, x2] v0' w0' from fun v0' w0' => by rw [hQ]; exact ⟨fun h => h rfl, fun h => fun _ => h⟩)
      have HQ := Lib.hid hQ
      clear hQ
      refine wpIn_wide.1 (region_inv2 (n := 9) (by kernel_rfl) (RQ Q w0) (by kernel_rfl) rfl (RQ.start _ _ _) ?hstep ?hend)
      case hstep =>
        intro i' o ho val L b' x hF hR hpre hl
        match i', ho with
        | 0, ho =>
          simp at ho; subst ho; refine step_plain rfl ?_; have e0 := hF.was 0 (by kernel_rfl) rfl; have hgoal := hR.go hst HQ 0 rfl; clear hF hpre hl hR; go_simp; exact ⟨_, rfl, hgoal _ _ (Below.refl _ _) rfl⟩
        | 1, ho =>
          simp at ho; subst ho; refine step_plain rfl ?_; have e13 := hF.gv hR.2 HQ 0 rfl (hpre ⟨0, .data⟩ (by simp) rfl) rfl; have hgoal := hR.go hst HQ 1 rfl; clear hF hpre hl hR; go_simp; exact ⟨_, rfl, hgoal _ _ (Below.refl _ _) rfl⟩
        | 2, ho =>
          simp at ho; subst ho; refine step_plain rfl ?_; have e14 := hF.gv hR.2 HQ 1 rfl (hpre ⟨1, .data⟩ (by simp) rfl) rfl; have hgoal := hR.go hst HQ 2 rfl; have q0 := cell_keep hR.1 b0; clear hF hpre hl hR; go_simp; exact ⟨_, rfl, hgoal _ _ (Below.refl _ _) rfl⟩
        | 3, ho =>
          simp at ho; subst ho; refine step_plain rfl ?_; have e0 := hF.was 0 (by kernel_rfl) rfl; have hgoal := hR.go hst HQ 3 rfl; clear hF hpre hl hR; go_simp; exact ⟨_, rfl, hgoal _ _ (Below.refl _ _) rfl⟩
        | 4, ho =>
          simp at ho; subst ho; refine step_plain rfl ?_; have e0 := hF.was 0 (by kernel_rfl) rfl; have hgoal := hR.go hst HQ 4 rfl; clear hF hpre hl hR; go_simp; exact ⟨_, rfl, hgoal _ _ (Below.refl _ _) rfl⟩
        | 5, ho =>
          simp at ho; subst ho; refine step_plain rfl ?_; have e17 := hF.gv hR.2 HQ 4 rfl (hpre ⟨4, .data⟩ (by simp) rfl) rfl; have hgoal := hR.go hst HQ 5 rfl; clear hF hpre hl hR; go_simp; exact ⟨_, rfl, hgoal _ _ (Below.refl _ _) rfl⟩
        | 6, ho =>
          simp at ho; subst ho; refine step_plain rfl ?_; have e18 := hF.gv hR.2 HQ 5 rfl (hpre ⟨5, .data⟩ (by simp) rfl) rfl; have hgoal := hR.go hst HQ 6 rfl; clear hF hpre hl hR; go_simp; exact ⟨_, rfl, hgoal _ _ (Below.refl _ _) rfl⟩
        | 7, ho =>
          simp at ho; subst ho; refine step_plain rfl ?_; have e16 := hF.gv hR.2 HQ 3 rfl (hpre ⟨3, .data⟩ (by simp) rfl) rfl; have e19 := hF.gv hR.2 HQ 6 rfl (hpre ⟨6, .data⟩ (by simp) rfl) rfl; have hgoal := hR.go hst HQ 7 rfl; clear hF hpre hl hR; go_simp; exact ⟨_, rfl, hgoal _ _ (Below.refl _ _) rfl⟩
        | 8, ho =>
          simp at ho; subst ho; refine step_plain rfl ?_; have e20 := hF.gv hR.2 HQ 7 rfl (hpre ⟨7, .data⟩ (by simp) rfl) rfl; have hgoal := hR.go hst HQ 8 rfl; have q0 := cell_keep hR.1 bl; clear hF hpre hl hR; go_simp; exact ⟨_, rfl, hgoal _ _ (Below.refl _ _) rfl⟩
        | 9, ho =>
          simp at ho; subst ho; refine step_plain rfl ?_; have e6 := hF.was 6 (by kernel_rfl) rfl; have hgoal := hR.go hst HQ 9 rfl; clear hF hpre hl hR; go_simp; exact ⟨_, rfl, hgoal _ _ (Below.refl _ _) rfl⟩
        | 10, ho =>
          simp at ho; subst ho; refine step_plain rfl ?_; have e22 := hF.gv hR.2 HQ 9 rfl (hpre ⟨9, .data⟩ (by simp) rfl) rfl; have hgoal := hR.go hst HQ 10 rfl; have q0 := cell_keep hR.1 s0; clear hF hpre hl hR; go_simp; exact ⟨_, rfl, hgoal _ _ (Below.refl _ _) rfl⟩
        | 11, ho =>
          simp at ho; subst ho; refine step_plain rfl ?_; have e6 := hF.was 6 (by kernel_rfl) rfl; have hgoal := hR.go hst HQ 11 rfl; clear hF hpre hl hR; go_simp; exact ⟨_, rfl, hgoal _ _ (Below.refl _ _) rfl⟩
        | 12, ho =>
          simp at ho; subst ho; refine step_plain rfl ?_; have e24 := hF.gv hR.2 HQ 11 rfl (hpre ⟨11, .data⟩ (by simp) rfl) rfl; have hgoal := hR.go hst HQ 12 rfl; have q0 := cell_keep hR.1 s1; clear hF hpre hl hR; go_simp; exact ⟨_, rfl, hgoal _ _ (Below.refl _ _) rfl⟩
        | 13, ho =>
          simp at ho; subst ho; refine step_plain rfl ?_; have e23 := hF.gv hR.2 HQ 10 rfl (hpre ⟨10, .data⟩ (by simp) rfl) rfl; have e25 := hF.gv hR.2 HQ 12 rfl (hpre ⟨12, .data⟩ (by simp) rfl) rfl
          have hgoal : ∀ v0' w0', Below x.heap.size x w0' → QI [x1, x2] v0' w0' → RQ Q w0 (upd val 13 v0') (L.setIfInBounds 13 true) w0' := fun v0' w0' hb hq => hR.step hst hb ((U13.out _ _).2 hq)
          have hM := Lib.hid hR.1
          clear hF hpre hl hR; go_simp; exact ⟨_, rfl, hgoal _ _ ((Below.refl _ _).alloc (Nat.le_refl _) _) ⟨_, _, rfl, Nat.le_refl _, (RI.new2 rfl).more (by simp)⟩⟩
        | 14, ho =>
          simp at ho; subst ho; refine step_plain rfl ?_; have e15 := hF.gv hR.2 HQ 2 rfl (hpre ⟨2, .data⟩ (by simp) rfl) rfl; have e21 := hF.gv hR.2 HQ 8 rfl (hpre ⟨8, .data⟩ (by simp) rfl) rfl; have e26 := hF.gave 13 rfl (hpre ⟨13, .data⟩ (by simp) rfl) rfl
          have v13 := (U13.out _ _).1 (hR.2 13 (hpre ⟨13, .data⟩ (by simp) rfl))
          have hgoal := hR.go hst HQ 14 rfl
          have hM := Lib.hid hR.1
          clear hF hpre hl hR
          obtain ⟨A9, c9, h9, _, hr9⟩ := v13
          rw [h9] at e26
          go_simp
          refine ⟨trivial, ?_⟩
          refine CallsIn.mono (callsIn_wide.2 (within_any x0 xl A9 2 c9 _ [x1, x2] _ rfl (le_maxLen (by omega)) hr9)) ?_
          rintro e w9 ⟨rfl, rfl⟩
          exact ⟨_, rfl, hgoal _ _ (Below.refl _ _) (by rw [HBV.out])⟩
        | 15, ho =>
          simp at ho; subst ho; refine step_plain rfl ?_; have e27 := hF.gv hR.2 HQ 14 rfl (hpre ⟨14, .data⟩ (by simp) rfl) rfl; have hgoal := hR.go hst HQ 15 rfl; clear hF hpre hl hR; go_simp; exact ⟨_, rfl, hgoal _ _ (Below.refl _ _) rfl⟩
        | i + 16, ho => simp at ho
      case hend =>
        intro val L b' x hF hall hR
        have e := hF.all (by kernel_rfl) hall
        have k15 := QG.val HQ rfl (hR.2 15 (hall 15 (by decide)))
        have hB := Lib.hid hR.1
        clear hF hall hR hst HQ U13
        subst e
        simp [final, dstOf, List.range, List.range.loop]
        rw [k15]
        have HBX := Lib.hid (HB0.out.trans (hB.out.mono HB0.out.size))
        cases bv with
        | false =>
          go_wp2
          go_ret
          exact ⟨ret_bool (osB_bad HX.out (by rw [HOS.out]; exact HBV.out)).symm, HBX.out⟩
        | true =>
          go_wp2
          go_roundw
          case rel => exact ⟨k + 1, by omega, by go_num, by rw [osB_step HX.out, HW.out, HOS.out, HBV.out]; rfl, HBX.out⟩
          case measure => simp [intOf]; omega
    · go_wp2
      go_ret
      exact ⟨ret_bool (by rw [← hw, List.take_of_length_le (by omega)]), hbw⟩
end Go.Proofs.Ythhokiigdgpmcaa

/- Layer 2: a rotor and an air by value, and the plain mathematics of both. -/
namespace Go.Proofs.Ythhokiigdgpmcaa
open Go.RowKit

/-- A table by value: where it lies, and what it reads as. -/
structure TV where
  ax : Option Addr
  cx : Nat
  ay : Option Addr
  cy : Nat
  av : Option Addr
  cv : Nat
  X : List Int
  Y : List Int
  V : List (List Int)
/-- A table stands in a world. -/
structure TG (w : World) (t : TV) : Prop where
  hx : t.X.length ≤ maxLen
  hy : t.Y.length ≤ maxLen
  hv : t.V.length ≤ maxLen
  hr : ∀ r ∈ t.V, r.length ≤ maxLen
  tb : TB w w.heap.size t.ax t.ay t.av t.X t.Y t.V
theorem TG.below {w w' : World} {t : TV} (h : TG w t) (hb : Below w.heap.size w w') : TG w' t := ⟨h.hx, h.hy, h.hv, h.hr, (h.tb.below hb).more hb.size⟩
/-- A rotor by value. -/
structure RO where
  h : TV
  g : TV
  l : TV
  p : TV
  n : TV
  a : TV
  b : TV
  d : TV
  cl : Int
  bu : Int
structure RG (w : World) (r : RO) : Prop where
  h : TG w r.h
  g : TG w r.g
  l : TG w r.l
  p : TG w r.p
  n : TG w r.n
  a : TG w r.a
  b : TG w r.b
  d : TG w r.d
theorem RG.below {w w' : World} {r : RO} (h : RG w r) (hb : Below w.heap.size w w') : RG w' r :=
  ⟨h.h.below hb, h.g.below hb, h.l.below hb, h.p.below hb, h.n.below hb, h.a.below hb, h.b.below hb, h.d.below hb⟩
/-- Two tables, two rotors read alike. -/
def TV.same (t u : TV) : Prop := u.X = t.X ∧ u.Y = t.Y ∧ u.V = t.V
structure RO.same (r q : RO) : Prop where
  h : r.h.same q.h
  g : r.g.same q.g
  l : r.l.same q.l
  p : r.p.same q.p
  n : r.n.same q.n
  a : r.a.same q.a
  b : r.b.same q.b
  d : r.d.same q.d
  cl : q.cl = r.cl
  bu : q.bu = r.bu
/-- An air. -/
structure AI where
  w : Int × Int
  t : Int × Int
  h : Int × Int
  v : Int × Int
/-- A look. -/
structure LO where
  t : TV
  x : Int × Int
  y : Int × Int

def TV.far (t : TV) : Bool := farB t.X t.Y t.V
def RO.far (r : RO) : Bool := r.h.far || (r.g.far || (r.l.far || (r.p.far || (r.n.far || (r.a.far || (r.b.far || r.d.far))))))
/-- holds, filled. -/
def filB (lo hi : Int) (t : TV) : Bool := ctB t.X t.Y t.V && t.V.all fun r => wB lo hi r
/-- Nowhere greater. -/
def leR (a b : List Int) : Bool := (List.range a.length).all fun k => decide (gz a k ≤ gz b k)
def leV (V W : List (List Int)) : Bool := (List.range V.length).all fun i => leR (gr V i) (gr W i)
/-- ringed. -/
def rinB (t u : TV) : Bool := decide (t.X = u.X) && (decide (t.Y = u.Y) && leV t.V u.V)
def RO.ok (r : RO) : Bool :=
  filB 0 100000 r.h && (filB 0 100 r.g && (filB 0 100000 r.l && (filB 0 100000 r.p && (filB 0 10000 r.n && (filB 0 10000 r.a && (filB 0 10000 r.b && (rinB r.a r.b && (filB 1 10000 r.d && wB 1 1000 [r.cl, r.bu]))))))))
def RO.err (r : RO) : Int := if r.ok then 0 else 20
def AI.ok (a : AI) : Bool := [a.w, a.t, a.h, a.v].all vS
def airE (r : RO) (a : AI) : Int := if r.ok then (if a.ok then 0 else 21) else 20
/-- lies. -/
def LO.on (l : LO) : Bool := osB l.t.X l.x && osB l.t.Y l.y
/-- ready. -/
def redE (r : RO) (a : AI) (L : List LO) (F : List (Int × Int)) : Int :=
  if r.ok then (if a.ok then (if F.all vS then (if L.all LO.on then 0 else 1) else 1) else 21) else 20
/-- All values of a table on a box. -/
def bnT (t : TV) (x y : Int × Int) : Int × Int := bndL (cornersL t.X t.Y t.V (endsL t.X x.1 x.2) (endsL t.Y y.1 y.2))
def LO.bn (l : LO) : Int × Int := bnT l.t l.x l.y

def loH (r : RO) (a : AI) : LO := ⟨r.h, a.w, a.t⟩
def loG (r : RO) (a : AI) (above : Int × Int) : LO := ⟨r.g, above, a.v⟩
def loP (r : RO) (a : AI) : LO := ⟨r.p, a.t, a.h⟩
def loL (r : RO) (a : AI) (s : Int × Int) : LO := ⟨r.l, s, a.w⟩
def loN (r : RO) (a : AI) : LO := ⟨r.n, a.w, a.t⟩
def loA (r : RO) (a : AI) (s : Int × Int) : LO := ⟨r.a, s, a.w⟩
def loB (r : RO) (a : AI) (s : Int × Int) : LO := ⟨r.b, s, a.w⟩
def loD (r : RO) (a : AI) (s : Int × Int) : LO := ⟨r.d, s, a.w⟩
/-- Needs, and the margin. -/
def ndN (r : RO) (a : AI) (above : Int × Int) : Int × Int :=
  (fl ((loH r a).bn.1 * (loG r a above).bn.1) 100, cl ((loH r a).bn.2 * (loG r a above).bn.2) 100)
def mgN (r : RO) (a : AI) (above : Int × Int) : Int := (loP r a).bn.1 - (ndN r a above).2

/-! ### What is right -/
theorem vS_vI' (p : Int × Int) : vS p = vI p.1 p.2 := by
  unfold vS vI wB
  rw [Bool.eq_iff_iff]
  simp
  omega
theorem osB_on {X : List Int} {p : Int × Int} (h : osB X p = true) : On X p.1 ∧ On X p.2 := by
  unfold osB onB wB at h
  unfold On gz
  simp at h
  omega
theorem on_osB {X : List Int} {p : Int × Int} (h : On X p.1 ∧ On X p.2) : osB X p = true := onB_pair h.1 h.2
theorem btB_osB {X : List Int} {p : Int × Int} (h : vS p = true) : btB X p.1 p.2 = osB X p := btB_onB (by rw [← vS_vI']; exact h)
theorem filB_ct {lo hi : Int} {t : TV} (h : filB lo hi t = true) : ctB t.X t.Y t.V = true := by
  unfold filB at h
  simp only [Bool.and_eq_true] at h
  exact h.1
theorem filB_row {lo hi : Int} {t : TV} (h : filB lo hi t = true) {i : Nat} (hi' : i < t.X.length) : wB lo hi (gr t.V i) = true := by
  unfold filB at h
  simp only [Bool.and_eq_true, List.all_eq_true] at h
  obtain ⟨h1, h2⟩ := h
  obtain ⟨_, _, e, _⟩ := ctB_get h1
  unfold gr
  rw [List.getElem?_eq_getElem (by omega)]
  exact h2 _ (List.getElem_mem _)
theorem mix2 {a b u v lo hi : Int} (ha : 0 ≤ a) (hb : 0 ≤ b) (hu1 : lo ≤ u) (hu2 : u ≤ hi) (hv1 : lo ≤ v) (hv2 : v ≤ hi) : lo * (a + b) ≤ a * u + b * v ∧ a * u + b * v ≤ hi * (a + b) := by
  have h1 := Int.mul_le_mul_of_nonneg_left hu2 ha
  have h2 := Int.mul_le_mul_of_nonneg_left hv2 hb
  have h3 := Int.mul_le_mul_of_nonneg_left hu1 ha
  have h4 := Int.mul_le_mul_of_nonneg_left hv1 hb
  have e1 : hi * (a + b) = a * hi + b * hi := by grind
  have e2 : lo * (a + b) = a * lo + b * lo := by grind
  omega
theorem gz_wB {l : List Int} {lo hi : Int} {k : Nat} (h : wB lo hi l = true) (hk : k < l.length) : lo ≤ gz l k ∧ gz l k ≤ hi := by
  unfold gz
  rw [List.getElem?_eq_getElem hk]
  exact wB_mem h (List.getElem?_eq_getElem hk)
theorem kNum_in {lo hi : Int} {t : TV} {i : Nat} {y : Int} (h : filB lo hi t = true) (hi' : i < t.X.length) (ho : On t.Y y) : lo * kDen t.Y y ≤ kNum t.Y t.V i y ∧ kNum t.Y t.V i y ≤ hi * kDen t.Y y := by
  have hc := filB_ct h
  obtain ⟨_, b, _, _⟩ := ctB_get hc
  obtain ⟨r1, _⟩ := row_get hc hi'
  have r2 := filB_row h hi'
  have s := seg_of b ho.1 ho.2
  have l := s.lt
  obtain ⟨u1, u2⟩ := gz_wB (k := partN t.Y y) r2 (by omega)
  obtain ⟨v1, v2⟩ := gz_wB (k := partN t.Y y + 1) r2 (by omega)
  have := mix2 (a := gz t.Y (partN t.Y y + 1) - y) (b := y - gz t.Y (partN t.Y y)) (by have := s.hi; omega) (by have := s.lo; omega) u1 u2 v1 v2
  have e : gz t.Y (partN t.Y y + 1) - y + (y - gz t.Y (partN t.Y y)) = kDen t.Y y := by unfold kDen; omega
  rw [e] at this
  exact this
theorem atN_in {lo hi : Int} {t : TV} {x y : Int} (h : filB lo hi t = true) (hx : On t.X x) (hy : On t.Y y) : lo * atD t.X t.Y x y ≤ atN t.X t.Y t.V x y ∧ atN t.X t.Y t.V x y ≤ hi * atD t.X t.Y x y := by
  obtain ⟨a, b, _, _⟩ := ctB_get (filB_ct h)
  have s := seg_of a hx.1 hx.2
  have l := s.lt
  obtain ⟨u1, u2⟩ := kNum_in (i := partN t.X x) h (by omega) hy
  obtain ⟨v1, v2⟩ := kNum_in (i := partN t.X x + 1) h (by omega) hy
  have := mix2 (a := gz t.X (partN t.X x + 1) - x) (b := x - gz t.X (partN t.X x)) (by have := s.hi; omega) (by have := s.lo; omega) u1 u2 v1 v2
  have e : ∀ z : Int, z * kDen t.Y y * (gz t.X (partN t.X x + 1) - x + (x - gz t.X (partN t.X x))) = z * atD t.X t.Y x y := by intro z; unfold atD; grind
  rw [e, e] at this
  exact this

/-- A right look. -/
structure LOk (lo hi : Int) (l : LO) : Prop where
  fil : filB lo hi l.t = true
  x : vS l.x = true
  y : vS l.y = true
  on : l.on = true
theorem LOk.ct {lo hi : Int} {l : LO} (h : LOk lo hi l) : ctB l.t.X l.t.Y l.t.V = true := filB_ct h.fil
theorem LOk.ox {lo hi : Int} {l : LO} (h : LOk lo hi l) : On l.t.X l.x.1 ∧ On l.t.X l.x.2 := by
  have := h.on
  unfold LO.on at this
  simp only [Bool.and_eq_true] at this
  exact osB_on this.1
theorem LOk.oy {lo hi : Int} {l : LO} (h : LOk lo hi l) : On l.t.Y l.y.1 ∧ On l.t.Y l.y.2 := by
  have := h.on
  unfold LO.on at this
  simp only [Bool.and_eq_true] at this
  exact osB_on this.2
theorem LOk.x12 {lo hi : Int} {l : LO} (h : LOk lo hi l) : l.x.1 ≤ l.x.2 := (vS_get (a := l.x.1) (b := l.x.2) h.x).1
theorem LOk.y12 {lo hi : Int} {l : LO} (h : LOk lo hi l) : l.y.1 ≤ l.y.2 := (vS_get (a := l.y.1) (b := l.y.2) h.y).1
theorem LOk.cb {lo hi : Int} {l : LO} (h : LOk lo hi l) : cbE l.t.X l.t.Y l.t.V l.x.1 l.x.2 l.y.1 l.y.2 = 0 :=
  cbE_good h.ct h.x h.y h.ox.1 h.ox.2 h.oy.1 h.oy.2
theorem cl_le' {N D m : Int} (h : 1 ≤ D) : cl N D ≤ m ↔ N ≤ m * D := by
  unfold cl
  have := Int.le_ediv_iff_mul_le (a := -m) (b := -N) (show 0 < D by omega)
  have e : -m * D = -(m * D) := by grind
  omega
theorem LOk.bd {lo hi : Int} {l : LO} (h : LOk lo hi l) (hl : lo ≤ 1000000) (hh : -1000000 ≤ hi) : lo ≤ l.bn.1 ∧ l.bn.2 ≤ hi := by
  obtain ⟨a, b, _, _⟩ := ctB_get h.ct
  refine bnd_least _ (1000000, -1000000) lo hi hl hh fun c hc => ?_
  obtain ⟨i, k, hi', hk', rfl⟩ := corner_of hc
  have oi := endsL_on h.ox.1 h.ox.2 i hi'
  have ok := endsL_on h.oy.1 h.oy.2 k hk'
  have hd := (atD_bd a b oi ok).1
  have hn := atN_in h.fil oi ok
  simp only [cnOf]
  exact ⟨(fl_ge hd).2 hn.1, (cl_le' hd).2 hn.2⟩
theorem LOk.le {lo hi : Int} {l : LO} (h : LOk lo hi l) : l.bn.1 ≤ l.bn.2 := by
  obtain ⟨a, b, _, _⟩ := ctB_get h.ct
  have := inside h.ct h.ox.1 h.ox.2 h.oy.1 h.oy.2 (Int.le_refl _) h.x12 (Int.le_refl _) h.y12
  have hd := (atD_bd a b h.ox.1 h.oy.1).1
  have h1 := this.1
  have h2 := this.2
  have h3 : fl (atN l.t.X l.t.Y l.t.V l.x.1 l.y.1) (atD l.t.X l.t.Y l.x.1 l.y.1) ≤ cl (atN l.t.X l.t.Y l.t.V l.x.1 l.y.1) (atD l.t.X l.t.Y l.x.1 l.y.1) := by
    have e1 := (fl_ge hd).1 (Int.le_refl (fl (atN l.t.X l.t.Y l.t.V l.x.1 l.y.1) (atD l.t.X l.t.Y l.x.1 l.y.1)))
    have e2 := (cl_le' hd).1 (Int.le_refl (cl (atN l.t.X l.t.Y l.t.V l.x.1 l.y.1) (atD l.t.X l.t.Y l.x.1 l.y.1)))
    generalize fl (atN l.t.X l.t.Y l.t.V l.x.1 l.y.1) (atD l.t.X l.t.Y l.x.1 l.y.1) = p at *
    generalize cl (atN l.t.X l.t.Y l.t.V l.x.1 l.y.1) (atD l.t.X l.t.Y l.x.1 l.y.1) = q at *
    exact Int.le_of_mul_le_mul_right (Int.le_trans e1 e2) (by omega)
  unfold LO.bn bnT
  omega
/-- On a part of a box the values lie within. -/
theorem LOk.part {lo hi : Int} {l m : LO} (h : LOk lo hi l) (ht : m.t = l.t) (x1 : l.x.1 ≤ m.x.1) (x2 : m.x.1 ≤ m.x.2) (x3 : m.x.2 ≤ l.x.2) (y1 : l.y.1 ≤ m.y.1) (y2 : m.y.1 ≤ m.y.2) (y3 : m.y.2 ≤ l.y.2) : l.bn.1 ≤ m.bn.1 ∧ m.bn.2 ≤ l.bn.2 := by
  unfold LO.bn bnT
  rw [ht]
  exact part_in h.ct h.ox.1 h.ox.2 h.oy.1 h.oy.2 x1 x2 x3 y1 y2 y3

structure Ok (r : RO) : Prop where
  h : filB 0 100000 r.h = true
  g : filB 0 100 r.g = true
  l : filB 0 100000 r.l = true
  p : filB 0 100000 r.p = true
  n : filB 0 10000 r.n = true
  a : filB 0 10000 r.a = true
  b : filB 0 10000 r.b = true
  ri : rinB r.a r.b = true
  d : filB 1 10000 r.d = true
  cl : 1 ≤ r.cl ∧ r.cl ≤ 1000
  bu : 1 ≤ r.bu ∧ r.bu ≤ 1000
theorem ok_of {r : RO} (h : r.ok = true) : Ok r := by
  unfold RO.ok at h
  simp only [Bool.and_eq_true] at h
  obtain ⟨h1, h2, h3, h4, h5, h6, h7, h8, h9, h10⟩ := h
  unfold wB at h10
  simp at h10
  exact ⟨h1, h2, h3, h4, h5, h6, h7, h8, h9, by omega, by omega⟩
theorem same_ok {r q : RO} (h : r.same q) : q.ok = r.ok := by
  obtain ⟨⟨a1, a2, a3⟩, ⟨b1, b2, b3⟩, ⟨c1, c2, c3⟩, ⟨d1, d2, d3⟩, ⟨e1, e2, e3⟩, ⟨f1, f2, f3⟩, ⟨g1, g2, g3⟩, ⟨h1, h2, h3⟩, i, j⟩ := h
  unfold RO.ok filB rinB
  rw [a1, a2, a3, b1, b2, b3, c1, c2, c3, d1, d2, d3, e1, e2, e3, f1, f2, f3, g1, g2, g3, h1, h2, h3, i, j]
/-- What ready says. -/
structure Rdy (r : RO) (a : AI) (L : List LO) (F : List (Int × Int)) : Prop where
  r : r.ok = true
  a : a.ok = true
  f : F.all vS = true
  l : L.all LO.on = true
theorem rdy_of {r : RO} {a : AI} {L : List LO} {F : List (Int × Int)} (h : redE r a L F = 0) : Rdy r a L F := by
  unfold redE at h
  cases h1 : r.ok with
  | false => rw [h1] at h; simp at h
  | true =>
    cases h2 : a.ok with
    | false => rw [h1, h2] at h; simp at h
    | true =>
      cases h3 : F.all vS with
      | false => rw [h1, h2, h3] at h; simp at h
      | true =>
        cases h4 : L.all LO.on with
        | false => rw [h1, h2, h3, h4] at h; simp at h
        | true => exact ⟨h1, h2, h3, h4⟩
theorem AI.ok_get {a : AI} (h : a.ok = true) : vS a.w = true ∧ vS a.t = true ∧ vS a.h = true ∧ vS a.v = true := by
  unfold AI.ok at h
  simp only [List.all_cons, List.all_nil, Bool.and_eq_true, Bool.and_true] at h
  exact ⟨h.1, h.2.1, h.2.2.1, h.2.2.2⟩

/-! ### Rounding -/
theorem up_cl {a b : Int} (ha : 0 ≤ a) (hb : 1 ≤ b) : (a + b - 1).tdiv b = cl a b := by
  have h := rfl_neg (a := -a) (b := b) hb
  rw [Int.tdiv_eq_ediv_of_nonneg (by omega)]
  unfold cl
  have e1 := Int.mul_ediv_add_emod (a + b - 1) b
  have e2 := Int.mul_ediv_add_emod (-a) b
  have e3 := Int.emod_nonneg (a + b - 1) (show b ≠ 0 by omega)
  have e4 := Int.emod_lt_of_pos (a + b - 1) (show 0 < b by omega)
  have e5 := Int.emod_nonneg (-a) (show b ≠ 0 by omega)
  have e6 := Int.emod_lt_of_pos (-a) (show 0 < b by omega)
  generalize (a + b - 1) / b = p at *
  generalize (-a) / b = q at *
  have e7 : b * (p + q) = (a + b - 1) - (a + b - 1) % b + (-a - (-a) % b) := by grind
  rcases Int.lt_trichotomy (p + q) 0 with h | h | h
  · have : b * (p + q) ≤ b * (-1) := Int.mul_le_mul_of_nonneg_left (by omega) (by omega)
    omega
  · omega
  · have : b * 1 ≤ b * (p + q) := Int.mul_le_mul_of_nonneg_left (by omega) (by omega)
    omega
theorem down_fl {a b : Int} (ha : 0 ≤ a) : a.tdiv b = fl a b := by
  unfold fl
  exact Int.tdiv_eq_ediv_of_nonneg ha
end Go.Proofs.Ythhokiigdgpmcaa

/- Whole boxes. -/
namespace Go.Proofs.Ythhokiigdgpmcaa
open Go.RowKit

/-- A box with all its cells. -/
def BK (w : World) (g : Nat) (cs : Array Value) (T : TypeId) : Prop := w.heap[g]? = some (.cells cs T (0, 0))
section
variable {w w' W : World} {g q o : Nat} {cs : Array Value} {T : TypeId} {v : Value}
theorem BK.lt (h : BK w g cs T) : g < w.heap.size := (Array.getElem?_eq_some_iff.1 h).1
theorem BK.cell (h : BK w g cs T) : ∀ o, w.cell? ⟨g, o, none⟩ = cs[o]? := fun o => by unfold BK at h; simp [World.cell?, h]
theorem BK.free (h : BK w g cs T) : ∀ o, w.frozen? ⟨g, o, none⟩ = false := fun o => by unfold BK at h; simp [World.frozen?, h]
theorem BK.keep (h : BK w g cs T) (hb : Below w.heap.size w w') : BK w' g cs T := (hb.block g h.lt).trans h
theorem BK.new : BK (w.alloc (.cells cs T)) w.heap.size cs T := by
  show (w.heap.push _)[w.heap.size]? = _
  simp
theorem BK.newg (hg : w.heap.size = g) : BK (w.alloc (.cells cs T)) g cs T := by
  subst hg
  exact BK.new
theorem BK.old {x : Obj} (h : BK w g cs T) : BK (w.alloc x) g cs T := h.keep ((Below.refl _ _).alloc (Nat.le_refl _) _)
theorem BK.set (h : BK w g cs T) : BK (w.setCell ⟨g, o, none⟩ v) g (cs.setIfInBounds o v) T := by
  have hlt := h.lt
  unfold BK at h ⊢
  have h' : w.heap[g] = .cells cs T (0, 0) := by simpa [Array.getElem?_eq_getElem hlt] using h
  show (w.heap.modify g _)[g]? = _
  rw [Array.getElem?_eq_getElem (by simpa using hlt), Array.getElem_modify_self, h']
  rfl
theorem BK.setO (h : BK w q cs T) (hq : q ≠ g) : BK (w.setCell ⟨g, o, none⟩ v) q cs T := (Below.heap_setCell _ _ _ _ hq).trans h
end
/-- The stores of a whole value. -/
def puts (g : Nat) : Nat → List Value → World → World
  | _, [], w => w
  | k, v :: vs, w => puts g (k + 1) vs (w.setCell ⟨g, k, none⟩ v)
theorem puts_old {g : Nat} : ∀ (vs : List Value) (k : Nat) (W : World) {q : Nat} {cs : Array Value} {T : TypeId}, q ≠ g → BK W q cs T → BK (puts g k vs W) q cs T
  | [], _, _, _, _, _, _, h => h
  | _ :: vs, k, _, _, _, _, hq, h => puts_old vs (k + 1) _ hq (h.setO hq)
theorem puts_below {g B : Nat} {w0 : World} : ∀ (vs : List Value) (k : Nat) (W : World), B ≤ g → Below B w0 W → Below B w0 (puts g k vs W)
  | [], _, _, _, h => h
  | v :: vs, k, _, hg, h => puts_below vs (k + 1) _ hg (h.setCell (p := ⟨g, k, none⟩) hg v)
theorem puts_new {g : Nat} {T : TypeId} : ∀ (vs : List Value) (k : Nat) (w : World) {cs : Array Value}, BK w g cs T → ∃ ds, ds = vs.foldl (fun (s : Nat × Array Value) v => (s.1 + 1, s.2.setIfInBounds s.1 v)) (k, cs) ∧ BK (puts g k vs w) g ds.2 T
  | [], _, _, _, h => ⟨_, rfl, h⟩
  | v :: vs, k, w, cs, h => by
    obtain ⟨ds, e, hd⟩ := puts_new vs (k + 1) (w.setCell ⟨g, k, none⟩ v) (h.set (o := k) (v := v))
    exact ⟨ds, by rw [e]; rfl, hd⟩
theorem puts_all {g : Nat} {T : TypeId} {w : World} {cs ds : Array Value} (vs : List Value) (h : BK w g cs T) (e : (vs.foldl (fun (s : Nat × Array Value) v => (s.1 + 1, s.2.setIfInBounds s.1 v)) (0, cs)).2 = ds) : BK (puts g 0 vs w) g ds T := by
  obtain ⟨_, rfl, h'⟩ := puts_new vs 0 w h
  rw [e] at h'
  exact h'
theorem puts_size {g : Nat} : ∀ (vs : List Value) (k : Nat) (w : World), (puts g k vs w).heap.size = w.heap.size
  | [], _, _ => rfl
  | v :: vs, k, w => by
    show (puts g (k + 1) vs (w.setCell ⟨g, k, none⟩ v)).heap.size = _
    rw [puts_size vs (k + 1)]
    simp [World.setCell]
end Go.Proofs.Ythhokiigdgpmcaa

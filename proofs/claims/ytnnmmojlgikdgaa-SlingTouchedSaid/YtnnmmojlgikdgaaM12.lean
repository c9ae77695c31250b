/- Contracts of the functions that the statement reaches: JStep5. -/
import Derived.Test.YtnnmmojlgikdgaaM11
import Derived.Test.YtnnmmojlgikdgaaM10

/- The reference's Step: step 4. -/
namespace Go.Proofs.Ytnnmmojlgikdgaa
open Go.RowKit

section
variable (cable charge y1 y2 len wt since cyc : Int) (cut tch : Bool) (k n : Int) (AX AY AV : Option Addr) (nx cx ny cy nv cv B : Nat) (X Y : List Int) (V : List (List Int)) (w : World)

set_option maxRecDepth 100000 in
set_option maxHeartbeats 4000000 in
theorem step4_true (h : HT w B AX AY AV nx ny nv X Y V) (_z0 : 0 ≤ len) (_z1 : len ≤ cable) (_z2 : cable ≤ 100) (w0 : 0 ≤ wt) (s0 : 0 ≤ since) (s1 : since ≤ 1000) (q0 : 0 ≤ cyc) (q1 : cyc ≤ 1000) :
    Calls Try.prog 81 #[.agg #[.int .i64 cable, .slice AX nx cx, .slice AY ny cy, .slice AV nv cv, .int .i64 charge], .agg #[.int .i64 y1, .int .i64 y2], .agg #[.int .i64 len, .int .i64 wt, .int .i64 since, .int .i64 cyc, .bool false], .bool true, .agg #[.int .i64 4, .int .i64 n]] w (GivesT w (posB (fun l u => carB X Y V l l y1 y2 u) cable charge ⟨len, wt, since, cyc, false, true⟩ 4 n) (⟨len, n, since + 1, cyc, false, true⟩)) := by
  have S5 := Lib.hid (st_new cable charge y1 y2 len wt since cyc false 4 n AX AY AV nx cx ny cy nv cv w)
  have i7 : IntKind.i64.wrap (since + 1) = since + 1 := IntWalk.i64_in _ (by omega)
  have i8 : IntKind.i64.wrap (cyc + 1) = cyc + 1 := IntWalk.i64_in _ (by omega)
  have HBE := Lib.hid (fun (W : World) (hW : Below w.heap.size w W) => bears_any cable charge y1 y2 len n AX AY AV nx cx ny cy nv cv B X Y V W (h.below hW))
  clear h
  by_cases g1 : 1 ≤ n ∧ n ≤ 100000
  · by_cases g2 : wt = 0
    · subst g2
      by_cases g3 : 0 < len
      · by_cases g5 : since < charge
        · have g1' : n ≠ 0 := by omega
          rw [show posB (fun l u => carB X Y V l l y1 y2 u) cable charge ⟨len, 0, since, cyc, false, true⟩ 4 n = beaB X Y V len y1 y2 n by unfold posB; simp [g1, g3, g5, carB, beaB, g1']]
          have H1 := Lib.hid (w7_yes (a := n) (b := 1) (c := 100000) g1.1 g1.2)
          generalize beaB X Y V len y1 y2 n = bb at *
          go_enter Try.func81, Try.ntmps81
          go_upto_region 21 with (fail)
          have S6 := Lib.hid (st_next _ _ _ _ _ _ _ _ _ _ _ _ _ _ _ _ _ _ _ _ _ S5.out (.cells #[.int .i64 (len), .int .i64 (n), .int .i64 (since + 1), .int .i64 (cyc), .bool false] 61))
          clear S5
          generalize World.alloc _ _ = w6 at *
          have HB6 := Lib.hid S6.out.hb
          have hb4 := S6.out.b4
          have hs6 := S6.out.sz
          have x0 := cellOf (o := 0) S6.out.b0 rfl
          have c0 := cellOf (o := 0) S6.out.b2 rfl
          have m0 := cellOf (o := 0) S6.out.b5 rfl
          have x1 := cellOf (o := 1) S6.out.b0 rfl
          have c1 := cellOf (o := 1) S6.out.b2 rfl
          have m1 := cellOf (o := 1) S6.out.b5 rfl
          have x2 := cellOf (o := 2) S6.out.b0 rfl
          have c2 := cellOf (o := 2) S6.out.b2 rfl
          have m2 := cellOf (o := 2) S6.out.b5 rfl
          have x3 := cellOf (o := 3) S6.out.b0 rfl
          have c3 := cellOf (o := 3) S6.out.b2 rfl
          have m3 := cellOf (o := 3) S6.out.b5 rfl
          have x4 := cellOf (o := 4) S6.out.b0 rfl
          have c4 := cellOf (o := 4) S6.out.b2 rfl
          have m4 := cellOf (o := 4) S6.out.b5 rfl
          have p0 := cellOf (o := 0) S6.out.b1 rfl
          have l0 := cellOf (o := 0) S6.out.b3 rfl
          have p1 := cellOf (o := 1) S6.out.b1 rfl
          have l1 := cellOf (o := 1) S6.out.b3 rfl
          clear S6
          obtain ⟨Q7, hQ7⟩ : ∃ q9 : Nat → Value → World → Prop, q9 = QG [some (.agg #[.int .i64 len, .int .i64 n, .int .i64 (since + 1), .int .i64 cyc, .bool false]), some (.bool true), some (.pointer (some ⟨w.heap.size + 1 + 1 + 1, 1, none⟩)), some (.int .i64 n), some (.bool true), some (.bool true), some (.pointer (some ⟨w.heap.size + 1 + 1, 1, none⟩)), some (.int .i64 0), some (.bool true), some (.bool true), some (.bool true), some (.pointer (some ⟨w.heap.size + 1 + 1, 0, none⟩)), some (.int .i64 len), some (.bool true), some (.bool true), some (.bool true), some (.bool true), some (.bool true), some (.bool true), some (.pointer (some ⟨w.heap.size + 1 + 1, 2, none⟩)), some (.int .i64 since), some (.pointer (some ⟨w.heap.size, 4, none⟩)), some (.int .i64 charge), some (.bool true), some (.bool true), some (.bool true), some (.agg #[.int .i64 cable, .slice AX nx cx, .slice AY ny cy, .slice AV nv cv, .int .i64 charge]), some (.agg #[.int .i64 y1, .int .i64 y2]), some (.pointer (some ⟨w.heap.size + 1 + 1, 0, none⟩)), some (.int .i64 len), some (.pointer (some ⟨w.heap.size + 1 + 1 + 1, 1, none⟩)), some (.int .i64 n), some (.bool bb), some (.bool bb), none, some (.bool true), some (.bool bb)] (fun _ _ _ => True) := ⟨_, rfl⟩
          have hSt : Still Q7 := by rw [hQ7]; exact QG.still
          have HQ7 := Lib.hid hQ7
          clear hQ7
          refine wpIn_wide.1 (region_inv2 (n := 9) (by kernel_rfl) (RK Q7 w6 34 (w.heap.size + 1 + 1 + 1 + 1) (.cells #[.int .i64 len, .int .i64 n, .int .i64 (since + 1), .int .i64 cyc, .bool false] 61 (0, 0))) (by kernel_rfl) rfl (RK.start _ _ _ _ _ _) ?hstep7 ?hend7)
          case hstep7 =>
            intro i' o ho val L b' x hF hR hpre hl
            match i', ho with
            | 0, ho =>
              simp at ho; subst ho; refine step_plain rfl ?_; have e13 := hF.was 13 (by kernel_rfl) rfl; have hgoal := hR.go hSt (lt_of_block hb4) HQ7 0 rfl (by decide); have q0 := hR.1.cell m0 (by omega); have q1 := hR.1.cell m1 (by omega); have q2 := hR.1.cell m2 (by omega); have q3 := hR.1.cell m3 (by omega); have q4 := hR.1.cell m4 (by omega); clear hF hpre hl hR; go_simp; exact ⟨_, rfl, hgoal _ _ (Below.refl _ _) rfl⟩
            | 1, ho =>
              simp at ho; subst ho; refine step_plain rfl ?_; have e3 := hF.was 3 (by kernel_rfl) rfl; have hgoal := hR.go hSt (lt_of_block hb4) HQ7 1 rfl (by decide); clear hF hpre hl hR; go_simp; exact ⟨_, rfl, hgoal _ _ (Below.refl _ _) rfl⟩
            | 2, ho =>
              simp at ho; subst ho; refine step_plain rfl ?_; have e9 := hF.was 9 (by kernel_rfl) rfl; have hgoal := hR.go hSt (lt_of_block hb4) HQ7 2 rfl (by decide); clear hF hpre hl hR; go_simp; exact ⟨_, rfl, hgoal _ _ (Below.refl _ _) rfl⟩
            | 3, ho =>
              simp at ho; subst ho; refine step_plain rfl ?_; have e97 := hF.gv hR.2.1 HQ7 2 rfl (hpre ⟨2, .data⟩ (by simp) rfl) rfl; have hgoal := hR.go hSt (lt_of_block hb4) HQ7 3 rfl (by decide); have q0 := hR.1.cell l1 (by omega); clear hF hpre hl hR; go_simp; exact ⟨_, rfl, hgoal _ _ (Below.refl _ _) rfl⟩
            | 4, ho =>
              simp at ho; subst ho; refine step_plain rfl ?_; have e98 := hF.gv hR.2.1 HQ7 3 rfl (hpre ⟨3, .data⟩ (by simp) rfl) rfl; have hgoal := hR.go hSt (lt_of_block hb4) HQ7 4 rfl (by decide)
              have hM := Lib.hid hR.1
              clear hF hpre hl hR; go_simp
              refine ⟨trivial, ?_⟩
              refine CallsIn.mono (callsIn_wide.2 (H1.out _)) ?_
              rintro e w9 ⟨rfl, rfl⟩
              exact ⟨_, rfl, hgoal _ _ (Below.refl _ _) rfl⟩
            | 5, ho =>
              simp at ho; subst ho; refine step_plain rfl ?_; have e99 := hF.gv hR.2.1 HQ7 4 rfl (hpre ⟨4, .data⟩ (by simp) rfl) rfl; have hgoal := hR.go hSt (lt_of_block hb4) HQ7 5 rfl (by decide); clear hF hpre hl hR; go_simp; exact ⟨_, rfl, hgoal _ _ (Below.refl _ _) rfl⟩
            | 6, ho =>
              simp at ho; subst ho; refine step_gd hF hR.2.1 HQ7 (j := 5) (b := true) rfl rfl (by kernel_rfl) (hpre ⟨5, .guard⟩ (by simp) rfl) rfl ?_; have e7 := hF.was 7 (by kernel_rfl) rfl; have hgoal := hR.go hSt (lt_of_block hb4) HQ7 6 rfl (by decide); clear hF hpre hl hR; go_simp; exact ⟨_, rfl, hgoal _ _ (Below.refl _ _) rfl⟩
            | 7, ho =>
              simp at ho; subst ho; refine step_gd hF hR.2.1 HQ7 (j := 5) (b := true) rfl rfl (by kernel_rfl) (hpre ⟨5, .guard⟩ (by simp) rfl) rfl ?_; have e101 := hF.gv hR.2.1 HQ7 6 rfl (hpre ⟨6, .data⟩ (by simp) rfl) rfl; have hgoal := hR.go hSt (lt_of_block hb4) HQ7 7 rfl (by decide); have q0 := hR.1.cell c1 (by omega); clear hF hpre hl hR; go_simp; exact ⟨_, rfl, hgoal _ _ (Below.refl _ _) rfl⟩
            | 8, ho =>
              simp at ho; subst ho; refine step_gd hF hR.2.1 HQ7 (j := 5) (b := true) rfl rfl (by kernel_rfl) (hpre ⟨5, .guard⟩ (by simp) rfl) rfl ?_; have e102 := hF.gv hR.2.1 HQ7 7 rfl (hpre ⟨7, .data⟩ (by simp) rfl) rfl; have hgoal := hR.go hSt (lt_of_block hb4) HQ7 8 rfl (by decide); clear hF hpre hl hR; go_simp; exact ⟨_, rfl, hgoal _ _ (Below.refl _ _) rfl⟩
            | 9, ho =>
              simp at ho; subst ho; refine step_plain rfl ?_; have e100 := hF.gv hR.2.1 HQ7 5 rfl (hpre ⟨5, .data⟩ (by simp) rfl) rfl; have e103 := hF.gv hR.2.1 HQ7 8 rfl (hpre ⟨8, .data⟩ (by simp) rfl) rfl; have hgoal := hR.go hSt (lt_of_block hb4) HQ7 9 rfl (by decide); clear hF hpre hl hR; go_simp; exact ⟨_, rfl, hgoal _ _ (Below.refl _ _) rfl⟩
            | 10, ho =>
              simp at ho; subst ho; refine step_plain rfl ?_; have e104 := hF.gv hR.2.1 HQ7 9 rfl (hpre ⟨9, .data⟩ (by simp) rfl) rfl; have hgoal := hR.go hSt (lt_of_block hb4) HQ7 10 rfl (by decide); clear hF hpre hl hR; go_simp; exact ⟨_, rfl, hgoal _ _ (Below.refl _ _) rfl⟩
            | 11, ho =>
              simp at ho; subst ho; refine step_gd hF hR.2.1 HQ7 (j := 10) (b := true) rfl rfl (by kernel_rfl) (hpre ⟨10, .guard⟩ (by simp) rfl) rfl ?_; have e7 := hF.was 7 (by kernel_rfl) rfl; have hgoal := hR.go hSt (lt_of_block hb4) HQ7 11 rfl (by decide); clear hF hpre hl hR; go_simp; exact ⟨_, rfl, hgoal _ _ (Below.refl _ _) rfl⟩
            | 12, ho =>
              simp at ho; subst ho; refine step_gd hF hR.2.1 HQ7 (j := 10) (b := true) rfl rfl (by kernel_rfl) (hpre ⟨10, .guard⟩ (by simp) rfl) rfl ?_; have e106 := hF.gv hR.2.1 HQ7 11 rfl (hpre ⟨11, .data⟩ (by simp) rfl) rfl; have hgoal := hR.go hSt (lt_of_block hb4) HQ7 12 rfl (by decide); have q0 := hR.1.cell c0 (by omega); clear hF hpre hl hR; go_simp; exact ⟨_, rfl, hgoal _ _ (Below.refl _ _) rfl⟩
            | 13, ho =>
              simp at ho; subst ho; refine step_gd hF hR.2.1 HQ7 (j := 10) (b := true) rfl rfl (by kernel_rfl) (hpre ⟨10, .guard⟩ (by simp) rfl) rfl ?_; have e107 := hF.gv hR.2.1 HQ7 12 rfl (hpre ⟨12, .data⟩ (by simp) rfl) rfl; have hgoal := hR.go hSt (lt_of_block hb4) HQ7 13 rfl (by decide); clear hF hpre hl hR; go_simp; exact ⟨_, rfl, hgoal _ _ (Below.refl _ _) rfl⟩
            | 14, ho =>
              simp at ho; subst ho; refine step_plain rfl ?_; have e105 := hF.gv hR.2.1 HQ7 10 rfl (hpre ⟨10, .data⟩ (by simp) rfl) rfl; have e108 := hF.gv hR.2.1 HQ7 13 rfl (hpre ⟨13, .data⟩ (by simp) rfl) rfl; have hgoal := hR.go hSt (lt_of_block hb4) HQ7 14 rfl (by decide); clear hF hpre hl hR; go_simp; exact ⟨_, rfl, hgoal _ _ (Below.refl _ _) rfl⟩
            | 15, ho =>
              simp at ho; subst ho; refine step_plain rfl ?_; have e109 := hF.gv hR.2.1 HQ7 14 rfl (hpre ⟨14, .data⟩ (by simp) rfl) rfl; have hgoal := hR.go hSt (lt_of_block hb4) HQ7 15 rfl (by decide); clear hF hpre hl hR; go_simp; exact ⟨_, rfl, hgoal _ _ (Below.refl _ _) rfl⟩
            | 16, ho =>
              simp at ho; subst ho; refine step_gd hF hR.2.1 HQ7 (j := 15) (b := true) rfl rfl (by kernel_rfl) (hpre ⟨15, .guard⟩ (by simp) rfl) rfl ?_; have e3 := hF.was 3 (by kernel_rfl) rfl; have hgoal := hR.go hSt (lt_of_block hb4) HQ7 16 rfl (by decide); clear hF hpre hl hR; go_simp; exact ⟨_, rfl, hgoal _ _ (Below.refl _ _) rfl⟩
            | 17, ho =>
              simp at ho; subst ho; refine step_plain rfl ?_; have e110 := hF.gv hR.2.1 HQ7 15 rfl (hpre ⟨15, .data⟩ (by simp) rfl) rfl; have e111 := hF.gv hR.2.1 HQ7 16 rfl (hpre ⟨16, .data⟩ (by simp) rfl) rfl; have hgoal := hR.go hSt (lt_of_block hb4) HQ7 17 rfl (by decide); clear hF hpre hl hR; go_simp; exact ⟨_, rfl, hgoal _ _ (Below.refl _ _) rfl⟩
            | 18, ho =>
              simp at ho; subst ho; refine step_plain rfl ?_; have e112 := hF.gv hR.2.1 HQ7 17 rfl (hpre ⟨17, .data⟩ (by simp) rfl) rfl; have hgoal := hR.go hSt (lt_of_block hb4) HQ7 18 rfl (by decide); clear hF hpre hl hR; go_simp; exact ⟨_, rfl, hgoal _ _ (Below.refl _ _) rfl⟩
            | 19, ho =>
              simp at ho; subst ho; refine step_gd hF hR.2.1 HQ7 (j := 18) (b := true) rfl rfl (by kernel_rfl) (hpre ⟨18, .guard⟩ (by simp) rfl) rfl ?_; have e7 := hF.was 7 (by kernel_rfl) rfl; have hgoal := hR.go hSt (lt_of_block hb4) HQ7 19 rfl (by decide); clear hF hpre hl hR; go_simp; exact ⟨_, rfl, hgoal _ _ (Below.refl _ _) rfl⟩
            | 20, ho =>
              simp at ho; subst ho; refine step_gd hF hR.2.1 HQ7 (j := 18) (b := true) rfl rfl (by kernel_rfl) (hpre ⟨18, .guard⟩ (by simp) rfl) rfl ?_; have e114 := hF.gv hR.2.1 HQ7 19 rfl (hpre ⟨19, .data⟩ (by simp) rfl) rfl; have hgoal := hR.go hSt (lt_of_block hb4) HQ7 20 rfl (by decide); have q0 := hR.1.cell c2 (by omega); clear hF hpre hl hR; go_simp; exact ⟨_, rfl, hgoal _ _ (Below.refl _ _) rfl⟩
            | 21, ho =>
              simp at ho; subst ho; refine step_gd hF hR.2.1 HQ7 (j := 18) (b := true) rfl rfl (by kernel_rfl) (hpre ⟨18, .guard⟩ (by simp) rfl) rfl ?_; have e5 := hF.was 5 (by kernel_rfl) rfl; have hgoal := hR.go hSt (lt_of_block hb4) HQ7 21 rfl (by decide); clear hF hpre hl hR; go_simp; exact ⟨_, rfl, hgoal _ _ (Below.refl _ _) rfl⟩
            | 22, ho =>
              simp at ho; subst ho; refine step_gd hF hR.2.1 HQ7 (j := 18) (b := true) rfl rfl (by kernel_rfl) (hpre ⟨18, .guard⟩ (by simp) rfl) rfl ?_; have e116 := hF.gv hR.2.1 HQ7 21 rfl (hpre ⟨21, .data⟩ (by simp) rfl) rfl; have hgoal := hR.go hSt (lt_of_block hb4) HQ7 22 rfl (by decide); have q0 := hR.1.cell x4 (by omega); clear hF hpre hl hR; go_simp; exact ⟨_, rfl, hgoal _ _ (Below.refl _ _) rfl⟩
            | 23, ho =>
              simp at ho; subst ho; refine step_gd hF hR.2.1 HQ7 (j := 18) (b := true) rfl rfl (by kernel_rfl) (hpre ⟨18, .guard⟩ (by simp) rfl) rfl ?_; have e115 := hF.gv hR.2.1 HQ7 20 rfl (hpre ⟨20, .data⟩ (by simp) rfl) rfl; have e117 := hF.gv hR.2.1 HQ7 22 rfl (hpre ⟨22, .data⟩ (by simp) rfl) rfl; have hgoal := hR.go hSt (lt_of_block hb4) HQ7 23 rfl (by decide); clear hF hpre hl hR; go_simp; exact ⟨_, rfl, hgoal _ _ (Below.refl _ _) rfl⟩
            | 24, ho =>
              simp at ho; subst ho; refine step_plain rfl ?_; have e113 := hF.gv hR.2.1 HQ7 18 rfl (hpre ⟨18, .data⟩ (by simp) rfl) rfl; have e118 := hF.gv hR.2.1 HQ7 23 rfl (hpre ⟨23, .data⟩ (by simp) rfl) rfl; have hgoal := hR.go hSt (lt_of_block hb4) HQ7 24 rfl (by decide); clear hF hpre hl hR; go_simp; exact ⟨_, rfl, hgoal _ _ (Below.refl _ _) rfl⟩
            | 25, ho =>
              simp at ho; subst ho; refine step_plain rfl ?_; have e119 := hF.gv hR.2.1 HQ7 24 rfl (hpre ⟨24, .data⟩ (by simp) rfl) rfl; have hgoal := hR.go hSt (lt_of_block hb4) HQ7 25 rfl (by decide); clear hF hpre hl hR; go_simp; exact ⟨_, rfl, hgoal _ _ (Below.refl _ _) rfl⟩
            | 26, ho =>
              simp at ho; subst ho; refine step_gd hF hR.2.1 HQ7 (j := 25) (b := true) rfl rfl (by kernel_rfl) (hpre ⟨25, .guard⟩ (by simp) rfl) rfl ?_; have e5 := hF.was 5 (by kernel_rfl) rfl; have hgoal := hR.go hSt (lt_of_block hb4) HQ7 26 rfl (by decide); have q0 := hR.1.cell x0 (by omega); have q1 := hR.1.cell x1 (by omega); have q2 := hR.1.cell x2 (by omega); have q3 := hR.1.cell x3 (by omega); have q4 := hR.1.cell x4 (by omega); clear hF hpre hl hR; go_simp; exact ⟨_, rfl, hgoal _ _ (Below.refl _ _) rfl⟩
            | 27, ho =>
              simp at ho; subst ho; refine step_gd hF hR.2.1 HQ7 (j := 25) (b := true) rfl rfl (by kernel_rfl) (hpre ⟨25, .guard⟩ (by simp) rfl) rfl ?_; have e6 := hF.was 6 (by kernel_rfl) rfl; have hgoal := hR.go hSt (lt_of_block hb4) HQ7 27 rfl (by decide); have q0 := hR.1.cell p0 (by omega); have q1 := hR.1.cell p1 (by omega); clear hF hpre hl hR; go_simp; exact ⟨_, rfl, hgoal _ _ (Below.refl _ _) rfl⟩
            | 28, ho =>
              simp at ho; subst ho; refine step_gd hF hR.2.1 HQ7 (j := 25) (b := true) rfl rfl (by kernel_rfl) (hpre ⟨25, .guard⟩ (by simp) rfl) rfl ?_; have e7 := hF.was 7 (by kernel_rfl) rfl; have hgoal := hR.go hSt (lt_of_block hb4) HQ7 28 rfl (by decide); clear hF hpre hl hR; go_simp; exact ⟨_, rfl, hgoal _ _ (Below.refl _ _) rfl⟩
            | 29, ho =>
              simp at ho; subst ho; refine step_gd hF hR.2.1 HQ7 (j := 25) (b := true) rfl rfl (by kernel_rfl) (hpre ⟨25, .guard⟩ (by simp) rfl) rfl ?_; have e123 := hF.gv hR.2.1 HQ7 28 rfl (hpre ⟨28, .data⟩ (by simp) rfl) rfl; have hgoal := hR.go hSt (lt_of_block hb4) HQ7 29 rfl (by decide); have q0 := hR.1.cell c0 (by omega); clear hF hpre hl hR; go_simp; exact ⟨_, rfl, hgoal _ _ (Below.refl _ _) rfl⟩
            | 30, ho =>
              simp at ho; subst ho; refine step_gd hF hR.2.1 HQ7 (j := 25) (b := true) rfl rfl (by kernel_rfl) (hpre ⟨25, .guard⟩ (by simp) rfl) rfl ?_; have e9 := hF.was 9 (by kernel_rfl) rfl; have hgoal := hR.go hSt (lt_of_block hb4) HQ7 30 rfl (by decide); clear hF hpre hl hR; go_simp; exact ⟨_, rfl, hgoal _ _ (Below.refl _ _) rfl⟩
            | 31, ho =>
              simp at ho; subst ho; refine step_gd hF hR.2.1 HQ7 (j := 25) (b := true) rfl rfl (by kernel_rfl) (hpre ⟨25, .guard⟩ (by simp) rfl) rfl ?_; have e125 := hF.gv hR.2.1 HQ7 30 rfl (hpre ⟨30, .data⟩ (by simp) rfl) rfl; have hgoal := hR.go hSt (lt_of_block hb4) HQ7 31 rfl (by decide); have q0 := hR.1.cell l1 (by omega); clear hF hpre hl hR; go_simp; exact ⟨_, rfl, hgoal _ _ (Below.refl _ _) rfl⟩
            | 32, ho =>
              simp at ho; subst ho; refine step_gd hF hR.2.1 HQ7 (j := 25) (b := true) rfl rfl (by kernel_rfl) (hpre ⟨25, .guard⟩ (by simp) rfl) rfl ?_; have e121 := hF.gv hR.2.1 HQ7 26 rfl (hpre ⟨26, .data⟩ (by simp) rfl) rfl; have e122 := hF.gv hR.2.1 HQ7 27 rfl (hpre ⟨27, .data⟩ (by simp) rfl) rfl; have e124 := hF.gv hR.2.1 HQ7 29 rfl (hpre ⟨29, .data⟩ (by simp) rfl) rfl; have e126 := hF.gv hR.2.1 HQ7 31 rfl (hpre ⟨31, .data⟩ (by simp) rfl) rfl; have hgoal := hR.go hSt (lt_of_block hb4) HQ7 32 rfl (by decide)
              have hM := Lib.hid hR.1
              clear hF hpre hl hR; go_simp
              refine ⟨trivial, ?_⟩
              refine CallsIn.mono (callsIn_wide.2 (HBE.out _ (HB6.out.trans (hM.out.low (by omega))))) ?_
              rintro e w9 ⟨rfl, hb9⟩
              exact ⟨_, rfl, hgoal _ _ hb9 rfl⟩
            | 33, ho =>
              simp at ho; subst ho; refine step_plain rfl ?_; have e120 := hF.gv hR.2.1 HQ7 25 rfl (hpre ⟨25, .data⟩ (by simp) rfl) rfl; have e127 := hF.gv hR.2.1 HQ7 32 rfl (hpre ⟨32, .data⟩ (by simp) rfl) rfl; have hgoal := hR.go hSt (lt_of_block hb4) HQ7 33 rfl (by decide); clear hF hpre hl hR; go_simp; exact ⟨_, rfl, hgoal _ _ (Below.refl _ _) rfl⟩
            | 34, ho =>
              simp at ho; subst ho; refine step_plain rfl ?_; have e10 := hF.was 10 (by kernel_rfl) rfl; have e95 := hF.gv hR.2.1 HQ7 0 rfl (hpre ⟨0, .data⟩ (by simp) rfl) rfl; have hN := hF.none2 hl (by decide)
              have hls : 34 < L.size := by rw [hF.lsize]; decide
              have qb := (hR.2.2.2 hN).trans hb4
              have g0 := cellOf (o := 0) qb rfl; have f0 := freeOf (o := 0) qb; have g1 := cellOf (o := 1) qb rfl; have f1 := freeOf (o := 1) qb; have g2 := cellOf (o := 2) qb rfl; have f2 := freeOf (o := 2) qb; have g3 := cellOf (o := 3) qb rfl; have f3 := freeOf (o := 3) qb; have g4 := cellOf (o := 4) qb rfl; have f4 := freeOf (o := 4) qb; have hgoal := RK.store (v := undef) hR hSt hls ((((((Kept.refl (w.heap.size + 1 + 1 + 1 + 1) x).setCell 0 (.int .i64 len)).setCell 1 (.int .i64 n)).setCell 2 (.int .i64 (since + 1))).setCell 3 (.int .i64 cyc)).setCell 4 (.bool false)) ((block_setCell (o := 4) (.bool false) (block_setCell (o := 3) (.int .i64 cyc) (block_setCell (o := 2) (.int .i64 (since + 1)) (block_setCell (o := 1) (.int .i64 n) (block_setCell (o := 0) (.int .i64 len) qb))))).trans (by rfl)) (QG.none HQ7 34 rfl (fun _ _ => trivial) _ _)
              have hq := lt_of_block qb
              have HG := Lib.hid hgoal
              clear hF hpre hl hR hls hN qb hgoal; go_simp
              exact ⟨undef, HG.out⟩
            | 35, ho =>
              simp at ho; subst ho; refine step_plain rfl ?_; have e96 := hF.gv hR.2.1 HQ7 1 rfl (hpre ⟨1, .data⟩ (by simp) rfl) rfl; have hgoal := hR.go hSt (lt_of_block hb4) HQ7 35 rfl (by decide); clear hF hpre hl hR; go_simp; exact ⟨_, rfl, hgoal _ _ (Below.refl _ _) rfl⟩
            | 36, ho =>
              simp at ho; subst ho; refine step_plain rfl ?_; have e128 := hF.gv hR.2.1 HQ7 33 rfl (hpre ⟨33, .data⟩ (by simp) rfl) rfl; have hgoal := hR.go hSt (lt_of_block hb4) HQ7 36 rfl (by decide); clear hF hpre hl hR; go_simp; exact ⟨_, rfl, hgoal _ _ (Below.refl _ _) rfl⟩
            | i + 37, ho => simp at ho
          case hend7 =>
            intro val L b' x hF hall hR
            have e := hF.all (by kernel_rfl) hall
            have k735 := QG.val HQ7 rfl (hR.2.1 35 (hall 35 (by decide)))
            have k736 := QG.val HQ7 rfl (hR.2.1 36 (hall 36 (by decide)))
            have bk7 := hR.2.2.1 (hall 34 (by decide))
            have hK7 := Lib.hid hR.1
            clear hF hall hR hSt HQ7
            subst e
            simp [final, dstOf, List.range, List.range.loop]
            rw [k735]
            rw [k736]
            have HQ := Lib.hid (HB6.out.trans (hK7.out.low (by omega)))
            go_wp2
            have d0 := cellOf (o := 0) bk7 rfl
            have d1 := cellOf (o := 1) bk7 rfl
            have d2 := cellOf (o := 2) bk7 rfl
            have d3 := cellOf (o := 3) bk7 rfl
            have d4 := cellOf (o := 4) bk7 rfl
            exact bodyPost_ret (v := .tuple #[.agg #[.int .i64 (len), .int .i64 (n), .int .i64 (since + 1), .int .i64 (cyc), .bool false], .bool true, .bool (bb)]) (by simp [results, Try.results81, go_sem, d0, d1, d2, d3, d4]) rfl ⟨rfl, HQ.out⟩
        · have g6 : decide (since < charge) = false := by simpa using g5
          rw [show posB (fun l u => carB X Y V l l y1 y2 u) cable charge ⟨len, 0, since, cyc, false, true⟩ 4 n = false by unfold posB; simp [g1, g3, g5]]
          have H1 := Lib.hid (w7_yes (a := n) (b := 1) (c := 100000) g1.1 g1.2)
          go_enter Try.func81, Try.ntmps81
          go_upto_region 21 with (fail)
          have S6 := Lib.hid (st_next _ _ _ _ _ _ _ _ _ _ _ _ _ _ _ _ _ _ _ _ _ S5.out (.cells #[.int .i64 (len), .int .i64 (n), .int .i64 (since + 1), .int .i64 (cyc), .bool false] 61))
          clear S5
          generalize World.alloc _ _ = w6 at *
          have HB6 := Lib.hid S6.out.hb
          have hb4 := S6.out.b4
          have hs6 := S6.out.sz
          have x0 := cellOf (o := 0) S6.out.b0 rfl
          have c0 := cellOf (o := 0) S6.out.b2 rfl
          have m0 := cellOf (o := 0) S6.out.b5 rfl
          have x1 := cellOf (o := 1) S6.out.b0 rfl
          have c1 := cellOf (o := 1) S6.out.b2 rfl
          have m1 := cellOf (o := 1) S6.out.b5 rfl
          have x2 := cellOf (o := 2) S6.out.b0 rfl
          have c2 := cellOf (o := 2) S6.out.b2 rfl
          have m2 := cellOf (o := 2) S6.out.b5 rfl
          have x3 := cellOf (o := 3) S6.out.b0 rfl
          have c3 := cellOf (o := 3) S6.out.b2 rfl
          have m3 := cellOf (o := 3) S6.out.b5 rfl
          have x4 := cellOf (o := 4) S6.out.b0 rfl
          have c4 := cellOf (o := 4) S6.out.b2 rfl
          have m4 := cellOf (o := 4) S6.out.b5 rfl
          have p0 := cellOf (o := 0) S6.out.b1 rfl
          have l0 := cellOf (o := 0) S6.out.b3 rfl
          have p1 := cellOf (o := 1) S6.out.b1 rfl
          have l1 := cellOf (o := 1) S6.out.b3 rfl
          clear S6
          obtain ⟨Q8, hQ8⟩ : ∃ q9 : Nat → Value → World → Prop, q9 = QG [some (.agg #[.int .i64 len, .int .i64 n, .int .i64 (since + 1), .int .i64 cyc, .bool false]), some (.bool true), some (.pointer (some ⟨w.heap.size + 1 + 1 + 1, 1, none⟩)), some (.int .i64 n), some (.bool true), some (.bool true), some (.pointer (some ⟨w.heap.size + 1 + 1, 1, none⟩)), some (.int .i64 0), some (.bool true), some (.bool true), some (.bool true), some (.pointer (some ⟨w.heap.size + 1 + 1, 0, none⟩)), some (.int .i64 len), some (.bool true), some (.bool true), some (.bool true), some (.bool true), some (.bool true), some (.bool true), some (.pointer (some ⟨w.heap.size + 1 + 1, 2, none⟩)), some (.int .i64 since), some (.pointer (some ⟨w.heap.size, 4, none⟩)), some (.int .i64 charge), some (.bool false), some (.bool false), some (.bool false), some (undef), some (undef), some (undef), some (undef), some (undef), some (undef), some (undef), some (.bool false), none, some (.bool true), some (.bool false)] (fun _ _ _ => True) := ⟨_, rfl⟩
          have hSt : Still Q8 := by rw [hQ8]; exact QG.still
          have HQ8 := Lib.hid hQ8
          clear hQ8
          refine wpIn_wide.1 (region_inv2 (n := 9) (by kernel_rfl) (RK Q8 w6 34 (w.heap.size + 1 + 1 + 1 + 1) (.cells #[.int .i64 len, .int .i64 n, .int .i64 (since + 1), .int .i64 cyc, .bool false] 61 (0, 0))) (by kernel_rfl) rfl (RK.start _ _ _ _ _ _) ?hstep8 ?hend8)
          case hstep8 =>
            intro i' o ho val L b' x hF hR hpre hl
            match i', ho with
            | 0, ho =>
              simp at ho; subst ho; refine step_plain rfl ?_; have e13 := hF.was 13 (by kernel_rfl) rfl; have hgoal := hR.go hSt (lt_of_block hb4) HQ8 0 rfl (by decide); have q0 := hR.1.cell m0 (by omega); have q1 := hR.1.cell m1 (by omega); have q2 := hR.1.cell m2 (by omega); have q3 := hR.1.cell m3 (by omega); have q4 := hR.1.cell m4 (by omega); clear hF hpre hl hR; go_simp; exact ⟨_, rfl, hgoal _ _ (Below.refl _ _) rfl⟩
            | 1, ho =>
              simp at ho; subst ho; refine step_plain rfl ?_; have e3 := hF.was 3 (by kernel_rfl) rfl; have hgoal := hR.go hSt (lt_of_block hb4) HQ8 1 rfl (by decide); clear hF hpre hl hR; go_simp; exact ⟨_, rfl, hgoal _ _ (Below.refl _ _) rfl⟩
            | 2, ho =>
              simp at ho; subst ho; refine step_plain rfl ?_; have e9 := hF.was 9 (by kernel_rfl) rfl; have hgoal := hR.go hSt (lt_of_block hb4) HQ8 2 rfl (by decide); clear hF hpre hl hR; go_simp; exact ⟨_, rfl, hgoal _ _ (Below.refl _ _) rfl⟩
            | 3, ho =>
              simp at ho; subst ho; refine step_plain rfl ?_; have e97 := hF.gv hR.2.1 HQ8 2 rfl (hpre ⟨2, .data⟩ (by simp) rfl) rfl; have hgoal := hR.go hSt (lt_of_block hb4) HQ8 3 rfl (by decide); have q0 := hR.1.cell l1 (by omega); clear hF hpre hl hR; go_simp; exact ⟨_, rfl, hgoal _ _ (Below.refl _ _) rfl⟩
            | 4, ho =>
              simp at ho; subst ho; refine step_plain rfl ?_; have e98 := hF.gv hR.2.1 HQ8 3 rfl (hpre ⟨3, .data⟩ (by simp) rfl) rfl; have hgoal := hR.go hSt (lt_of_block hb4) HQ8 4 rfl (by decide)
              have hM := Lib.hid hR.1
              clear hF hpre hl hR; go_simp
              refine ⟨trivial, ?_⟩
              refine CallsIn.mono (callsIn_wide.2 (H1.out _)) ?_
              rintro e w9 ⟨rfl, rfl⟩
              exact ⟨_, rfl, hgoal _ _ (Below.refl _ _) rfl⟩
            | 5, ho =>
              simp at ho; subst ho; refine step_plain rfl ?_; have e99 := hF.gv hR.2.1 HQ8 4 rfl (hpre ⟨4, .data⟩ (by simp) rfl) rfl; have hgoal := hR.go hSt (lt_of_block hb4) HQ8 5 rfl (by decide); clear hF hpre hl hR; go_simp; exact ⟨_, rfl, hgoal _ _ (Below.refl _ _) rfl⟩
            | 6, ho =>
              simp at ho; subst ho; refine step_gd hF hR.2.1 HQ8 (j := 5) (b := true) rfl rfl (by kernel_rfl) (hpre ⟨5, .guard⟩ (by simp) rfl) rfl ?_; have e7 := hF.was 7 (by kernel_rfl) rfl; have hgoal := hR.go hSt (lt_of_block hb4) HQ8 6 rfl (by decide); clear hF hpre hl hR; go_simp; exact ⟨_, rfl, hgoal _ _ (Below.refl _ _) rfl⟩
            | 7, ho =>
              simp at ho; subst ho; refine step_gd hF hR.2.1 HQ8 (j := 5) (b := true) rfl rfl (by kernel_rfl) (hpre ⟨5, .guard⟩ (by simp) rfl) rfl ?_; have e101 := hF.gv hR.2.1 HQ8 6 rfl (hpre ⟨6, .data⟩ (by simp) rfl) rfl; have hgoal := hR.go hSt (lt_of_block hb4) HQ8 7 rfl (by decide); have q0 := hR.1.cell c1 (by omega); clear hF hpre hl hR; go_simp; exact ⟨_, rfl, hgoal _ _ (Below.refl _ _) rfl⟩
            | 8, ho =>
              simp at ho; subst ho; refine step_gd hF hR.2.1 HQ8 (j := 5) (b := true) rfl rfl (by kernel_rfl) (hpre ⟨5, .guard⟩ (by simp) rfl) rfl ?_; have e102 := hF.gv hR.2.1 HQ8 7 rfl (hpre ⟨7, .data⟩ (by simp) rfl) rfl; have hgoal := hR.go hSt (lt_of_block hb4) HQ8 8 rfl (by decide); clear hF hpre hl hR; go_simp; exact ⟨_, rfl, hgoal _ _ (Below.refl _ _) rfl⟩
            | 9, ho =>
              simp at ho; subst ho; refine step_plain rfl ?_; have e100 := hF.gv hR.2.1 HQ8 5 rfl (hpre ⟨5, .data⟩ (by simp) rfl) rfl; have e103 := hF.gv hR.2.1 HQ8 8 rfl (hpre ⟨8, .data⟩ (by simp) rfl) rfl; have hgoal := hR.go hSt (lt_of_block hb4) HQ8 9 rfl (by decide); clear hF hpre hl hR; go_simp; exact ⟨_, rfl, hgoal _ _ (Below.refl _ _) rfl⟩
            | 10, ho =>
              simp at ho; subst ho; refine step_plain rfl ?_; have e104 := hF.gv hR.2.1 HQ8 9 rfl (hpre ⟨9, .data⟩ (by simp) rfl) rfl; have hgoal := hR.go hSt (lt_of_block hb4) HQ8 10 rfl (by decide); clear hF hpre hl hR; go_simp; exact ⟨_, rfl, hgoal _ _ (Below.refl _ _) rfl⟩
            | 11, ho =>
              simp at ho; subst ho; refine step_gd hF hR.2.1 HQ8 (j := 10) (b := true) rfl rfl (by kernel_rfl) (hpre ⟨10, .guard⟩ (by simp) rfl) rfl ?_; have e7 := hF.was 7 (by kernel_rfl) rfl; have hgoal := hR.go hSt (lt_of_block hb4) HQ8 11 rfl (by decide); clear hF hpre hl hR; go_simp; exact ⟨_, rfl, hgoal _ _ (Below.refl _ _) rfl⟩
            | 12, ho =>
              simp at ho; subst ho; refine step_gd hF hR.2.1 HQ8 (j := 10) (b := true) rfl rfl (by kernel_rfl) (hpre ⟨10, .guard⟩ (by simp) rfl) rfl ?_; have e106 := hF.gv hR.2.1 HQ8 11 rfl (hpre ⟨11, .data⟩ (by simp) rfl) rfl; have hgoal := hR.go hSt (lt_of_block hb4) HQ8 12 rfl (by decide); have q0 := hR.1.cell c0 (by omega); clear hF hpre hl hR; go_simp; exact ⟨_, rfl, hgoal _ _ (Below.refl _ _) rfl⟩
            | 13, ho =>
              simp at ho; subst ho; refine step_gd hF hR.2.1 HQ8 (j := 10) (b := true) rfl rfl (by kernel_rfl) (hpre ⟨10, .guard⟩ (by simp) rfl) rfl ?_; have e107 := hF.gv hR.2.1 HQ8 12 rfl (hpre ⟨12, .data⟩ (by simp) rfl) rfl; have hgoal := hR.go hSt (lt_of_block hb4) HQ8 13 rfl (by decide); clear hF hpre hl hR; go_simp; exact ⟨_, rfl, hgoal _ _ (Below.refl _ _) rfl⟩
            | 14, ho =>
              simp at ho; subst ho; refine step_plain rfl ?_; have e105 := hF.gv hR.2.1 HQ8 10 rfl (hpre ⟨10, .data⟩ (by simp) rfl) rfl; have e108 := hF.gv hR.2.1 HQ8 13 rfl (hpre ⟨13, .data⟩ (by simp) rfl) rfl; have hgoal := hR.go hSt (lt_of_block hb4) HQ8 14 rfl (by decide); clear hF hpre hl hR; go_simp; exact ⟨_, rfl, hgoal _ _ (Below.refl _ _) rfl⟩
            | 15, ho =>
              simp at ho; subst ho; refine step_plain rfl ?_; have e109 := hF.gv hR.2.1 HQ8 14 rfl (hpre ⟨14, .data⟩ (by simp) rfl) rfl; have hgoal := hR.go hSt (lt_of_block hb4) HQ8 15 rfl (by decide); clear hF hpre hl hR; go_simp; exact ⟨_, rfl, hgoal _ _ (Below.refl _ _) rfl⟩
            | 16, ho =>
              simp at ho; subst ho; refine step_gd hF hR.2.1 HQ8 (j := 15) (b := true) rfl rfl (by kernel_rfl) (hpre ⟨15, .guard⟩ (by simp) rfl) rfl ?_; have e3 := hF.was 3 (by kernel_rfl) rfl; have hgoal := hR.go hSt (lt_of_block hb4) HQ8 16 rfl (by decide); clear hF hpre hl hR; go_simp; exact ⟨_, rfl, hgoal _ _ (Below.refl _ _) rfl⟩
            | 17, ho =>
              simp at ho; subst ho; refine step_plain rfl ?_; have e110 := hF.gv hR.2.1 HQ8 15 rfl (hpre ⟨15, .data⟩ (by simp) rfl) rfl; have e111 := hF.gv hR.2.1 HQ8 16 rfl (hpre ⟨16, .data⟩ (by simp) rfl) rfl; have hgoal := hR.go hSt (lt_of_block hb4) HQ8 17 rfl (by decide); clear hF hpre hl hR; go_simp; exact ⟨_, rfl, hgoal _ _ (Below.refl _ _) rfl⟩
            | 18, ho =>
              simp at ho; subst ho; refine step_plain rfl ?_; have e112 := hF.gv hR.2.1 HQ8 17 rfl (hpre ⟨17, .data⟩ (by simp) rfl) rfl; have hgoal := hR.go hSt (lt_of_block hb4) HQ8 18 rfl (by decide); clear hF hpre hl hR; go_simp; exact ⟨_, rfl, hgoal _ _ (Below.refl _ _) rfl⟩
            | 19, ho =>
              simp at ho; subst ho; refine step_gd hF hR.2.1 HQ8 (j := 18) (b := true) rfl rfl (by kernel_rfl) (hpre ⟨18, .guard⟩ (by simp) rfl) rfl ?_; have e7 := hF.was 7 (by kernel_rfl) rfl; have hgoal := hR.go hSt (lt_of_block hb4) HQ8 19 rfl (by decide); clear hF hpre hl hR; go_simp; exact ⟨_, rfl, hgoal _ _ (Below.refl _ _) rfl⟩
            | 20, ho =>
              simp at ho; subst ho; refine step_gd hF hR.2.1 HQ8 (j := 18) (b := true) rfl rfl (by kernel_rfl) (hpre ⟨18, .guard⟩ (by simp) rfl) rfl ?_; have e114 := hF.gv hR.2.1 HQ8 19 rfl (hpre ⟨19, .data⟩ (by simp) rfl) rfl; have hgoal := hR.go hSt (lt_of_block hb4) HQ8 20 rfl (by decide); have q0 := hR.1.cell c2 (by omega); clear hF hpre hl hR; go_simp; exact ⟨_, rfl, hgoal _ _ (Below.refl _ _) rfl⟩
            | 21, ho =>
              simp at ho; subst ho; refine step_gd hF hR.2.1 HQ8 (j := 18) (b := true) rfl rfl (by kernel_rfl) (hpre ⟨18, .guard⟩ (by simp) rfl) rfl ?_; have e5 := hF.was 5 (by kernel_rfl) rfl; have hgoal := hR.go hSt (lt_of_block hb4) HQ8 21 rfl (by decide); clear hF hpre hl hR; go_simp; exact ⟨_, rfl, hgoal _ _ (Below.refl _ _) rfl⟩
            | 22, ho =>
              simp at ho; subst ho; refine step_gd hF hR.2.1 HQ8 (j := 18) (b := true) rfl rfl (by kernel_rfl) (hpre ⟨18, .guard⟩ (by simp) rfl) rfl ?_; have e116 := hF.gv hR.2.1 HQ8 21 rfl (hpre ⟨21, .data⟩ (by simp) rfl) rfl; have hgoal := hR.go hSt (lt_of_block hb4) HQ8 22 rfl (by decide); have q0 := hR.1.cell x4 (by omega); clear hF hpre hl hR; go_simp; exact ⟨_, rfl, hgoal _ _ (Below.refl _ _) rfl⟩
            | 23, ho =>
              simp at ho; subst ho; refine step_gd hF hR.2.1 HQ8 (j := 18) (b := true) rfl rfl (by kernel_rfl) (hpre ⟨18, .guard⟩ (by simp) rfl) rfl ?_; have e115 := hF.gv hR.2.1 HQ8 20 rfl (hpre ⟨20, .data⟩ (by simp) rfl) rfl; have e117 := hF.gv hR.2.1 HQ8 22 rfl (hpre ⟨22, .data⟩ (by simp) rfl) rfl; have hgoal := hR.go hSt (lt_of_block hb4) HQ8 23 rfl (by decide); clear hF hpre hl hR; go_simp; exact ⟨_, rfl, hgoal _ _ (Below.refl _ _) rfl⟩
            | 24, ho =>
              simp at ho; subst ho; refine step_plain rfl ?_; have e113 := hF.gv hR.2.1 HQ8 18 rfl (hpre ⟨18, .data⟩ (by simp) rfl) rfl; have e118 := hF.gv hR.2.1 HQ8 23 rfl (hpre ⟨23, .data⟩ (by simp) rfl) rfl; have hgoal := hR.go hSt (lt_of_block hb4) HQ8 24 rfl (by decide); clear hF hpre hl hR; go_simp; exact ⟨_, rfl, hgoal _ _ (Below.refl _ _) rfl⟩
            | 25, ho =>
              simp at ho; subst ho; refine step_plain rfl ?_; have e119 := hF.gv hR.2.1 HQ8 24 rfl (hpre ⟨24, .data⟩ (by simp) rfl) rfl; have hgoal := hR.go hSt (lt_of_block hb4) HQ8 25 rfl (by decide); clear hF hpre hl hR; go_simp; exact ⟨_, rfl, hgoal _ _ (Below.refl _ _) rfl⟩
            | 26, ho =>
              simp at ho; subst ho; refine step_sk hF hR.2.1 HQ8 (j := 25) (b := true) rfl rfl (by kernel_rfl) (hpre ⟨25, .guard⟩ (by simp) rfl) rfl (by simp) ?_
              exact ⟨fun _ _ => trivial, hR.go hSt (lt_of_block hb4) HQ8 26 rfl (by decide) _ _ (Below.refl _ _) rfl⟩
            | 27, ho =>
              simp at ho; subst ho; refine step_sk hF hR.2.1 HQ8 (j := 25) (b := true) rfl rfl (by kernel_rfl) (hpre ⟨25, .guard⟩ (by simp) rfl) rfl (by simp) ?_
              exact ⟨fun _ _ => trivial, hR.go hSt (lt_of_block hb4) HQ8 27 rfl (by decide) _ _ (Below.refl _ _) rfl⟩
            | 28, ho =>
              simp at ho; subst ho; refine step_sk hF hR.2.1 HQ8 (j := 25) (b := true) rfl rfl (by kernel_rfl) (hpre ⟨25, .guard⟩ (by simp) rfl) rfl (by simp) ?_
              exact ⟨fun _ _ => trivial, hR.go hSt (lt_of_block hb4) HQ8 28 rfl (by decide) _ _ (Below.refl _ _) rfl⟩
            | 29, ho =>
              simp at ho; subst ho; refine step_sk hF hR.2.1 HQ8 (j := 25) (b := true) rfl rfl (by kernel_rfl) (hpre ⟨25, .guard⟩ (by simp) rfl) rfl (by simp) ?_
              exact ⟨fun _ _ => trivial, hR.go hSt (lt_of_block hb4) HQ8 29 rfl (by decide) _ _ (Below.refl _ _) rfl⟩
            | 30, ho =>
              simp at ho; subst ho; refine step_sk hF hR.2.1 HQ8 (j := 25) (b := true) rfl rfl (by kernel_rfl) (hpre ⟨25, .guard⟩ (by simp) rfl) rfl (by simp) ?_
              exact ⟨fun _ _ => trivial, hR.go hSt (lt_of_block hb4) HQ8 30 rfl (by decide) _ _ (Below.refl _ _) rfl⟩
            | 31, ho =>
              simp at ho; subst ho; refine step_sk hF hR.2.1 HQ8 (j := 25) (b := true) rfl rfl (by kernel_rfl) (hpre ⟨25, .guard⟩ (by simp) rfl) rfl (by simp) ?_
              exact ⟨fun _ _ => trivial, hR.go hSt (lt_of_block hb4) HQ8 31 rfl (by decide) _ _ (Below.refl _ _) rfl⟩
            | 32, ho =>
              simp at ho; subst ho; refine step_sk hF hR.2.1 HQ8 (j := 25) (b := true) rfl rfl (by kernel_rfl) (hpre ⟨25, .guard⟩ (by simp) rfl) rfl (by simp) ?_
              exact ⟨fun _ _ => trivial, hR.go hSt (lt_of_block hb4) HQ8 32 rfl (by decide) _ _ (Below.refl _ _) rfl⟩
            | 33, ho =>
              simp at ho; subst ho; refine step_plain rfl ?_; have e120 := hF.gv hR.2.1 HQ8 25 rfl (hpre ⟨25, .data⟩ (by simp) rfl) rfl; have e127 := hF.gv hR.2.1 HQ8 32 rfl (hpre ⟨32, .data⟩ (by simp) rfl) rfl; have hgoal := hR.go hSt (lt_of_block hb4) HQ8 33 rfl (by decide); clear hF hpre hl hR; go_simp; exact ⟨_, rfl, hgoal _ _ (Below.refl _ _) rfl⟩
            | 34, ho =>
              simp at ho; subst ho; refine step_plain rfl ?_; have e10 := hF.was 10 (by kernel_rfl) rfl; have e95 := hF.gv hR.2.1 HQ8 0 rfl (hpre ⟨0, .data⟩ (by simp) rfl) rfl; have hN := hF.none2 hl (by decide)
              have hls : 34 < L.size := by rw [hF.lsize]; decide
              have qb := (hR.2.2.2 hN).trans hb4
              have g0 := cellOf (o := 0) qb rfl; have f0 := freeOf (o := 0) qb; have g1 := cellOf (o := 1) qb rfl; have f1 := freeOf (o := 1) qb; have g2 := cellOf (o := 2) qb rfl; have f2 := freeOf (o := 2) qb; have g3 := cellOf (o := 3) qb rfl; have f3 := freeOf (o := 3) qb; have g4 := cellOf (o := 4) qb rfl; have f4 := freeOf (o := 4) qb; have hgoal := RK.store (v := undef) hR hSt hls ((((((Kept.refl (w.heap.size + 1 + 1 + 1 + 1) x).setCell 0 (.int .i64 len)).setCell 1 (.int .i64 n)).setCell 2 (.int .i64 (since + 1))).setCell 3 (.int .i64 cyc)).setCell 4 (.bool false)) ((block_setCell (o := 4) (.bool false) (block_setCell (o := 3) (.int .i64 cyc) (block_setCell (o := 2) (.int .i64 (since + 1)) (block_setCell (o := 1) (.int .i64 n) (block_setCell (o := 0) (.int .i64 len) qb))))).trans (by rfl)) (QG.none HQ8 34 rfl (fun _ _ => trivial) _ _)
              have hq := lt_of_block qb
              have HG := Lib.hid hgoal
              clear hF hpre hl hR hls hN qb hgoal; go_simp
              exact ⟨undef, HG.out⟩
            | 35, ho =>
              simp at ho; subst ho; refine step_plain rfl ?_; have e96 := hF.gv hR.2.1 HQ8 1 rfl (hpre ⟨1, .data⟩ (by simp) rfl) rfl; have hgoal := hR.go hSt (lt_of_block hb4) HQ8 35 rfl (by decide); clear hF hpre hl hR; go_simp; exact ⟨_, rfl, hgoal _ _ (Below.refl _ _) rfl⟩
            | 36, ho =>
              simp at ho; subst ho; refine step_plain rfl ?_; have e128 := hF.gv hR.2.1 HQ8 33 rfl (hpre ⟨33, .data⟩ (by simp) rfl) rfl; have hgoal := hR.go hSt (lt_of_block hb4) HQ8 36 rfl (by decide); clear hF hpre hl hR; go_simp; exact ⟨_, rfl, hgoal _ _ (Below.refl _ _) rfl⟩
            | i + 37, ho => simp at ho
          case hend8 =>
            intro val L b' x hF hall hR
            have e := hF.all (by kernel_rfl) hall
            have k835 := QG.val HQ8 rfl (hR.2.1 35 (hall 35 (by decide)))
            have k836 := QG.val HQ8 rfl (hR.2.1 36 (hall 36 (by decide)))
            have bk8 := hR.2.2.1 (hall 34 (by decide))
            have hK8 := Lib.hid hR.1
            clear hF hall hR hSt HQ8
            subst e
            simp [final, dstOf, List.range, List.range.loop]
            rw [k835]
            rw [k836]
            have HQ := Lib.hid (HB6.out.trans (hK8.out.low (by omega)))
            go_wp2
            have d0 := cellOf (o := 0) bk8 rfl
            have d1 := cellOf (o := 1) bk8 rfl
            have d2 := cellOf (o := 2) bk8 rfl
            have d3 := cellOf (o := 3) bk8 rfl
            have d4 := cellOf (o := 4) bk8 rfl
            exact bodyPost_ret (v := .tuple #[.agg #[.int .i64 (len), .int .i64 (n), .int .i64 (since + 1), .int .i64 (cyc), .bool false], .bool true, .bool (false)]) (by simp [results, Try.results81, go_sem, d0, d1, d2, d3, d4]) rfl ⟨rfl, HQ.out⟩
      · have g6 : decide (0 < len) = false := by simpa using g3
        rw [show posB (fun l u => carB X Y V l l y1 y2 u) cable charge ⟨len, 0, since, cyc, false, true⟩ 4 n = false by unfold posB; simp [g1, g3]]
        have H1 := Lib.hid (w7_yes (a := n) (b := 1) (c := 100000) g1.1 g1.2)
        go_enter Try.func81, Try.ntmps81
        go_upto_region 21 with (fail)
        have S6 := Lib.hid (st_next _ _ _ _ _ _ _ _ _ _ _ _ _ _ _ _ _ _ _ _ _ S5.out (.cells #[.int .i64 (len), .int .i64 (n), .int .i64 (since + 1), .int .i64 (cyc), .bool false] 61))
        clear S5
        generalize World.alloc _ _ = w6 at *
        have HB6 := Lib.hid S6.out.hb
        have hb4 := S6.out.b4
        have hs6 := S6.out.sz
        have x0 := cellOf (o := 0) S6.out.b0 rfl
        have c0 := cellOf (o := 0) S6.out.b2 rfl
        have m0 := cellOf (o := 0) S6.out.b5 rfl
        have x1 := cellOf (o := 1) S6.out.b0 rfl
        have c1 := cellOf (o := 1) S6.out.b2 rfl
        have m1 := cellOf (o := 1) S6.out.b5 rfl
        have x2 := cellOf (o := 2) S6.out.b0 rfl
        have c2 := cellOf (o := 2) S6.out.b2 rfl
        have m2 := cellOf (o := 2) S6.out.b5 rfl
        have x3 := cellOf (o := 3) S6.out.b0 rfl
        have c3 := cellOf (o := 3) S6.out.b2 rfl
        have m3 := cellOf (o := 3) S6.out.b5 rfl
        have x4 := cellOf (o := 4) S6.out.b0 rfl
        have c4 := cellOf (o := 4) S6.out.b2 rfl
        have m4 := cellOf (o := 4) S6.out.b5 rfl
        have p0 := cellOf (o := 0) S6.out.b1 rfl
        have l0 := cellOf (o := 0) S6.out.b3 rfl
        have p1 := cellOf (o := 1) S6.out.b1 rfl
        have l1 := cellOf (o := 1) S6.out.b3 rfl
        clear S6
        obtain ⟨Q9, hQ9⟩ : ∃ q9 : Nat → Value → World → Prop, q9 = QG [some (.agg #[.int .i64 len, .int .i64 n, .int .i64 (since + 1), .int .i64 cyc, .bool false]), some (.bool true), some (.pointer (some ⟨w.heap.size + 1 + 1 + 1, 1, none⟩)), some (.int .i64 n), some (.bool true), some (.bool true), some (.pointer (some ⟨w.heap.size + 1 + 1, 1, none⟩)), some (.int .i64 0), some (.bool true), some (.bool true), some (.bool true), some (.pointer (some ⟨w.heap.size + 1 + 1, 0, none⟩)), some (.int .i64 len), some (.bool false), some (.bool false), some (.bool false), some (undef), some (.bool false), some (.bool false), some (undef), some (undef), some (undef), some (undef), some (undef), some (.bool false), some (.bool false), some (undef), some (undef), some (undef), some (undef), some (undef), some (undef), some (undef), some (.bool false), none, some (.bool true), some (.bool false)] (fun _ _ _ => True) := ⟨_, rfl⟩
        have hSt : Still Q9 := by rw [hQ9]; exact QG.still
        have HQ9 := Lib.hid hQ9
        clear hQ9
        refine wpIn_wide.1 (region_inv2 (n := 9) (by kernel_rfl) (RK Q9 w6 34 (w.heap.size + 1 + 1 + 1 + 1) (.cells #[.int .i64 len, .int .i64 n, .int .i64 (since + 1), .int .i64 cyc, .bool false] 61 (0, 0))) (by kernel_rfl) rfl (RK.start _ _ _ _ _ _) ?hstep9 ?hend9)
        case hstep9 =>
          intro i' o ho val L b' x hF hR hpre hl
          match i', ho with
          | 0, ho =>
            simp at ho; subst ho; refine step_plain rfl ?_; have e13 := hF.was 13 (by kernel_rfl) rfl; have hgoal := hR.go hSt (lt_of_block hb4) HQ9 0 rfl (by decide); have q0 := hR.1.cell m0 (by omega); have q1 := hR.1.cell m1 (by omega); have q2 := hR.1.cell m2 (by omega); have q3 := hR.1.cell m3 (by omega); have q4 := hR.1.cell m4 (by omega); clear hF hpre hl hR; go_simp; exact ⟨_, rfl, hgoal _ _ (Below.refl _ _) rfl⟩
          | 1, ho =>
            simp at ho; subst ho; refine step_plain rfl ?_; have e3 := hF.was 3 (by kernel_rfl) rfl; have hgoal := hR.go hSt (lt_of_block hb4) HQ9 1 rfl (by decide); clear hF hpre hl hR; go_simp; exact ⟨_, rfl, hgoal _ _ (Below.refl _ _) rfl⟩
          | 2, ho =>
            simp at ho; subst ho; refine step_plain rfl ?_; have e9 := hF.was 9 (by kernel_rfl) rfl; have hgoal := hR.go hSt (lt_of_block hb4) HQ9 2 rfl (by decide); clear hF hpre hl hR; go_simp; exact ⟨_, rfl, hgoal _ _ (Below.refl _ _) rfl⟩
          | 3, ho =>
            simp at ho; subst ho; refine step_plain rfl ?_; have e97 := hF.gv hR.2.1 HQ9 2 rfl (hpre ⟨2, .data⟩ (by simp) rfl) rfl; have hgoal := hR.go hSt (lt_of_block hb4) HQ9 3 rfl (by decide); have q0 := hR.1.cell l1 (by omega); clear hF hpre hl hR; go_simp; exact ⟨_, rfl, hgoal _ _ (Below.refl _ _) rfl⟩
          | 4, ho =>
            simp at ho; subst ho; refine step_plain rfl ?_; have e98 := hF.gv hR.2.1 HQ9 3 rfl (hpre ⟨3, .data⟩ (by simp) rfl) rfl; have hgoal := hR.go hSt (lt_of_block hb4) HQ9 4 rfl (by decide)
            have hM := Lib.hid hR.1
            clear hF hpre hl hR; go_simp
            refine ⟨trivial, ?_⟩
            refine CallsIn.mono (callsIn_wide.2 (H1.out _)) ?_
            rintro e w9 ⟨rfl, rfl⟩
            exact ⟨_, rfl, hgoal _ _ (Below.refl _ _) rfl⟩
          | 5, ho =>
            simp at ho; subst ho; refine step_plain rfl ?_; have e99 := hF.gv hR.2.1 HQ9 4 rfl (hpre ⟨4, .data⟩ (by simp) rfl) rfl; have hgoal := hR.go hSt (lt_of_block hb4) HQ9 5 rfl (by decide); clear hF hpre hl hR; go_simp; exact ⟨_, rfl, hgoal _ _ (Below.refl _ _) rfl⟩
          | 6, ho =>
            simp at ho; subst ho; refine step_gd hF hR.2.1 HQ9 (j := 5) (b := true) rfl rfl (by kernel_rfl) (hpre ⟨5, .guard⟩ (by simp) rfl) rfl ?_; have e7 := hF.was 7 (by kernel_rfl) rfl; have hgoal := hR.go hSt (lt_of_block hb4) HQ9 6 rfl (by decide); clear hF hpre hl hR; go_simp; exact ⟨_, rfl, hgoal _ _ (Below.refl _ _) rfl⟩
          | 7, ho =>
            simp at ho; subst ho; refine step_gd hF hR.2.1 HQ9 (j := 5) (b := true) rfl rfl (by kernel_rfl) (hpre ⟨5, .guard⟩ (by simp) rfl) rfl ?_; have e101 := hF.gv hR.2.1 HQ9 6 rfl (hpre ⟨6, .data⟩ (by simp) rfl) rfl; have hgoal := hR.go hSt (lt_of_block hb4) HQ9 7 rfl (by decide); have q0 := hR.1.cell c1 (by omega); clear hF hpre hl hR; go_simp; exact ⟨_, rfl, hgoal _ _ (Below.refl _ _) rfl⟩
          | 8, ho =>
            simp at ho; subst ho; refine step_gd hF hR.2.1 HQ9 (j := 5) (b := true) rfl rfl (by kernel_rfl) (hpre ⟨5, .guard⟩ (by simp) rfl) rfl ?_; have e102 := hF.gv hR.2.1 HQ9 7 rfl (hpre ⟨7, .data⟩ (by simp) rfl) rfl; have hgoal := hR.go hSt (lt_of_block hb4) HQ9 8 rfl (by decide); clear hF hpre hl hR; go_simp; exact ⟨_, rfl, hgoal _ _ (Below.refl _ _) rfl⟩
          | 9, ho =>
            simp at ho; subst ho; refine step_plain rfl ?_; have e100 := hF.gv hR.2.1 HQ9 5 rfl (hpre ⟨5, .data⟩ (by simp) rfl) rfl; have e103 := hF.gv hR.2.1 HQ9 8 rfl (hpre ⟨8, .data⟩ (by simp) rfl) rfl; have hgoal := hR.go hSt (lt_of_block hb4) HQ9 9 rfl (by decide); clear hF hpre hl hR; go_simp; exact ⟨_, rfl, hgoal _ _ (Below.refl _ _) rfl⟩
          | 10, ho =>
            simp at ho; subst ho; refine step_plain rfl ?_; have e104 := hF.gv hR.2.1 HQ9 9 rfl (hpre ⟨9, .data⟩ (by simp) rfl) rfl; have hgoal := hR.go hSt (lt_of_block hb4) HQ9 10 rfl (by decide); clear hF hpre hl hR; go_simp; exact ⟨_, rfl, hgoal _ _ (Below.refl _ _) rfl⟩
          | 11, ho =>
            simp at ho; subst ho; refine step_gd hF hR.2.1 HQ9 (j := 10) (b := true) rfl rfl (by kernel_rfl) (hpre ⟨10, .guard⟩ (by simp) rfl) rfl ?_; have e7 := hF.was 7 (by kernel_rfl) rfl; have hgoal := hR.go hSt (lt_of_block hb4) HQ9 11 rfl (by decide); clear hF hpre hl hR; go_simp; exact ⟨_, rfl, hgoal _ _ (Below.refl _ _) rfl⟩
          | 12, ho =>
            simp at ho; subst ho; refine step_gd hF hR.2.1 HQ9 (j := 10) (b := true) rfl rfl (by kernel_rfl) (hpre ⟨10, .guard⟩ (by simp) rfl) rfl ?_; have e106 := hF.gv hR.2.1 HQ9 11 rfl (hpre ⟨11, .data⟩ (by simp) rfl) rfl; have hgoal := hR.go hSt (lt_of_block hb4) HQ9 12 rfl (by decide); have q0 := hR.1.cell c0 (by omega); clear hF hpre hl hR; go_simp; exact ⟨_, rfl, hgoal _ _ (Below.refl _ _) rfl⟩
          | 13, ho =>
            simp at ho; subst ho; refine step_gd hF hR.2.1 HQ9 (j := 10) (b := true) rfl rfl (by kernel_rfl) (hpre ⟨10, .guard⟩ (by simp) rfl) rfl ?_; have e107 := hF.gv hR.2.1 HQ9 12 rfl (hpre ⟨12, .data⟩ (by simp) rfl) rfl; have hgoal := hR.go hSt (lt_of_block hb4) HQ9 13 rfl (by decide); clear hF hpre hl hR; go_simp; exact ⟨_, rfl, hgoal _ _ (Below.refl _ _) rfl⟩
          | 14, ho =>
            simp at ho; subst ho; refine step_plain rfl ?_; have e105 := hF.gv hR.2.1 HQ9 10 rfl (hpre ⟨10, .data⟩ (by simp) rfl) rfl; have e108 := hF.gv hR.2.1 HQ9 13 rfl (hpre ⟨13, .data⟩ (by simp) rfl) rfl; have hgoal := hR.go hSt (lt_of_block hb4) HQ9 14 rfl (by decide); clear hF hpre hl hR; go_simp; exact ⟨_, rfl, hgoal _ _ (Below.refl _ _) rfl⟩
          | 15, ho =>
            simp at ho; subst ho; refine step_plain rfl ?_; have e109 := hF.gv hR.2.1 HQ9 14 rfl (hpre ⟨14, .data⟩ (by simp) rfl) rfl; have hgoal := hR.go hSt (lt_of_block hb4) HQ9 15 rfl (by decide); clear hF hpre hl hR; go_simp; exact ⟨_, rfl, hgoal _ _ (Below.refl _ _) rfl⟩
          | 16, ho =>
            simp at ho; subst ho; refine step_sk hF hR.2.1 HQ9 (j := 15) (b := true) rfl rfl (by kernel_rfl) (hpre ⟨15, .guard⟩ (by simp) rfl) rfl (by simp) ?_
            exact ⟨fun _ _ => trivial, hR.go hSt (lt_of_block hb4) HQ9 16 rfl (by decide) _ _ (Below.refl _ _) rfl⟩
          | 17, ho =>
            simp at ho; subst ho; refine step_plain rfl ?_; have e110 := hF.gv hR.2.1 HQ9 15 rfl (hpre ⟨15, .data⟩ (by simp) rfl) rfl; have e111 := hF.gv hR.2.1 HQ9 16 rfl (hpre ⟨16, .data⟩ (by simp) rfl) rfl; have hgoal := hR.go hSt (lt_of_block hb4) HQ9 17 rfl (by decide); clear hF hpre hl hR; go_simp; exact ⟨_, rfl, hgoal _ _ (Below.refl _ _) rfl⟩
          | 18, ho =>
            simp at ho; subst ho; refine step_plain rfl ?_; have e112 := hF.gv hR.2.1 HQ9 17 rfl (hpre ⟨17, .data⟩ (by simp) rfl) rfl; have hgoal := hR.go hSt (lt_of_block hb4) HQ9 18 rfl (by decide); clear hF hpre hl hR; go_simp; exact ⟨_, rfl, hgoal _ _ (Below.refl _ _) rfl⟩
          | 19, ho =>
            simp at ho; subst ho; refine step_sk hF hR.2.1 HQ9 (j := 18) (b := true) rfl rfl (by kernel_rfl) (hpre ⟨18, .guard⟩ (by simp) rfl) rfl (by simp) ?_
            exact ⟨fun _ _ => trivial, hR.go hSt (lt_of_block hb4) HQ9 19 rfl (by decide) _ _ (Below.refl _ _) rfl⟩
          | 20, ho =>
            simp at ho; subst ho; refine step_sk hF hR.2.1 HQ9 (j := 18) (b := true) rfl rfl (by kernel_rfl) (hpre ⟨18, .guard⟩ (by simp) rfl) rfl (by simp) ?_
            exact ⟨fun _ _ => trivial, hR.go hSt (lt_of_block hb4) HQ9 20 rfl (by decide) _ _ (Below.refl _ _) rfl⟩
          | 21, ho =>
            simp at ho; subst ho; refine step_sk hF hR.2.1 HQ9 (j := 18) (b := true) rfl rfl (by kernel_rfl) (hpre ⟨18, .guard⟩ (by simp) rfl) rfl (by simp) ?_
            exact ⟨fun _ _ => trivial, hR.go hSt (lt_of_block hb4) HQ9 21 rfl (by decide) _ _ (Below.refl _ _) rfl⟩
          | 22, ho =>
            simp at ho; subst ho; refine step_sk hF hR.2.1 HQ9 (j := 18) (b := true) rfl rfl (by kernel_rfl) (hpre ⟨18, .guard⟩ (by simp) rfl) rfl (by simp) ?_
            exact ⟨fun _ _ => trivial, hR.go hSt (lt_of_block hb4) HQ9 22 rfl (by decide) _ _ (Below.refl _ _) rfl⟩
          | 23, ho =>
            simp at ho; subst ho; refine step_sk hF hR.2.1 HQ9 (j := 18) (b := true) rfl rfl (by kernel_rfl) (hpre ⟨18, .guard⟩ (by simp) rfl) rfl (by simp) ?_
            exact ⟨fun _ _ => trivial, hR.go hSt (lt_of_block hb4) HQ9 23 rfl (by decide) _ _ (Below.refl _ _) rfl⟩
          | 24, ho =>
            simp at ho; subst ho; refine step_plain rfl ?_; have e113 := hF.gv hR.2.1 HQ9 18 rfl (hpre ⟨18, .data⟩ (by simp) rfl) rfl; have e118 := hF.gv hR.2.1 HQ9 23 rfl (hpre ⟨23, .data⟩ (by simp) rfl) rfl; have hgoal := hR.go hSt (lt_of_block hb4) HQ9 24 rfl (by decide); clear hF hpre hl hR; go_simp; exact ⟨_, rfl, hgoal _ _ (Below.refl _ _) rfl⟩
          | 25, ho =>
            simp at ho; subst ho; refine step_plain rfl ?_; have e119 := hF.gv hR.2.1 HQ9 24 rfl (hpre ⟨24, .data⟩ (by simp) rfl) rfl; have hgoal := hR.go hSt (lt_of_block hb4) HQ9 25 rfl (by decide); clear hF hpre hl hR; go_simp; exact ⟨_, rfl, hgoal _ _ (Below.refl _ _) rfl⟩
          | 26, ho =>
            simp at ho; subst ho; refine step_sk hF hR.2.1 HQ9 (j := 25) (b := true) rfl rfl (by kernel_rfl) (hpre ⟨25, .guard⟩ (by simp) rfl) rfl (by simp) ?_
            exact ⟨fun _ _ => trivial, hR.go hSt (lt_of_block hb4) HQ9 26 rfl (by decide) _ _ (Below.refl _ _) rfl⟩
          | 27, ho =>
            simp at ho; subst ho; refine step_sk hF hR.2.1 HQ9 (j := 25) (b := true) rfl rfl (by kernel_rfl) (hpre ⟨25, .guard⟩ (by simp) rfl) rfl (by simp) ?_
            exact ⟨fun _ _ => trivial, hR.go hSt (lt_of_block hb4) HQ9 27 rfl (by decide) _ _ (Below.refl _ _) rfl⟩
          | 28, ho =>
            simp at ho; subst ho; refine step_sk hF hR.2.1 HQ9 (j := 25) (b := true) rfl rfl (by kernel_rfl) (hpre ⟨25, .guard⟩ (by simp) rfl) rfl (by simp) ?_
            exact ⟨fun _ _ => trivial, hR.go hSt (lt_of_block hb4) HQ9 28 rfl (by decide) _ _ (Below.refl _ _) rfl⟩
          | 29, ho =>
            simp at ho; subst ho; refine step_sk hF hR.2.1 HQ9 (j := 25) (b := true) rfl rfl (by kernel_rfl) (hpre ⟨25, .guard⟩ (by simp) rfl) rfl (by simp) ?_
            exact ⟨fun _ _ => trivial, hR.go hSt (lt_of_block hb4) HQ9 29 rfl (by decide) _ _ (Below.refl _ _) rfl⟩
          | 30, ho =>
            simp at ho; subst ho; refine step_sk hF hR.2.1 HQ9 (j := 25) (b := true) rfl rfl (by kernel_rfl) (hpre ⟨25, .guard⟩ (by simp) rfl) rfl (by simp) ?_
            exact ⟨fun _ _ => trivial, hR.go hSt (lt_of_block hb4) HQ9 30 rfl (by decide) _ _ (Below.refl _ _) rfl⟩
          | 31, ho =>
            simp at ho; subst ho; refine step_sk hF hR.2.1 HQ9 (j := 25) (b := true) rfl rfl (by kernel_rfl) (hpre ⟨25, .guard⟩ (by simp) rfl) rfl (by simp) ?_
            exact ⟨fun _ _ => trivial, hR.go hSt (lt_of_block hb4) HQ9 31 rfl (by decide) _ _ (Below.refl _ _) rfl⟩
          | 32, ho =>
            simp at ho; subst ho; refine step_sk hF hR.2.1 HQ9 (j := 25) (b := true) rfl rfl (by kernel_rfl) (hpre ⟨25, .guard⟩ (by simp) rfl) rfl (by simp) ?_
            exact ⟨fun _ _ => trivial, hR.go hSt (lt_of_block hb4) HQ9 32 rfl (by decide) _ _ (Below.refl _ _) rfl⟩
          | 33, ho =>
            simp at ho; subst ho; refine step_plain rfl ?_; have e120 := hF.gv hR.2.1 HQ9 25 rfl (hpre ⟨25, .data⟩ (by simp) rfl) rfl; have e127 := hF.gv hR.2.1 HQ9 32 rfl (hpre ⟨32, .data⟩ (by simp) rfl) rfl; have hgoal := hR.go hSt (lt_of_block hb4) HQ9 33 rfl (by decide); clear hF hpre hl hR; go_simp; exact ⟨_, rfl, hgoal _ _ (Below.refl _ _) rfl⟩
          | 34, ho =>
            simp at ho; subst ho; refine step_plain rfl ?_; have e10 := hF.was 10 (by kernel_rfl) rfl; have e95 := hF.gv hR.2.1 HQ9 0 rfl (hpre ⟨0, .data⟩ (by simp) rfl) rfl; have hN := hF.none2 hl (by decide)
            have hls : 34 < L.size := by rw [hF.lsize]; decide
            have qb := (hR.2.2.2 hN).trans hb4
            have g0 := cellOf (o := 0) qb rfl; have f0 := freeOf (o := 0) qb; have g1 := cellOf (o := 1) qb rfl; have f1 := freeOf (o := 1) qb; have g2 := cellOf (o := 2) qb rfl; have f2 := freeOf (o := 2) qb; have g3 := cellOf (o := 3) qb rfl; have f3 := freeOf (o := 3) qb; have g4 := cellOf (o := 4) qb rfl; have f4 := freeOf (o := 4) qb; have hgoal := RK.store (v := undef) hR hSt hls ((((((Kept.refl (w.heap.size + 1 + 1 + 1 + 1) x).setCell 0 (.int .i64 len)).setCell 1 (.int .i64 n)).setCell 2 (.int .i64 (since + 1))).setCell 3 (.int .i64 cyc)).setCell 4 (.bool false)) ((block_setCell (o := 4) (.bool false) (block_setCell (o := 3) (.int .i64 cyc) (block_setCell (o := 2) (.int .i64 (since + 1)) (block_setCell (o := 1) (.int .i64 n) (block_setCell (o := 0) (.int .i64 len) qb))))).trans (by rfl)) (QG.none HQ9 34 rfl (fun _ _ => trivial) _ _)
            have hq := lt_of_block qb
            have HG := Lib.hid hgoal
            clear hF hpre hl hR hls hN qb hgoal; go_simp
            exact ⟨undef, HG.out⟩
          | 35, ho =>
            simp at ho; subst ho; refine step_plain rfl ?_; have e96 := hF.gv hR.2.1 HQ9 1 rfl (hpre ⟨1, .data⟩ (by simp) rfl) rfl; have hgoal := hR.go hSt (lt_of_block hb4) HQ9 35 rfl (by decide); clear hF hpre hl hR; go_simp; exact ⟨_, rfl, hgoal _ _ (Below.refl _ _) rfl⟩
          | 36, ho =>
            simp at ho; subst ho; refine step_plain rfl ?_; have e128 := hF.gv hR.2.1 HQ9 33 rfl (hpre ⟨33, .data⟩ (by simp) rfl) rfl; have hgoal := hR.go hSt (lt_of_block hb4) HQ9 36 rfl (by decide); clear hF hpre hl hR; go_simp; exact ⟨_, rfl, hgoal _ _ (Below.refl _ _) rfl⟩
          | i + 37, ho => simp at ho
        case hend9 =>
          intro val L b' x hF hall hR
          have e := hF.all (by kernel_rfl) hall
          have k935 := QG.val HQ9 rfl (hR.2.1 35 (hall 35 (by decide)))
          have k936 := QG.val HQ9 rfl (hR.2.1 36 (hall 36 (by decide)))
          have bk9 := hR.2.2.1 (hall 34 (by decide))
          have hK9 := Lib.hid hR.1
          clear hF hall hR hSt HQ9
          subst e
          simp [final, dstOf, List.range, List.range.loop]
          rw [k935]
          rw [k936]
          have HQ := Lib.hid (HB6.out.trans (hK9.out.low (by omega)))
          go_wp2
          have d0 := cellOf (o := 0) bk9 rfl
          have d1 := cellOf (o := 1) bk9 rfl
          have d2 := cellOf (o := 2) bk9 rfl
          have d3 := cellOf (o := 3) bk9 rfl
          have d4 := cellOf (o := 4) bk9 rfl
          exact bodyPost_ret (v := .tuple #[.agg #[.int .i64 (len), .int .i64 (n), .int .i64 (since + 1), .int .i64 (cyc), .bool false], .bool true, .bool (false)]) (by simp [results, Try.results81, go_sem, d0, d1, d2, d3, d4]) rfl ⟨rfl, HQ.out⟩
    · have z2a : (wt == 0) = false := by simpa using g2
      rw [show posB (fun l u => carB X Y V l l y1 y2 u) cable charge ⟨len, wt, since, cyc, false, true⟩ 4 n = false by unfold posB; simp [g1, g2]]
      have H1 := Lib.hid (w7_yes (a := n) (b := 1) (c := 100000) g1.1 g1.2)
      go_enter Try.func81, Try.ntmps81
      go_upto_region 21 with (fail)
      have S6 := Lib.hid (st_next _ _ _ _ _ _ _ _ _ _ _ _ _ _ _ _ _ _ _ _ _ S5.out (.cells #[.int .i64 (len), .int .i64 (n), .int .i64 (since + 1), .int .i64 (cyc), .bool false] 61))
      clear S5
      generalize World.alloc _ _ = w6 at *
      have HB6 := Lib.hid S6.out.hb
      have hb4 := S6.out.b4
      have hs6 := S6.out.sz
      have x0 := cellOf (o := 0) S6.out.b0 rfl
      have c0 := cellOf (o := 0) S6.out.b2 rfl
      have m0 := cellOf (o := 0) S6.out.b5 rfl
      have x1 := cellOf (o := 1) S6.out.b0 rfl
      have c1 := cellOf (o := 1) S6.out.b2 rfl
      have m1 := cellOf (o := 1) S6.out.b5 rfl
      have x2 := cellOf (o := 2) S6.out.b0 rfl
      have c2 := cellOf (o := 2) S6.out.b2 rfl
      have m2 := cellOf (o := 2) S6.out.b5 rfl
      have x3 := cellOf (o := 3) S6.out.b0 rfl
      have c3 := cellOf (o := 3) S6.out.b2 rfl
      have m3 := cellOf (o := 3) S6.out.b5 rfl
      have x4 := cellOf (o := 4) S6.out.b0 rfl
      have c4 := cellOf (o := 4) S6.out.b2 rfl
      have m4 := cellOf (o := 4) S6.out.b5 rfl
      have p0 := cellOf (o := 0) S6.out.b1 rfl
      have l0 := cellOf (o := 0) S6.out.b3 rfl
      have p1 := cellOf (o := 1) S6.out.b1 rfl
      have l1 := cellOf (o := 1) S6.out.b3 rfl
      clear S6
      obtain ⟨Q10, hQ10⟩ : ∃ q9 : Nat → Value → World → Prop, q9 = QG [some (.agg #[.int .i64 len, .int .i64 n, .int .i64 (since + 1), .int .i64 cyc, .bool false]), some (.bool true), some (.pointer (some ⟨w.heap.size + 1 + 1 + 1, 1, none⟩)), some (.int .i64 n), some (.bool true), some (.bool true), some (.pointer (some ⟨w.heap.size + 1 + 1, 1, none⟩)), some (.int .i64 wt), some (.bool false), some (.bool false), some (.bool false), some (undef), some (undef), some (undef), some (.bool false), some (.bool false), some (undef), some (.bool false), some (.bool false), some (undef), some (undef), some (undef), some (undef), some (undef), some (.bool false), some (.bool false), some (undef), some (undef), some (undef), some (undef), some (undef), some (undef), some (undef), some (.bool false), none, some (.bool true), some (.bool false)] (fun _ _ _ => True) := ⟨_, rfl⟩
      have hSt : Still Q10 := by rw [hQ10]; exact QG.still
      have HQ10 := Lib.hid hQ10
      clear hQ10
      refine wpIn_wide.1 (region_inv2 (n := 9) (by kernel_rfl) (RK Q10 w6 34 (w.heap.size + 1 + 1 + 1 + 1) (.cells #[.int .i64 len, .int .i64 n, .int .i64 (since + 1), .int .i64 cyc, .bool false] 61 (0, 0))) (by kernel_rfl) rfl (RK.start _ _ _ _ _ _) ?hstep10 ?hend10)
      case hstep10 =>
        intro i' o ho val L b' x hF hR hpre hl
        match i', ho with
        | 0, ho =>
          simp at ho; subst ho; refine step_plain rfl ?_; have e13 := hF.was 13 (by kernel_rfl) rfl; have hgoal := hR.go hSt (lt_of_block hb4) HQ10 0 rfl (by decide); have q0 := hR.1.cell m0 (by omega); have q1 := hR.1.cell m1 (by omega); have q2 := hR.1.cell m2 (by omega); have q3 := hR.1.cell m3 (by omega); have q4 := hR.1.cell m4 (by omega); clear hF hpre hl hR; go_simp; exact ⟨_, rfl, hgoal _ _ (Below.refl _ _) rfl⟩
        | 1, ho =>
          simp at ho; subst ho; refine step_plain rfl ?_; have e3 := hF.was 3 (by kernel_rfl) rfl; have hgoal := hR.go hSt (lt_of_block hb4) HQ10 1 rfl (by decide); clear hF hpre hl hR; go_simp; exact ⟨_, rfl, hgoal _ _ (Below.refl _ _) rfl⟩
        | 2, ho =>
          simp at ho; subst ho; refine step_plain rfl ?_; have e9 := hF.was 9 (by kernel_rfl) rfl; have hgoal := hR.go hSt (lt_of_block hb4) HQ10 2 rfl (by decide); clear hF hpre hl hR; go_simp; exact ⟨_, rfl, hgoal _ _ (Below.refl _ _) rfl⟩
        | 3, ho =>
          simp at ho; subst ho; refine step_plain rfl ?_; have e97 := hF.gv hR.2.1 HQ10 2 rfl (hpre ⟨2, .data⟩ (by simp) rfl) rfl; have hgoal := hR.go hSt (lt_of_block hb4) HQ10 3 rfl (by decide); have q0 := hR.1.cell l1 (by omega); clear hF hpre hl hR; go_simp; exact ⟨_, rfl, hgoal _ _ (Below.refl _ _) rfl⟩
        | 4, ho =>
          simp at ho; subst ho; refine step_plain rfl ?_; have e98 := hF.gv hR.2.1 HQ10 3 rfl (hpre ⟨3, .data⟩ (by simp) rfl) rfl; have hgoal := hR.go hSt (lt_of_block hb4) HQ10 4 rfl (by decide)
          have hM := Lib.hid hR.1
          clear hF hpre hl hR; go_simp
          refine ⟨trivial, ?_⟩
          refine CallsIn.mono (callsIn_wide.2 (H1.out _)) ?_
          rintro e w9 ⟨rfl, rfl⟩
          exact ⟨_, rfl, hgoal _ _ (Below.refl _ _) rfl⟩
        | 5, ho =>
          simp at ho; subst ho; refine step_plain rfl ?_; have e99 := hF.gv hR.2.1 HQ10 4 rfl (hpre ⟨4, .data⟩ (by simp) rfl) rfl; have hgoal := hR.go hSt (lt_of_block hb4) HQ10 5 rfl (by decide); clear hF hpre hl hR; go_simp; exact ⟨_, rfl, hgoal _ _ (Below.refl _ _) rfl⟩
        | 6, ho =>
          simp at ho; subst ho; refine step_gd hF hR.2.1 HQ10 (j := 5) (b := true) rfl rfl (by kernel_rfl) (hpre ⟨5, .guard⟩ (by simp) rfl) rfl ?_; have e7 := hF.was 7 (by kernel_rfl) rfl; have hgoal := hR.go hSt (lt_of_block hb4) HQ10 6 rfl (by decide); clear hF hpre hl hR; go_simp; exact ⟨_, rfl, hgoal _ _ (Below.refl _ _) rfl⟩
        | 7, ho =>
          simp at ho; subst ho; refine step_gd hF hR.2.1 HQ10 (j := 5) (b := true) rfl rfl (by kernel_rfl) (hpre ⟨5, .guard⟩ (by simp) rfl) rfl ?_; have e101 := hF.gv hR.2.1 HQ10 6 rfl (hpre ⟨6, .data⟩ (by simp) rfl) rfl; have hgoal := hR.go hSt (lt_of_block hb4) HQ10 7 rfl (by decide); have q0 := hR.1.cell c1 (by omega); clear hF hpre hl hR; go_simp; exact ⟨_, rfl, hgoal _ _ (Below.refl _ _) rfl⟩
        | 8, ho =>
          simp at ho; subst ho; refine step_gd hF hR.2.1 HQ10 (j := 5) (b := true) rfl rfl (by kernel_rfl) (hpre ⟨5, .guard⟩ (by simp) rfl) rfl ?_; have e102 := hF.gv hR.2.1 HQ10 7 rfl (hpre ⟨7, .data⟩ (by simp) rfl) rfl; have hgoal := hR.go hSt (lt_of_block hb4) HQ10 8 rfl (by decide); clear hF hpre hl hR; go_simp; exact ⟨_, rfl, hgoal _ _ (Below.refl _ _) rfl⟩
        | 9, ho =>
          simp at ho; subst ho; refine step_plain rfl ?_; have e100 := hF.gv hR.2.1 HQ10 5 rfl (hpre ⟨5, .data⟩ (by simp) rfl) rfl; have e103 := hF.gv hR.2.1 HQ10 8 rfl (hpre ⟨8, .data⟩ (by simp) rfl) rfl; have hgoal := hR.go hSt (lt_of_block hb4) HQ10 9 rfl (by decide); clear hF hpre hl hR; go_simp; exact ⟨_, rfl, hgoal _ _ (Below.refl _ _) rfl⟩
        | 10, ho =>
          simp at ho; subst ho; refine step_plain rfl ?_; have e104 := hF.gv hR.2.1 HQ10 9 rfl (hpre ⟨9, .data⟩ (by simp) rfl) rfl; have hgoal := hR.go hSt (lt_of_block hb4) HQ10 10 rfl (by decide); clear hF hpre hl hR; go_simp; exact ⟨_, rfl, hgoal _ _ (Below.refl _ _) rfl⟩
        | 11, ho =>
          simp at ho; subst ho; refine step_sk hF hR.2.1 HQ10 (j := 10) (b := true) rfl rfl (by kernel_rfl) (hpre ⟨10, .guard⟩ (by simp) rfl) rfl (by simp) ?_
          exact ⟨fun _ _ => trivial, hR.go hSt (lt_of_block hb4) HQ10 11 rfl (by decide) _ _ (Below.refl _ _) rfl⟩
        | 12, ho =>
          simp at ho; subst ho; refine step_sk hF hR.2.1 HQ10 (j := 10) (b := true) rfl rfl (by kernel_rfl) (hpre ⟨10, .guard⟩ (by simp) rfl) rfl (by simp) ?_
          exact ⟨fun _ _ => trivial, hR.go hSt (lt_of_block hb4) HQ10 12 rfl (by decide) _ _ (Below.refl _ _) rfl⟩
        | 13, ho =>
          simp at ho; subst ho; refine step_sk hF hR.2.1 HQ10 (j := 10) (b := true) rfl rfl (by kernel_rfl) (hpre ⟨10, .guard⟩ (by simp) rfl) rfl (by simp) ?_
          exact ⟨fun _ _ => trivial, hR.go hSt (lt_of_block hb4) HQ10 13 rfl (by decide) _ _ (Below.refl _ _) rfl⟩
        | 14, ho =>
          simp at ho; subst ho; refine step_plain rfl ?_; have e105 := hF.gv hR.2.1 HQ10 10 rfl (hpre ⟨10, .data⟩ (by simp) rfl) rfl; have e108 := hF.gv hR.2.1 HQ10 13 rfl (hpre ⟨13, .data⟩ (by simp) rfl) rfl; have hgoal := hR.go hSt (lt_of_block hb4) HQ10 14 rfl (by decide); clear hF hpre hl hR; go_simp; exact ⟨_, rfl, hgoal _ _ (Below.refl _ _) rfl⟩
        | 15, ho =>
          simp at ho; subst ho; refine step_plain rfl ?_; have e109 := hF.gv hR.2.1 HQ10 14 rfl (hpre ⟨14, .data⟩ (by simp) rfl) rfl; have hgoal := hR.go hSt (lt_of_block hb4) HQ10 15 rfl (by decide); clear hF hpre hl hR; go_simp; exact ⟨_, rfl, hgoal _ _ (Below.refl _ _) rfl⟩
        | 16, ho =>
          simp at ho; subst ho; refine step_sk hF hR.2.1 HQ10 (j := 15) (b := true) rfl rfl (by kernel_rfl) (hpre ⟨15, .guard⟩ (by simp) rfl) rfl (by simp) ?_
          exact ⟨fun _ _ => trivial, hR.go hSt (lt_of_block hb4) HQ10 16 rfl (by decide) _ _ (Below.refl _ _) rfl⟩
        | 17, ho =>
          simp at ho; subst ho; refine step_plain rfl ?_; have e110 := hF.gv hR.2.1 HQ10 15 rfl (hpre ⟨15, .data⟩ (by simp) rfl) rfl; have e111 := hF.gv hR.2.1 HQ10 16 rfl (hpre ⟨16, .data⟩ (by simp) rfl) rfl; have hgoal := hR.go hSt (lt_of_block hb4) HQ10 17 rfl (by decide); clear hF hpre hl hR; go_simp; exact ⟨_, rfl, hgoal _ _ (Below.refl _ _) rfl⟩
        | 18, ho =>
          simp at ho; subst ho; refine step_plain rfl ?_; have e112 := hF.gv hR.2.1 HQ10 17 rfl (hpre ⟨17, .data⟩ (by simp) rfl) rfl; have hgoal := hR.go hSt (lt_of_block hb4) HQ10 18 rfl (by decide); clear hF hpre hl hR; go_simp; exact ⟨_, rfl, hgoal _ _ (Below.refl _ _) rfl⟩
        | 19, ho =>
          simp at ho; subst ho; refine step_sk hF hR.2.1 HQ10 (j := 18) (b := true) rfl rfl (by kernel_rfl) (hpre ⟨18, .guard⟩ (by simp) rfl) rfl (by simp) ?_
          exact ⟨fun _ _ => trivial, hR.go hSt (lt_of_block hb4) HQ10 19 rfl (by decide) _ _ (Below.refl _ _) rfl⟩
        | 20, ho =>
          simp at ho; subst ho; refine step_sk hF hR.2.1 HQ10 (j := 18) (b := true) rfl rfl (by kernel_rfl) (hpre ⟨18, .guard⟩ (by simp) rfl) rfl (by simp) ?_
          exact ⟨fun _ _ => trivial, hR.go hSt (lt_of_block hb4) HQ10 20 rfl (by decide) _ _ (Below.refl _ _) rfl⟩
        | 21, ho =>
          simp at ho; subst ho; refine step_sk hF hR.2.1 HQ10 (j := 18) (b := true) rfl rfl (by kernel_rfl) (hpre ⟨18, .guard⟩ (by simp) rfl) rfl (by simp) ?_
          exact ⟨fun _ _ => trivial, hR.go hSt (lt_of_block hb4) HQ10 21 rfl (by decide) _ _ (Below.refl _ _) rfl⟩
        | 22, ho =>
          simp at ho; subst ho; refine step_sk hF hR.2.1 HQ10 (j := 18) (b := true) rfl rfl (by kernel_rfl) (hpre ⟨18, .guard⟩ (by simp) rfl) rfl (by simp) ?_
          exact ⟨fun _ _ => trivial, hR.go hSt (lt_of_block hb4) HQ10 22 rfl (by decide) _ _ (Below.refl _ _) rfl⟩
        | 23, ho =>
          simp at ho; subst ho; refine step_sk hF hR.2.1 HQ10 (j := 18) (b := true) rfl rfl (by kernel_rfl) (hpre ⟨18, .guard⟩ (by simp) rfl) rfl (by simp) ?_
          exact ⟨fun _ _ => trivial, hR.go hSt (lt_of_block hb4) HQ10 23 rfl (by decide) _ _ (Below.refl _ _) rfl⟩
        | 24, ho =>
          simp at ho; subst ho; refine step_plain rfl ?_; have e113 := hF.gv hR.2.1 HQ10 18 rfl (hpre ⟨18, .data⟩ (by simp) rfl) rfl; have e118 := hF.gv hR.2.1 HQ10 23 rfl (hpre ⟨23, .data⟩ (by simp) rfl) rfl; have hgoal := hR.go hSt (lt_of_block hb4) HQ10 24 rfl (by decide); clear hF hpre hl hR; go_simp; exact ⟨_, rfl, hgoal _ _ (Below.refl _ _) rfl⟩
        | 25, ho =>
          simp at ho; subst ho; refine step_plain rfl ?_; have e119 := hF.gv hR.2.1 HQ10 24 rfl (hpre ⟨24, .data⟩ (by simp) rfl) rfl; have hgoal := hR.go hSt (lt_of_block hb4) HQ10 25 rfl (by decide); clear hF hpre hl hR; go_simp; exact ⟨_, rfl, hgoal _ _ (Below.refl _ _) rfl⟩
        | 26, ho =>
          simp at ho; subst ho; refine step_sk hF hR.2.1 HQ10 (j := 25) (b := true) rfl rfl (by kernel_rfl) (hpre ⟨25, .guard⟩ (by simp) rfl) rfl (by simp) ?_
          exact ⟨fun _ _ => trivial, hR.go hSt (lt_of_block hb4) HQ10 26 rfl (by decide) _ _ (Below.refl _ _) rfl⟩
        | 27, ho =>
          simp at ho; subst ho; refine step_sk hF hR.2.1 HQ10 (j := 25) (b := true) rfl rfl (by kernel_rfl) (hpre ⟨25, .guard⟩ (by simp) rfl) rfl (by simp) ?_
          exact ⟨fun _ _ => trivial, hR.go hSt (lt_of_block hb4) HQ10 27 rfl (by decide) _ _ (Below.refl _ _) rfl⟩
        | 28, ho =>
          simp at ho; subst ho; refine step_sk hF hR.2.1 HQ10 (j := 25) (b := true) rfl rfl (by kernel_rfl) (hpre ⟨25, .guard⟩ (by simp) rfl) rfl (by simp) ?_
          exact ⟨fun _ _ => trivial, hR.go hSt (lt_of_block hb4) HQ10 28 rfl (by decide) _ _ (Below.refl _ _) rfl⟩
        | 29, ho =>
          simp at ho; subst ho; refine step_sk hF hR.2.1 HQ10 (j := 25) (b := true) rfl rfl (by kernel_rfl) (hpre ⟨25, .guard⟩ (by simp) rfl) rfl (by simp) ?_
          exact ⟨fun _ _ => trivial, hR.go hSt (lt_of_block hb4) HQ10 29 rfl (by decide) _ _ (Below.refl _ _) rfl⟩
        | 30, ho =>
          simp at ho; subst ho; refine step_sk hF hR.2.1 HQ10 (j := 25) (b := true) rfl rfl (by kernel_rfl) (hpre ⟨25, .guard⟩ (by simp) rfl) rfl (by simp) ?_
          exact ⟨fun _ _ => trivial, hR.go hSt (lt_of_block hb4) HQ10 30 rfl (by decide) _ _ (Below.refl _ _) rfl⟩
        | 31, ho =>
          simp at ho; subst ho; refine step_sk hF hR.2.1 HQ10 (j := 25) (b := true) rfl rfl (by kernel_rfl) (hpre ⟨25, .guard⟩ (by simp) rfl) rfl (by simp) ?_
          exact ⟨fun _ _ => trivial, hR.go hSt (lt_of_block hb4) HQ10 31 rfl (by decide) _ _ (Below.refl _ _) rfl⟩
        | 32, ho =>
          simp at ho; subst ho; refine step_sk hF hR.2.1 HQ10 (j := 25) (b := true) rfl rfl (by kernel_rfl) (hpre ⟨25, .guard⟩ (by simp) rfl) rfl (by simp) ?_
          exact ⟨fun _ _ => trivial, hR.go hSt (lt_of_block hb4) HQ10 32 rfl (by decide) _ _ (Below.refl _ _) rfl⟩
        | 33, ho =>
          simp at ho; subst ho; refine step_plain rfl ?_; have e120 := hF.gv hR.2.1 HQ10 25 rfl (hpre ⟨25, .data⟩ (by simp) rfl) rfl; have e127 := hF.gv hR.2.1 HQ10 32 rfl (hpre ⟨32, .data⟩ (by simp) rfl) rfl; have hgoal := hR.go hSt (lt_of_block hb4) HQ10 33 rfl (by decide); clear hF hpre hl hR; go_simp; exact ⟨_, rfl, hgoal _ _ (Below.refl _ _) rfl⟩
        | 34, ho =>
          simp at ho; subst ho; refine step_plain rfl ?_; have e10 := hF.was 10 (by kernel_rfl) rfl; have e95 := hF.gv hR.2.1 HQ10 0 rfl (hpre ⟨0, .data⟩ (by simp) rfl) rfl; have hN := hF.none2 hl (by decide)
          have hls : 34 < L.size := by rw [hF.lsize]; decide
          have qb := (hR.2.2.2 hN).trans hb4
          have g0 := cellOf (o := 0) qb rfl; have f0 := freeOf (o := 0) qb; have g1 := cellOf (o := 1) qb rfl; have f1 := freeOf (o := 1) qb; have g2 := cellOf (o := 2) qb rfl; have f2 := freeOf (o := 2) qb; have g3 := cellOf (o := 3) qb rfl; have f3 := freeOf (o := 3) qb; have g4 := cellOf (o := 4) qb rfl; have f4 := freeOf (o := 4) qb; have hgoal := RK.store (v := undef) hR hSt hls ((((((Kept.refl (w.heap.size + 1 + 1 + 1 + 1) x).setCell 0 (.int .i64 len)).setCell 1 (.int .i64 n)).setCell 2 (.int .i64 (since + 1))).setCell 3 (.int .i64 cyc)).setCell 4 (.bool false)) ((block_setCell (o := 4) (.bool false) (block_setCell (o := 3) (.int .i64 cyc) (block_setCell (o := 2) (.int .i64 (since + 1)) (block_setCell (o := 1) (.int .i64 n) (block_setCell (o := 0) (.int .i64 len) qb))))).trans (by rfl)) (QG.none HQ10 34 rfl (fun _ _ => trivial) _ _)
          have hq := lt_of_block qb
          have HG := Lib.hid hgoal
          clear hF hpre hl hR hls hN qb hgoal; go_simp
          exact ⟨undef, HG.out⟩
        | 35, ho =>
          simp at ho; subst ho; refine step_plain rfl ?_; have e96 := hF.gv hR.2.1 HQ10 1 rfl (hpre ⟨1, .data⟩ (by simp) rfl) rfl; have hgoal := hR.go hSt (lt_of_block hb4) HQ10 35 rfl (by decide); clear hF hpre hl hR; go_simp; exact ⟨_, rfl, hgoal _ _ (Below.refl _ _) rfl⟩
        | 36, ho =>
          simp at ho; subst ho; refine step_plain rfl ?_; have e128 := hF.gv hR.2.1 HQ10 33 rfl (hpre ⟨33, .data⟩ (by simp) rfl) rfl; have hgoal := hR.go hSt (lt_of_block hb4) HQ10 36 rfl (by decide); clear hF hpre hl hR; go_simp; exact ⟨_, rfl, hgoal _ _ (Below.refl _ _) rfl⟩
        | i + 37, ho => simp at ho
      case hend10 =>
        intro val L b' x hF hall hR
        have e := hF.all (by kernel_rfl) hall
        have k1035 := QG.val HQ10 rfl (hR.2.1 35 (hall 35 (by decide)))
        have k1036 := QG.val HQ10 rfl (hR.2.1 36 (hall 36 (by decide)))
        have bk10 := hR.2.2.1 (hall 34 (by decide))
        have hK10 := Lib.hid hR.1
        clear hF hall hR hSt HQ10
        subst e
        simp [final, dstOf, List.range, List.range.loop]
        rw [k1035]
        rw [k1036]
        have HQ := Lib.hid (HB6.out.trans (hK10.out.low (by omega)))
        go_wp2
        have d0 := cellOf (o := 0) bk10 rfl
        have d1 := cellOf (o := 1) bk10 rfl
        have d2 := cellOf (o := 2) bk10 rfl
        have d3 := cellOf (o := 3) bk10 rfl
        have d4 := cellOf (o := 4) bk10 rfl
        exact bodyPost_ret (v := .tuple #[.agg #[.int .i64 (len), .int .i64 (n), .int .i64 (since + 1), .int .i64 (cyc), .bool false], .bool true, .bool (false)]) (by simp [results, Try.results81, go_sem, d0, d1, d2, d3, d4]) rfl ⟨rfl, HQ.out⟩
  · rw [show posB (fun l u => carB X Y V l l y1 y2 u) cable charge ⟨len, wt, since, cyc, false, true⟩ 4 n = false by unfold posB; simp [show ¬ (1 ≤ n ∧ n ≤ 100000) from g1]]
    have H1 := Lib.hid (w7_no (a := n) (b := 1) (c := 100000) g1)
    go_enter Try.func81, Try.ntmps81
    go_upto_region 21 with (fail)
    have S6 := Lib.hid (st_next _ _ _ _ _ _ _ _ _ _ _ _ _ _ _ _ _ _ _ _ _ S5.out (.cells #[.int .i64 (len), .int .i64 (n), .int .i64 (since + 1), .int .i64 (cyc), .bool false] 61))
    clear S5
    generalize World.alloc _ _ = w6 at *
    have HB6 := Lib.hid S6.out.hb
    have hb4 := S6.out.b4
    have hs6 := S6.out.sz
    have x0 := cellOf (o := 0) S6.out.b0 rfl
    have c0 := cellOf (o := 0) S6.out.b2 rfl
    have m0 := cellOf (o := 0) S6.out.b5 rfl
    have x1 := cellOf (o := 1) S6.out.b0 rfl
    have c1 := cellOf (o := 1) S6.out.b2 rfl
    have m1 := cellOf (o := 1) S6.out.b5 rfl
    have x2 := cellOf (o := 2) S6.out.b0 rfl
    have c2 := cellOf (o := 2) S6.out.b2 rfl
    have m2 := cellOf (o := 2) S6.out.b5 rfl
    have x3 := cellOf (o := 3) S6.out.b0 rfl
    have c3 := cellOf (o := 3) S6.out.b2 rfl
    have m3 := cellOf (o := 3) S6.out.b5 rfl
    have x4 := cellOf (o := 4) S6.out.b0 rfl
    have c4 := cellOf (o := 4) S6.out.b2 rfl
    have m4 := cellOf (o := 4) S6.out.b5 rfl
    have p0 := cellOf (o := 0) S6.out.b1 rfl
    have l0 := cellOf (o := 0) S6.out.b3 rfl
    have p1 := cellOf (o := 1) S6.out.b1 rfl
    have l1 := cellOf (o := 1) S6.out.b3 rfl
    clear S6
    obtain ⟨Q11, hQ11⟩ : ∃ q9 : Nat → Value → World → Prop, q9 = QG [some (.agg #[.int .i64 len, .int .i64 n, .int .i64 (since + 1), .int .i64 cyc, .bool false]), some (.bool true), some (.pointer (some ⟨w.heap.size + 1 + 1 + 1, 1, none⟩)), some (.int .i64 n), some (.bool false), some (.bool false), some (undef), some (undef), some (undef), some (.bool false), some (.bool false), some (undef), some (undef), some (undef), some (.bool false), some (.bool false), some (undef), some (.bool false), some (.bool false), some (undef), some (undef), some (undef), some (undef), some (undef), some (.bool false), some (.bool false), some (undef), some (undef), some (undef), some (undef), some (undef), some (undef), some (undef), some (.bool false), none, some (.bool true), some (.bool false)] (fun _ _ _ => True) := ⟨_, rfl⟩
    have hSt : Still Q11 := by rw [hQ11]; exact QG.still
    have HQ11 := Lib.hid hQ11
    clear hQ11
    refine wpIn_wide.1 (region_inv2 (n := 9) (by kernel_rfl) (RK Q11 w6 34 (w.heap.size + 1 + 1 + 1 + 1) (.cells #[.int .i64 len, .int .i64 n, .int .i64 (since + 1), .int .i64 cyc, .bool false] 61 (0, 0))) (by kernel_rfl) rfl (RK.start _ _ _ _ _ _) ?hstep11 ?hend11)
    case hstep11 =>
      intro i' o ho val L b' x hF hR hpre hl
      match i', ho with
      | 0, ho =>
        simp at ho; subst ho; refine step_plain rfl ?_; have e13 := hF.was 13 (by kernel_rfl) rfl; have hgoal := hR.go hSt (lt_of_block hb4) HQ11 0 rfl (by decide); have q0 := hR.1.cell m0 (by omega); have q1 := hR.1.cell m1 (by omega); have q2 := hR.1.cell m2 (by omega); have q3 := hR.1.cell m3 (by omega); have q4 := hR.1.cell m4 (by omega); clear hF hpre hl hR; go_simp; exact ⟨_, rfl, hgoal _ _ (Below.refl _ _) rfl⟩
      | 1, ho =>
        simp at ho; subst ho; refine step_plain rfl ?_; have e3 := hF.was 3 (by kernel_rfl) rfl; have hgoal := hR.go hSt (lt_of_block hb4) HQ11 1 rfl (by decide); clear hF hpre hl hR; go_simp; exact ⟨_, rfl, hgoal _ _ (Below.refl _ _) rfl⟩
      | 2, ho =>
        simp at ho; subst ho; refine step_plain rfl ?_; have e9 := hF.was 9 (by kernel_rfl) rfl; have hgoal := hR.go hSt (lt_of_block hb4) HQ11 2 rfl (by decide); clear hF hpre hl hR; go_simp; exact ⟨_, rfl, hgoal _ _ (Below.refl _ _) rfl⟩
      | 3, ho =>
        simp at ho; subst ho; refine step_plain rfl ?_; have e97 := hF.gv hR.2.1 HQ11 2 rfl (hpre ⟨2, .data⟩ (by simp) rfl) rfl; have hgoal := hR.go hSt (lt_of_block hb4) HQ11 3 rfl (by decide); have q0 := hR.1.cell l1 (by omega); clear hF hpre hl hR; go_simp; exact ⟨_, rfl, hgoal _ _ (Below.refl _ _) rfl⟩
      | 4, ho =>
        simp at ho; subst ho; refine step_plain rfl ?_; have e98 := hF.gv hR.2.1 HQ11 3 rfl (hpre ⟨3, .data⟩ (by simp) rfl) rfl; have hgoal := hR.go hSt (lt_of_block hb4) HQ11 4 rfl (by decide)
        have hM := Lib.hid hR.1
        clear hF hpre hl hR; go_simp
        refine ⟨trivial, ?_⟩
        refine CallsIn.mono (callsIn_wide.2 (H1.out _)) ?_
        rintro e w9 ⟨rfl, rfl⟩
        exact ⟨_, rfl, hgoal _ _ (Below.refl _ _) rfl⟩
      | 5, ho =>
        simp at ho; subst ho; refine step_plain rfl ?_; have e99 := hF.gv hR.2.1 HQ11 4 rfl (hpre ⟨4, .data⟩ (by simp) rfl) rfl; have hgoal := hR.go hSt (lt_of_block hb4) HQ11 5 rfl (by decide); clear hF hpre hl hR; go_simp; exact ⟨_, rfl, hgoal _ _ (Below.refl _ _) rfl⟩
      | 6, ho =>
        simp at ho; subst ho; refine step_sk hF hR.2.1 HQ11 (j := 5) (b := true) rfl rfl (by kernel_rfl) (hpre ⟨5, .guard⟩ (by simp) rfl) rfl (by simp) ?_
        exact ⟨fun _ _ => trivial, hR.go hSt (lt_of_block hb4) HQ11 6 rfl (by decide) _ _ (Below.refl _ _) rfl⟩
      | 7, ho =>
        simp at ho; subst ho; refine step_sk hF hR.2.1 HQ11 (j := 5) (b := true) rfl rfl (by kernel_rfl) (hpre ⟨5, .guard⟩ (by simp) rfl) rfl (by simp) ?_
        exact ⟨fun _ _ => trivial, hR.go hSt (lt_of_block hb4) HQ11 7 rfl (by decide) _ _ (Below.refl _ _) rfl⟩
      | 8, ho =>
        simp at ho; subst ho; refine step_sk hF hR.2.1 HQ11 (j := 5) (b := true) rfl rfl (by kernel_rfl) (hpre ⟨5, .guard⟩ (by simp) rfl) rfl (by simp) ?_
        exact ⟨fun _ _ => trivial, hR.go hSt (lt_of_block hb4) HQ11 8 rfl (by decide) _ _ (Below.refl _ _) rfl⟩
      | 9, ho =>
        simp at ho; subst ho; refine step_plain rfl ?_; have e100 := hF.gv hR.2.1 HQ11 5 rfl (hpre ⟨5, .data⟩ (by simp) rfl) rfl; have e103 := hF.gv hR.2.1 HQ11 8 rfl (hpre ⟨8, .data⟩ (by simp) rfl) rfl; have hgoal := hR.go hSt (lt_of_block hb4) HQ11 9 rfl (by decide); clear hF hpre hl hR; go_simp; exact ⟨_, rfl, hgoal _ _ (Below.refl _ _) rfl⟩
      | 10, ho =>
        simp at ho; subst ho; refine step_plain rfl ?_; have e104 := hF.gv hR.2.1 HQ11 9 rfl (hpre ⟨9, .data⟩ (by simp) rfl) rfl; have hgoal := hR.go hSt (lt_of_block hb4) HQ11 10 rfl (by decide); clear hF hpre hl hR; go_simp; exact ⟨_, rfl, hgoal _ _ (Below.refl _ _) rfl⟩
      | 11, ho =>
        simp at ho; subst ho; refine step_sk hF hR.2.1 HQ11 (j := 10) (b := true) rfl rfl (by kernel_rfl) (hpre ⟨10, .guard⟩ (by simp) rfl) rfl (by simp) ?_
        exact ⟨fun _ _ => trivial, hR.go hSt (lt_of_block hb4) HQ11 11 rfl (by decide) _ _ (Below.refl _ _) rfl⟩
      | 12, ho =>
        simp at ho; subst ho; refine step_sk hF hR.2.1 HQ11 (j := 10) (b := true) rfl rfl (by kernel_rfl) (hpre ⟨10, .guard⟩ (by simp) rfl) rfl (by simp) ?_
        exact ⟨fun _ _ => trivial, hR.go hSt (lt_of_block hb4) HQ11 12 rfl (by decide) _ _ (Below.refl _ _) rfl⟩
      | 13, ho =>
        simp at ho; subst ho; refine step_sk hF hR.2.1 HQ11 (j := 10) (b := true) rfl rfl (by kernel_rfl) (hpre ⟨10, .guard⟩ (by simp) rfl) rfl (by simp) ?_
        exact ⟨fun _ _ => trivial, hR.go hSt (lt_of_block hb4) HQ11 13 rfl (by decide) _ _ (Below.refl _ _) rfl⟩
      | 14, ho =>
        simp at ho; subst ho; refine step_plain rfl ?_; have e105 := hF.gv hR.2.1 HQ11 10 rfl (hpre ⟨10, .data⟩ (by simp) rfl) rfl; have e108 := hF.gv hR.2.1 HQ11 13 rfl (hpre ⟨13, .data⟩ (by simp) rfl) rfl; have hgoal := hR.go hSt (lt_of_block hb4) HQ11 14 rfl (by decide); clear hF hpre hl hR; go_simp; exact ⟨_, rfl, hgoal _ _ (Below.refl _ _) rfl⟩
      | 15, ho =>
        simp at ho; subst ho; refine step_plain rfl ?_; have e109 := hF.gv hR.2.1 HQ11 14 rfl (hpre ⟨14, .data⟩ (by simp) rfl) rfl; have hgoal := hR.go hSt (lt_of_block hb4) HQ11 15 rfl (by decide); clear hF hpre hl hR; go_simp; exact ⟨_, rfl, hgoal _ _ (Below.refl _ _) rfl⟩
      | 16, ho =>
        simp at ho; subst ho; refine step_sk hF hR.2.1 HQ11 (j := 15) (b := true) rfl rfl (by kernel_rfl) (hpre ⟨15, .guard⟩ (by simp) rfl) rfl (by simp) ?_
        exact ⟨fun _ _ => trivial, hR.go hSt (lt_of_block hb4) HQ11 16 rfl (by decide) _ _ (Below.refl _ _) rfl⟩
      | 17, ho =>
        simp at ho; subst ho; refine step_plain rfl ?_; have e110 := hF.gv hR.2.1 HQ11 15 rfl (hpre ⟨15, .data⟩ (by simp) rfl) rfl; have e111 := hF.gv hR.2.1 HQ11 16 rfl (hpre ⟨16, .data⟩ (by simp) rfl) rfl; have hgoal := hR.go hSt (lt_of_block hb4) HQ11 17 rfl (by decide); clear hF hpre hl hR; go_simp; exact ⟨_, rfl, hgoal _ _ (Below.refl _ _) rfl⟩
      | 18, ho =>
        simp at ho; subst ho; refine step_plain rfl ?_; have e112 := hF.gv hR.2.1 HQ11 17 rfl (hpre ⟨17, .data⟩ (by simp) rfl) rfl; have hgoal := hR.go hSt (lt_of_block hb4) HQ11 18 rfl (by decide); clear hF hpre hl hR; go_simp; exact ⟨_, rfl, hgoal _ _ (Below.refl _ _) rfl⟩
      | 19, ho =>
        simp at ho; subst ho; refine step_sk hF hR.2.1 HQ11 (j := 18) (b := true) rfl rfl (by kernel_rfl) (hpre ⟨18, .guard⟩ (by simp) rfl) rfl (by simp) ?_
        exact ⟨fun _ _ => trivial, hR.go hSt (lt_of_block hb4) HQ11 19 rfl (by decide) _ _ (Below.refl _ _) rfl⟩
      | 20, ho =>
        simp at ho; subst ho; refine step_sk hF hR.2.1 HQ11 (j := 18) (b := true) rfl rfl (by kernel_rfl) (hpre ⟨18, .guard⟩ (by simp) rfl) rfl (by simp) ?_
        exact ⟨fun _ _ => trivial, hR.go hSt (lt_of_block hb4) HQ11 20 rfl (by decide) _ _ (Below.refl _ _) rfl⟩
      | 21, ho =>
        simp at ho; subst ho; refine step_sk hF hR.2.1 HQ11 (j := 18) (b := true) rfl rfl (by kernel_rfl) (hpre ⟨18, .guard⟩ (by simp) rfl) rfl (by simp) ?_
        exact ⟨fun _ _ => trivial, hR.go hSt (lt_of_block hb4) HQ11 21 rfl (by decide) _ _ (Below.refl _ _) rfl⟩
      | 22, ho =>
        simp at ho; subst ho; refine step_sk hF hR.2.1 HQ11 (j := 18) (b := true) rfl rfl (by kernel_rfl) (hpre ⟨18, .guard⟩ (by simp) rfl) rfl (by simp) ?_
        exact ⟨fun _ _ => trivial, hR.go hSt (lt_of_block hb4) HQ11 22 rfl (by decide) _ _ (Below.refl _ _) rfl⟩
      | 23, ho =>
        simp at ho; subst ho; refine step_sk hF hR.2.1 HQ11 (j := 18) (b := true) rfl rfl (by kernel_rfl) (hpre ⟨18, .guard⟩ (by simp) rfl) rfl (by simp) ?_
        exact ⟨fun _ _ => trivial, hR.go hSt (lt_of_block hb4) HQ11 23 rfl (by decide) _ _ (Below.refl _ _) rfl⟩
      | 24, ho =>
        simp at ho; subst ho; refine step_plain rfl ?_; have e113 := hF.gv hR.2.1 HQ11 18 rfl (hpre ⟨18, .data⟩ (by simp) rfl) rfl; have e118 := hF.gv hR.2.1 HQ11 23 rfl (hpre ⟨23, .data⟩ (by simp) rfl) rfl; have hgoal := hR.go hSt (lt_of_block hb4) HQ11 24 rfl (by decide); clear hF hpre hl hR; go_simp; exact ⟨_, rfl, hgoal _ _ (Below.refl _ _) rfl⟩
      | 25, ho =>
        simp at ho; subst ho; refine step_plain rfl ?_; have e119 := hF.gv hR.2.1 HQ11 24 rfl (hpre ⟨24, .data⟩ (by simp) rfl) rfl; have hgoal := hR.go hSt (lt_of_block hb4) HQ11 25 rfl (by decide); clear hF hpre hl hR; go_simp; exact ⟨_, rfl, hgoal _ _ (Below.refl _ _) rfl⟩
      | 26, ho =>
        simp at ho; subst ho; refine step_sk hF hR.2.1 HQ11 (j := 25) (b := true) rfl rfl (by kernel_rfl) (hpre ⟨25, .guard⟩ (by simp) rfl) rfl (by simp) ?_
        exact ⟨fun _ _ => trivial, hR.go hSt (lt_of_block hb4) HQ11 26 rfl (by decide) _ _ (Below.refl _ _) rfl⟩
      | 27, ho =>
        simp at ho; subst ho; refine step_sk hF hR.2.1 HQ11 (j := 25) (b := true) rfl rfl (by kernel_rfl) (hpre ⟨25, .guard⟩ (by simp) rfl) rfl (by simp) ?_
        exact ⟨fun _ _ => trivial, hR.go hSt (lt_of_block hb4) HQ11 27 rfl (by decide) _ _ (Below.refl _ _) rfl⟩
      | 28, ho =>
        simp at ho; subst ho; refine step_sk hF hR.2.1 HQ11 (j := 25) (b := true) rfl rfl (by kernel_rfl) (hpre ⟨25, .guard⟩ (by simp) rfl) rfl (by simp) ?_
        exact ⟨fun _ _ => trivial, hR.go hSt (lt_of_block hb4) HQ11 28 rfl (by decide) _ _ (Below.refl _ _) rfl⟩
      | 29, ho =>
        simp at ho; subst ho; refine step_sk hF hR.2.1 HQ11 (j := 25) (b := true) rfl rfl (by kernel_rfl) (hpre ⟨25, .guard⟩ (by simp) rfl) rfl (by simp) ?_
        exact ⟨fun _ _ => trivial, hR.go hSt (lt_of_block hb4) HQ11 29 rfl (by decide) _ _ (Below.refl _ _) rfl⟩
      | 30, ho =>
        simp at ho; subst ho; refine step_sk hF hR.2.1 HQ11 (j := 25) (b := true) rfl rfl (by kernel_rfl) (hpre ⟨25, .guard⟩ (by simp) rfl) rfl (by simp) ?_
        exact ⟨fun _ _ => trivial, hR.go hSt (lt_of_block hb4) HQ11 30 rfl (by decide) _ _ (Below.refl _ _) rfl⟩
      | 31, ho =>
        simp at ho; subst ho; refine step_sk hF hR.2.1 HQ11 (j := 25) (b := true) rfl rfl (by kernel_rfl) (hpre ⟨25, .guard⟩ (by simp) rfl) rfl (by simp) ?_
        exact ⟨fun _ _ => trivial, hR.go hSt (lt_of_block hb4) HQ11 31 rfl (by decide) _ _ (Below.refl _ _) rfl⟩
      | 32, ho =>
        simp at ho; subst ho; refine step_sk hF hR.2.1 HQ11 (j := 25) (b := true) rfl rfl (by kernel_rfl) (hpre ⟨25, .guard⟩ (by simp) rfl) rfl (by simp) ?_
        exact ⟨fun _ _ => trivial, hR.go hSt (lt_of_block hb4) HQ11 32 rfl (by decide) _ _ (Below.refl _ _) rfl⟩
      | 33, ho =>
        simp at ho; subst ho; refine step_plain rfl ?_; have e120 := hF.gv hR.2.1 HQ11 25 rfl (hpre ⟨25, .data⟩ (by simp) rfl) rfl; have e127 := hF.gv hR.2.1 HQ11 32 rfl (hpre ⟨32, .data⟩ (by simp) rfl) rfl; have hgoal := hR.go hSt (lt_of_block hb4) HQ11 33 rfl (by decide); clear hF hpre hl hR; go_simp; exact ⟨_, rfl, hgoal _ _ (Below.refl _ _) rfl⟩
      | 34, ho =>
        simp at ho; subst ho; refine step_plain rfl ?_; have e10 := hF.was 10 (by kernel_rfl) rfl; have e95 := hF.gv hR.2.1 HQ11 0 rfl (hpre ⟨0, .data⟩ (by simp) rfl) rfl; have hN := hF.none2 hl (by decide)
        have hls : 34 < L.size := by rw [hF.lsize]; decide
        have qb := (hR.2.2.2 hN).trans hb4
        have g0 := cellOf (o := 0) qb rfl; have f0 := freeOf (o := 0) qb; have g1 := cellOf (o := 1) qb rfl; have f1 := freeOf (o := 1) qb; have g2 := cellOf (o := 2) qb rfl; have f2 := freeOf (o := 2) qb; have g3 := cellOf (o := 3) qb rfl; have f3 := freeOf (o := 3) qb; have g4 := cellOf (o := 4) qb rfl; have f4 := freeOf (o := 4) qb; have hgoal := RK.store (v := undef) hR hSt hls ((((((Kept.refl (w.heap.size + 1 + 1 + 1 + 1) x).setCell 0 (.int .i64 len)).setCell 1 (.int .i64 n)).setCell 2 (.int .i64 (since + 1))).setCell 3 (.int .i64 cyc)).setCell 4 (.bool false)) ((block_setCell (o := 4) (.bool false) (block_setCell (o := 3) (.int .i64 cyc) (block_setCell (o := 2) (.int .i64 (since + 1)) (block_setCell (o := 1) (.int .i64 n) (block_setCell (o := 0) (.int .i64 len) qb))))).trans (by rfl)) (QG.none HQ11 34 rfl (fun _ _ => trivial) _ _)
        have hq := lt_of_block qb
        have HG := Lib.hid hgoal
        clear hF hpre hl hR hls hN qb hgoal; go_simp
        exact ⟨undef, HG.out⟩
      | 35, ho =>
        simp at ho; subst ho; refine step_plain rfl ?_; have e96 := hF.gv hR.2.1 HQ11 1 rfl (hpre ⟨1, .data⟩ (by simp) rfl) rfl; have hgoal := hR.go hSt (lt_of_block hb4) HQ11 35 rfl (by decide); clear hF hpre hl hR; go_simp; exact ⟨_, rfl, hgoal _ _ (Below.refl _ _) rfl⟩
      | 36, ho =>
        simp at ho; subst ho; refine step_plain rfl ?_; have e128 := hF.gv hR.2.1 HQ11 33 rfl (hpre ⟨33, .data⟩ (by simp) rfl) rfl; have hgoal := hR.go hSt (lt_of_block hb4) HQ11 36 rfl (by decide); clear hF hpre hl hR; go_simp; exact ⟨_, rfl, hgoal _ _ (Below.refl _ _) rfl⟩
      | i + 37, ho => simp at ho
    case hend11 =>
      intro val L b' x hF hall hR
      have e := hF.all (by kernel_rfl) hall
      have k1135 := QG.val HQ11 rfl (hR.2.1 35 (hall 35 (by decide)))
      have k1136 := QG.val HQ11 rfl (hR.2.1 36 (hall 36 (by decide)))
      have bk11 := hR.2.2.1 (hall 34 (by decide))
      have hK11 := Lib.hid hR.1
      clear hF hall hR hSt HQ11
      subst e
      simp [final, dstOf, List.range, List.range.loop]
      rw [k1135]
      rw [k1136]
      have HQ := Lib.hid (HB6.out.trans (hK11.out.low (by omega)))
      go_wp2
      have d0 := cellOf (o := 0) bk11 rfl
      have d1 := cellOf (o := 1) bk11 rfl
      have d2 := cellOf (o := 2) bk11 rfl
      have d3 := cellOf (o := 3) bk11 rfl
      have d4 := cellOf (o := 4) bk11 rfl
      exact bodyPost_ret (v := .tuple #[.agg #[.int .i64 (len), .int .i64 (n), .int .i64 (since + 1), .int .i64 (cyc), .bool false], .bool true, .bool (false)]) (by simp [results, Try.results81, go_sem, d0, d1, d2, d3, d4]) rfl ⟨rfl, HQ.out⟩

end
end Go.Proofs.Ytnnmmojlgikdgaa

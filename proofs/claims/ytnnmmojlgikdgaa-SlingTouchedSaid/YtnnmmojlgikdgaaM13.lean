/- Contracts of the functions that the statement reaches: JStep6, JStep, JRhaul1, JHaul1, JHaul2. -/
import Derived.Test.YtnnmmojlgikdgaaM10
import Derived.Test.YtnnmmojlgikdgaaM11
import Derived.Test.YtnnmmojlgikdgaaM12
import Derived.Test.YtnnmmojlgikdgaaM7

/- The reference's Step: step 4. -/
namespace Go.Proofs.Ytnnmmojlgikdgaa
open Go.RowKit

section
variable (cable charge y1 y2 len wt since cyc : Int) (cut tch : Bool) (k n : Int) (AX AY AV : Option Addr) (nx cx ny cy nv cv B : Nat) (X Y : List Int) (V : List (List Int)) (w : World)

set_option maxRecDepth 100000 in
set_option maxHeartbeats 4000000 in
theorem step4_false (h : HT w B AX AY AV nx ny nv X Y V) (_z0 : 0 ≤ len) (_z1 : len ≤ cable) (_z2 : cable ≤ 100) (w0 : 0 ≤ wt) (s0 : 0 ≤ since) (s1 : since ≤ 1000) (q0 : 0 ≤ cyc) (q1 : cyc ≤ 1000) :
    Calls Try.prog 81 #[.agg #[.int .i64 cable, .slice AX nx cx, .slice AY ny cy, .slice AV nv cv, .int .i64 charge], .agg #[.int .i64 y1, .int .i64 y2], .agg #[.int .i64 len, .int .i64 wt, .int .i64 since, .int .i64 cyc, .bool false], .bool false, .agg #[.int .i64 4, .int .i64 n]] w (GivesT w (posB (fun l u => carB X Y V l l y1 y2 u) cable charge ⟨len, wt, since, cyc, false, false⟩ 4 n) (⟨len, n, since + 1, cyc, false, false⟩)) := by
  have S5 := Lib.hid (st_new cable charge y1 y2 len wt since cyc false 4 n AX AY AV nx cx ny cy nv cv w)
  have i7 : IntKind.i64.wrap (since + 1) = since + 1 := IntWalk.i64_in _ (by omega)
  have i8 : IntKind.i64.wrap (cyc + 1) = cyc + 1 := IntWalk.i64_in _ (by omega)
  have HBE := Lib.hid (fun (W : World) (hW : Below w.heap.size w W) => bears_any cable charge y1 y2 len n AX AY AV nx cx ny cy nv cv B X Y V W (h.below hW))
  clear h
  by_cases g1 : 1 ≤ n ∧ n ≤ 100000
  · by_cases g2 : wt = 0
    · subst g2
      by_cases g3 : 0 < len
      · rw [show posB (fun l u => carB X Y V l l y1 y2 u) cable charge ⟨len, 0, since, cyc, false, false⟩ 4 n = false by unfold posB; simp [g1, g3]]
        have H1 := Lib.hid (w7_yes (a := n) (b := 1) (c := 100000) g1.1 g1.2)
        go_enter Try.func81, Try.ntmps81
        go_upto_region 21 with (fail)
        have S6 := Lib.hid (st_next _ _ _ _ _ _ _ _ _ _ _ _ _ _ _ _ _ _ _ _ _ S5.out (.cells #[.int .i64 (len), .int .i64 (n), .int .i64 (since + 1), .int .i64 (cyc), .bool false] 61))
        clear S5
        generalize World.alloc _ _ = w6 at *
        have HB6 := Lib.hid S6.out.hb
        have hb4 := S6.out.b4
        have hs6 := S6.out.sz
        have x0 := cellOf (o := 0) S6.out.b0 rfl
        have c0 := cellOf (o := 0) S6.out.b2 rfl
        have m0 := cellOf (o := 0) S6.out.b5 rfl
        have x1 := cellOf (o := 1) S6.out.b0 rfl
        have c1 := cellOf (o := 1) S6.out.b2 rfl
        have m1 := cellOf (o := 1) S6.out.b5 rfl
        have x2 := cellOf (o := 2) S6.out.b0 rfl
        have c2 := cellOf (o := 2) S6.out.b2 rfl
        have m2 := cellOf (o := 2) S6.out.b5 rfl
        have x3 := cellOf (o := 3) S6.out.b0 rfl
        have c3 := cellOf (o := 3) S6.out.b2 rfl
        have m3 := cellOf (o := 3) S6.out.b5 rfl
        have x4 := cellOf (o := 4) S6.out.b0 rfl
        have c4 := cellOf (o := 4) S6.out.b2 rfl
        have m4 := cellOf (o := 4) S6.out.b5 rfl
        have p0 := cellOf (o := 0) S6.out.b1 rfl
        have l0 := cellOf (o := 0) S6.out.b3 rfl
        have p1 := cellOf (o := 1) S6.out.b1 rfl
        have l1 := cellOf (o := 1) S6.out.b3 rfl
        clear S6
        obtain ⟨Q12, hQ12⟩ : ∃ q9 : Nat → Value → World → Prop, q9 = QG [some (.agg #[.int .i64 len, .int .i64 n, .int .i64 (since + 1), .int .i64 cyc, .bool false]), some (.bool false), some (.pointer (some ⟨w.heap.size + 1 + 1 + 1, 1, none⟩)), some (.int .i64 n), some (.bool true), some (.bool true), some (.pointer (some ⟨w.heap.size + 1 + 1, 1, none⟩)), some (.int .i64 0), some (.bool true), some (.bool true), some (.bool true), some (.pointer (some ⟨w.heap.size + 1 + 1, 0, none⟩)), some (.int .i64 len), some (.bool true), some (.bool true), some (.bool true), some (.bool false), some (.bool false), some (.bool false), some (undef), some (undef), some (undef), some (undef), some (undef), some (.bool false), some (.bool false), some (undef), some (undef), some (undef), some (undef), some (undef), some (undef), some (undef), some (.bool false), none, some (.bool false), some (.bool false)] (fun _ _ _ => True) := ⟨_, rfl⟩
        have hSt : Still Q12 := by rw [hQ12]; exact QG.still
        have HQ12 := Lib.hid hQ12
        clear hQ12
        refine wpIn_wide.1 (region_inv2 (n := 9) (by kernel_rfl) (RK Q12 w6 34 (w.heap.size + 1 + 1 + 1 + 1) (.cells #[.int .i64 len, .int .i64 n, .int .i64 (since + 1), .int .i64 cyc, .bool false] 61 (0, 0))) (by kernel_rfl) rfl (RK.start _ _ _ _ _ _) ?hstep12 ?hend12)
        case hstep12 =>
          intro i' o ho val L b' x hF hR hpre hl
          match i', ho with
          | 0, ho =>
            simp at ho; subst ho; refine step_plain rfl ?_; have e13 := hF.was 13 (by kernel_rfl) rfl; have hgoal := hR.go hSt (lt_of_block hb4) HQ12 0 rfl (by decide); have q0 := hR.1.cell m0 (by omega); have q1 := hR.1.cell m1 (by omega); have q2 := hR.1.cell m2 (by omega); have q3 := hR.1.cell m3 (by omega); have q4 := hR.1.cell m4 (by omega); clear hF hpre hl hR; go_simp; exact ⟨_, rfl, hgoal _ _ (Below.refl _ _) rfl⟩
          | 1, ho =>
            simp at ho; subst ho; refine step_plain rfl ?_; have e3 := hF.was 3 (by kernel_rfl) rfl; have hgoal := hR.go hSt (lt_of_block hb4) HQ12 1 rfl (by decide); clear hF hpre hl hR; go_simp; exact ⟨_, rfl, hgoal _ _ (Below.refl _ _) rfl⟩
          | 2, ho =>
            simp at ho; subst ho; refine step_plain rfl ?_; have e9 := hF.was 9 (by kernel_rfl) rfl; have hgoal := hR.go hSt (lt_of_block hb4) HQ12 2 rfl (by decide); clear hF hpre hl hR; go_simp; exact ⟨_, rfl, hgoal _ _ (Below.refl _ _) rfl⟩
          | 3, ho =>
            simp at ho; subst ho; refine step_plain rfl ?_; have e97 := hF.gv hR.2.1 HQ12 2 rfl (hpre ⟨2, .data⟩ (by simp) rfl) rfl; have hgoal := hR.go hSt (lt_of_block hb4) HQ12 3 rfl (by decide); have q0 := hR.1.cell l1 (by omega); clear hF hpre hl hR; go_simp; exact ⟨_, rfl, hgoal _ _ (Below.refl _ _) rfl⟩
          | 4, ho =>
            simp at ho; subst ho; refine step_plain rfl ?_; have e98 := hF.gv hR.2.1 HQ12 3 rfl (hpre ⟨3, .data⟩ (by simp) rfl) rfl; have hgoal := hR.go hSt (lt_of_block hb4) HQ12 4 rfl (by decide)
            have hM := Lib.hid hR.1
            clear hF hpre hl hR; go_simp
            refine ⟨trivial, ?_⟩
            refine CallsIn.mono (callsIn_wide.2 (H1.out _)) ?_
            rintro e w9 ⟨rfl, rfl⟩
            exact ⟨_, rfl, hgoal _ _ (Below.refl _ _) rfl⟩
          | 5, ho =>
            simp at ho; subst ho; refine step_plain rfl ?_; have e99 := hF.gv hR.2.1 HQ12 4 rfl (hpre ⟨4, .data⟩ (by simp) rfl) rfl; have hgoal := hR.go hSt (lt_of_block hb4) HQ12 5 rfl (by decide); clear hF hpre hl hR; go_simp; exact ⟨_, rfl, hgoal _ _ (Below.refl _ _) rfl⟩
          | 6, ho =>
            simp at ho; subst ho; refine step_gd hF hR.2.1 HQ12 (j := 5) (b := true) rfl rfl (by kernel_rfl) (hpre ⟨5, .guard⟩ (by simp) rfl) rfl ?_; have e7 := hF.was 7 (by kernel_rfl) rfl; have hgoal := hR.go hSt (lt_of_block hb4) HQ12 6 rfl (by decide); clear hF hpre hl hR; go_simp; exact ⟨_, rfl, hgoal _ _ (Below.refl _ _) rfl⟩
          | 7, ho =>
            simp at ho; subst ho; refine step_gd hF hR.2.1 HQ12 (j := 5) (b := true) rfl rfl (by kernel_rfl) (hpre ⟨5, .guard⟩ (by simp) rfl) rfl ?_; have e101 := hF.gv hR.2.1 HQ12 6 rfl (hpre ⟨6, .data⟩ (by simp) rfl) rfl; have hgoal := hR.go hSt (lt_of_block hb4) HQ12 7 rfl (by decide); have q0 := hR.1.cell c1 (by omega); clear hF hpre hl hR; go_simp; exact ⟨_, rfl, hgoal _ _ (Below.refl _ _) rfl⟩
          | 8, ho =>
            simp at ho; subst ho; refine step_gd hF hR.2.1 HQ12 (j := 5) (b := true) rfl rfl (by kernel_rfl) (hpre ⟨5, .guard⟩ (by simp) rfl) rfl ?_; have e102 := hF.gv hR.2.1 HQ12 7 rfl (hpre ⟨7, .data⟩ (by simp) rfl) rfl; have hgoal := hR.go hSt (lt_of_block hb4) HQ12 8 rfl (by decide); clear hF hpre hl hR; go_simp; exact ⟨_, rfl, hgoal _ _ (Below.refl _ _) rfl⟩
          | 9, ho =>
            simp at ho; subst ho; refine step_plain rfl ?_; have e100 := hF.gv hR.2.1 HQ12 5 rfl (hpre ⟨5, .data⟩ (by simp) rfl) rfl; have e103 := hF.gv hR.2.1 HQ12 8 rfl (hpre ⟨8, .data⟩ (by simp) rfl) rfl; have hgoal := hR.go hSt (lt_of_block hb4) HQ12 9 rfl (by decide); clear hF hpre hl hR; go_simp; exact ⟨_, rfl, hgoal _ _ (Below.refl _ _) rfl⟩
          | 10, ho =>
            simp at ho; subst ho; refine step_plain rfl ?_; have e104 := hF.gv hR.2.1 HQ12 9 rfl (hpre ⟨9, .data⟩ (by simp) rfl) rfl; have hgoal := hR.go hSt (lt_of_block hb4) HQ12 10 rfl (by decide); clear hF hpre hl hR; go_simp; exact ⟨_, rfl, hgoal _ _ (Below.refl _ _) rfl⟩
          | 11, ho =>
            simp at ho; subst ho; refine step_gd hF hR.2.1 HQ12 (j := 10) (b := true) rfl rfl (by kernel_rfl) (hpre ⟨10, .guard⟩ (by simp) rfl) rfl ?_; have e7 := hF.was 7 (by kernel_rfl) rfl; have hgoal := hR.go hSt (lt_of_block hb4) HQ12 11 rfl (by decide); clear hF hpre hl hR; go_simp; exact ⟨_, rfl, hgoal _ _ (Below.refl _ _) rfl⟩
          | 12, ho =>
            simp at ho; subst ho; refine step_gd hF hR.2.1 HQ12 (j := 10) (b := true) rfl rfl (by kernel_rfl) (hpre ⟨10, .guard⟩ (by simp) rfl) rfl ?_; have e106 := hF.gv hR.2.1 HQ12 11 rfl (hpre ⟨11, .data⟩ (by simp) rfl) rfl; have hgoal := hR.go hSt (lt_of_block hb4) HQ12 12 rfl (by decide); have q0 := hR.1.cell c0 (by omega); clear hF hpre hl hR; go_simp; exact ⟨_, rfl, hgoal _ _ (Below.refl _ _) rfl⟩
          | 13, ho =>
            simp at ho; subst ho; refine step_gd hF hR.2.1 HQ12 (j := 10) (b := true) rfl rfl (by kernel_rfl) (hpre ⟨10, .guard⟩ (by simp) rfl) rfl ?_; have e107 := hF.gv hR.2.1 HQ12 12 rfl (hpre ⟨12, .data⟩ (by simp) rfl) rfl; have hgoal := hR.go hSt (lt_of_block hb4) HQ12 13 rfl (by decide); clear hF hpre hl hR; go_simp; exact ⟨_, rfl, hgoal _ _ (Below.refl _ _) rfl⟩
          | 14, ho =>
            simp at ho; subst ho; refine step_plain rfl ?_; have e105 := hF.gv hR.2.1 HQ12 10 rfl (hpre ⟨10, .data⟩ (by simp) rfl) rfl; have e108 := hF.gv hR.2.1 HQ12 13 rfl (hpre ⟨13, .data⟩ (by simp) rfl) rfl; have hgoal := hR.go hSt (lt_of_block hb4) HQ12 14 rfl (by decide); clear hF hpre hl hR; go_simp; exact ⟨_, rfl, hgoal _ _ (Below.refl _ _) rfl⟩
          | 15, ho =>
            simp at ho; subst ho; refine step_plain rfl ?_; have e109 := hF.gv hR.2.1 HQ12 14 rfl (hpre ⟨14, .data⟩ (by simp) rfl) rfl; have hgoal := hR.go hSt (lt_of_block hb4) HQ12 15 rfl (by decide); clear hF hpre hl hR; go_simp; exact ⟨_, rfl, hgoal _ _ (Below.refl _ _) rfl⟩
          | 16, ho =>
            simp at ho; subst ho; refine step_gd hF hR.2.1 HQ12 (j := 15) (b := true) rfl rfl (by kernel_rfl) (hpre ⟨15, .guard⟩ (by simp) rfl) rfl ?_; have e3 := hF.was 3 (by kernel_rfl) rfl; have hgoal := hR.go hSt (lt_of_block hb4) HQ12 16 rfl (by decide); clear hF hpre hl hR; go_simp; exact ⟨_, rfl, hgoal _ _ (Below.refl _ _) rfl⟩
          | 17, ho =>
            simp at ho; subst ho; refine step_plain rfl ?_; have e110 := hF.gv hR.2.1 HQ12 15 rfl (hpre ⟨15, .data⟩ (by simp) rfl) rfl; have e111 := hF.gv hR.2.1 HQ12 16 rfl (hpre ⟨16, .data⟩ (by simp) rfl) rfl; have hgoal := hR.go hSt (lt_of_block hb4) HQ12 17 rfl (by decide); clear hF hpre hl hR; go_simp; exact ⟨_, rfl, hgoal _ _ (Below.refl _ _) rfl⟩
          | 18, ho =>
            simp at ho; subst ho; refine step_plain rfl ?_; have e112 := hF.gv hR.2.1 HQ12 17 rfl (hpre ⟨17, .data⟩ (by simp) rfl) rfl; have hgoal := hR.go hSt (lt_of_block hb4) HQ12 18 rfl (by decide); clear hF hpre hl hR; go_simp; exact ⟨_, rfl, hgoal _ _ (Below.refl _ _) rfl⟩
          | 19, ho =>
            simp at ho; subst ho; refine step_sk hF hR.2.1 HQ12 (j := 18) (b := true) rfl rfl (by kernel_rfl) (hpre ⟨18, .guard⟩ (by simp) rfl) rfl (by simp) ?_
            exact ⟨fun _ _ => trivial, hR.go hSt (lt_of_block hb4) HQ12 19 rfl (by decide) _ _ (Below.refl _ _) rfl⟩
          | 20, ho =>
            simp at ho; subst ho; refine step_sk hF hR.2.1 HQ12 (j := 18) (b := true) rfl rfl (by kernel_rfl) (hpre ⟨18, .guard⟩ (by simp) rfl) rfl (by simp) ?_
            exact ⟨fun _ _ => trivial, hR.go hSt (lt_of_block hb4) HQ12 20 rfl (by decide) _ _ (Below.refl _ _) rfl⟩
          | 21, ho =>
            simp at ho; subst ho; refine step_sk hF hR.2.1 HQ12 (j := 18) (b := true) rfl rfl (by kernel_rfl) (hpre ⟨18, .guard⟩ (by simp) rfl) rfl (by simp) ?_
            exact ⟨fun _ _ => trivial, hR.go hSt (lt_of_block hb4) HQ12 21 rfl (by decide) _ _ (Below.refl _ _) rfl⟩
          | 22, ho =>
            simp at ho; subst ho; refine step_sk hF hR.2.1 HQ12 (j := 18) (b := true) rfl rfl (by kernel_rfl) (hpre ⟨18, .guard⟩ (by simp) rfl) rfl (by simp) ?_
            exact ⟨fun _ _ => trivial, hR.go hSt (lt_of_block hb4) HQ12 22 rfl (by decide) _ _ (Below.refl _ _) rfl⟩
          | 23, ho =>
            simp at ho; subst ho; refine step_sk hF hR.2.1 HQ12 (j := 18) (b := true) rfl rfl (by kernel_rfl) (hpre ⟨18, .guard⟩ (by simp) rfl) rfl (by simp) ?_
            exact ⟨fun _ _ => trivial, hR.go hSt (lt_of_block hb4) HQ12 23 rfl (by decide) _ _ (Below.refl _ _) rfl⟩
          | 24, ho =>
            simp at ho; subst ho; refine step_plain rfl ?_; have e113 := hF.gv hR.2.1 HQ12 18 rfl (hpre ⟨18, .data⟩ (by simp) rfl) rfl; have e118 := hF.gv hR.2.1 HQ12 23 rfl (hpre ⟨23, .data⟩ (by simp) rfl) rfl; have hgoal := hR.go hSt (lt_of_block hb4) HQ12 24 rfl (by decide); clear hF hpre hl hR; go_simp; exact ⟨_, rfl, hgoal _ _ (Below.refl _ _) rfl⟩
          | 25, ho =>
            simp at ho; subst ho; refine step_plain rfl ?_; have e119 := hF.gv hR.2.1 HQ12 24 rfl (hpre ⟨24, .data⟩ (by simp) rfl) rfl; have hgoal := hR.go hSt (lt_of_block hb4) HQ12 25 rfl (by decide); clear hF hpre hl hR; go_simp; exact ⟨_, rfl, hgoal _ _ (Below.refl _ _) rfl⟩
          | 26, ho =>
            simp at ho; subst ho; refine step_sk hF hR.2.1 HQ12 (j := 25) (b := true) rfl rfl (by kernel_rfl) (hpre ⟨25, .guard⟩ (by simp) rfl) rfl (by simp) ?_
            exact ⟨fun _ _ => trivial, hR.go hSt (lt_of_block hb4) HQ12 26 rfl (by decide) _ _ (Below.refl _ _) rfl⟩
          | 27, ho =>
            simp at ho; subst ho; refine step_sk hF hR.2.1 HQ12 (j := 25) (b := true) rfl rfl (by kernel_rfl) (hpre ⟨25, .guard⟩ (by simp) rfl) rfl (by simp) ?_
            exact ⟨fun _ _ => trivial, hR.go hSt (lt_of_block hb4) HQ12 27 rfl (by decide) _ _ (Below.refl _ _) rfl⟩
          | 28, ho =>
            simp at ho; subst ho; refine step_sk hF hR.2.1 HQ12 (j := 25) (b := true) rfl rfl (by kernel_rfl) (hpre ⟨25, .guard⟩ (by simp) rfl) rfl (by simp) ?_
            exact ⟨fun _ _ => trivial, hR.go hSt (lt_of_block hb4) HQ12 28 rfl (by decide) _ _ (Below.refl _ _) rfl⟩
          | 29, ho =>
            simp at ho; subst ho; refine step_sk hF hR.2.1 HQ12 (j := 25) (b := true) rfl rfl (by kernel_rfl) (hpre ⟨25, .guard⟩ (by simp) rfl) rfl (by simp) ?_
            exact ⟨fun _ _ => trivial, hR.go hSt (lt_of_block hb4) HQ12 29 rfl (by decide) _ _ (Below.refl _ _) rfl⟩
          | 30, ho =>
            simp at ho; subst ho; refine step_sk hF hR.2.1 HQ12 (j := 25) (b := true) rfl rfl (by kernel_rfl) (hpre ⟨25, .guard⟩ (by simp) rfl) rfl (by simp) ?_
            exact ⟨fun _ _ => trivial, hR.go hSt (lt_of_block hb4) HQ12 30 rfl (by decide) _ _ (Below.refl _ _) rfl⟩
          | 31, ho =>
            simp at ho; subst ho; refine step_sk hF hR.2.1 HQ12 (j := 25) (b := true) rfl rfl (by kernel_rfl) (hpre ⟨25, .guard⟩ (by simp) rfl) rfl (by simp) ?_
            exact ⟨fun _ _ => trivial, hR.go hSt (lt_of_block hb4) HQ12 31 rfl (by decide) _ _ (Below.refl _ _) rfl⟩
          | 32, ho =>
            simp at ho; subst ho; refine step_sk hF hR.2.1 HQ12 (j := 25) (b := true) rfl rfl (by kernel_rfl) (hpre ⟨25, .guard⟩ (by simp) rfl) rfl (by simp) ?_
            exact ⟨fun _ _ => trivial, hR.go hSt (lt_of_block hb4) HQ12 32 rfl (by decide) _ _ (Below.refl _ _) rfl⟩
          | 33, ho =>
            simp at ho; subst ho; refine step_plain rfl ?_; have e120 := hF.gv hR.2.1 HQ12 25 rfl (hpre ⟨25, .data⟩ (by simp) rfl) rfl; have e127 := hF.gv hR.2.1 HQ12 32 rfl (hpre ⟨32, .data⟩ (by simp) rfl) rfl; have hgoal := hR.go hSt (lt_of_block hb4) HQ12 33 rfl (by decide); clear hF hpre hl hR; go_simp; exact ⟨_, rfl, hgoal _ _ (Below.refl _ _) rfl⟩
          | 34, ho =>
            simp at ho; subst ho; refine step_plain rfl ?_; have e10 := hF.was 10 (by kernel_rfl) rfl; have e95 := hF.gv hR.2.1 HQ12 0 rfl (hpre ⟨0, .data⟩ (by simp) rfl) rfl; have hN := hF.none2 hl (by decide)
            have hls : 34 < L.size := by rw [hF.lsize]; decide
            have qb := (hR.2.2.2 hN).trans hb4
            have g0 := cellOf (o := 0) qb rfl; have f0 := freeOf (o := 0) qb; have g1 := cellOf (o := 1) qb rfl; have f1 := freeOf (o := 1) qb; have g2 := cellOf (o := 2) qb rfl; have f2 := freeOf (o := 2) qb; have g3 := cellOf (o := 3) qb rfl; have f3 := freeOf (o := 3) qb; have g4 := cellOf (o := 4) qb rfl; have f4 := freeOf (o := 4) qb; have hgoal := RK.store (v := undef) hR hSt hls ((((((Kept.refl (w.heap.size + 1 + 1 + 1 + 1) x).setCell 0 (.int .i64 len)).setCell 1 (.int .i64 n)).setCell 2 (.int .i64 (since + 1))).setCell 3 (.int .i64 cyc)).setCell 4 (.bool false)) ((block_setCell (o := 4) (.bool false) (block_setCell (o := 3) (.int .i64 cyc) (block_setCell (o := 2) (.int .i64 (since + 1)) (block_setCell (o := 1) (.int .i64 n) (block_setCell (o := 0) (.int .i64 len) qb))))).trans (by rfl)) (QG.none HQ12 34 rfl (fun _ _ => trivial) _ _)
            have hq := lt_of_block qb
            have HG := Lib.hid hgoal
            clear hF hpre hl hR hls hN qb hgoal; go_simp
            exact ⟨undef, HG.out⟩
          | 35, ho =>
            simp at ho; subst ho; refine step_plain rfl ?_; have e96 := hF.gv hR.2.1 HQ12 1 rfl (hpre ⟨1, .data⟩ (by simp) rfl) rfl; have hgoal := hR.go hSt (lt_of_block hb4) HQ12 35 rfl (by decide); clear hF hpre hl hR; go_simp; exact ⟨_, rfl, hgoal _ _ (Below.refl _ _) rfl⟩
          | 36, ho =>
            simp at ho; subst ho; refine step_plain rfl ?_; have e128 := hF.gv hR.2.1 HQ12 33 rfl (hpre ⟨33, .data⟩ (by simp) rfl) rfl; have hgoal := hR.go hSt (lt_of_block hb4) HQ12 36 rfl (by decide); clear hF hpre hl hR; go_simp; exact ⟨_, rfl, hgoal _ _ (Below.refl _ _) rfl⟩
          | i + 37, ho => simp at ho
        case hend12 =>
          intro val L b' x hF hall hR
          have e := hF.all (by kernel_rfl) hall
          have k1235 := QG.val HQ12 rfl (hR.2.1 35 (hall 35 (by decide)))
          have k1236 := QG.val HQ12 rfl (hR.2.1 36 (hall 36 (by decide)))
          have bk12 := hR.2.2.1 (hall 34 (by decide))
          have hK12 := Lib.hid hR.1
          clear hF hall hR hSt HQ12
          subst e
          simp [final, dstOf, List.range, List.range.loop]
          rw [k1235]
          rw [k1236]
          have HQ := Lib.hid (HB6.out.trans (hK12.out.low (by omega)))
          go_wp2
          have d0 := cellOf (o := 0) bk12 rfl
          have d1 := cellOf (o := 1) bk12 rfl
          have d2 := cellOf (o := 2) bk12 rfl
          have d3 := cellOf (o := 3) bk12 rfl
          have d4 := cellOf (o := 4) bk12 rfl
          exact bodyPost_ret (v := .tuple #[.agg #[.int .i64 (len), .int .i64 (n), .int .i64 (since + 1), .int .i64 (cyc), .bool false], .bool false, .bool (false)]) (by simp [results, Try.results81, go_sem, d0, d1, d2, d3, d4]) rfl ⟨rfl, HQ.out⟩
      · have g6 : decide (0 < len) = false := by simpa using g3
        rw [show posB (fun l u => carB X Y V l l y1 y2 u) cable charge ⟨len, 0, since, cyc, false, false⟩ 4 n = false by unfold posB; simp [g1, g3]]
        have H1 := Lib.hid (w7_yes (a := n) (b := 1) (c := 100000) g1.1 g1.2)
        go_enter Try.func81, Try.ntmps81
        go_upto_region 21 with (fail)
        have S6 := Lib.hid (st_next _ _ _ _ _ _ _ _ _ _ _ _ _ _ _ _ _ _ _ _ _ S5.out (.cells #[.int .i64 (len), .int .i64 (n), .int .i64 (since + 1), .int .i64 (cyc), .bool false] 61))
        clear S5
        generalize World.alloc _ _ = w6 at *
        have HB6 := Lib.hid S6.out.hb
        have hb4 := S6.out.b4
        have hs6 := S6.out.sz
        have x0 := cellOf (o := 0) S6.out.b0 rfl
        have c0 := cellOf (o := 0) S6.out.b2 rfl
        have m0 := cellOf (o := 0) S6.out.b5 rfl
        have x1 := cellOf (o := 1) S6.out.b0 rfl
        have c1 := cellOf (o := 1) S6.out.b2 rfl
        have m1 := cellOf (o := 1) S6.out.b5 rfl
        have x2 := cellOf (o := 2) S6.out.b0 rfl
        have c2 := cellOf (o := 2) S6.out.b2 rfl
        have m2 := cellOf (o := 2) S6.out.b5 rfl
        have x3 := cellOf (o := 3) S6.out.b0 rfl
        have c3 := cellOf (o := 3) S6.out.b2 rfl
        have m3 := cellOf (o := 3) S6.out.b5 rfl
        have x4 := cellOf (o := 4) S6.out.b0 rfl
        have c4 := cellOf (o := 4) S6.out.b2 rfl
        have m4 := cellOf (o := 4) S6.out.b5 rfl
        have p0 := cellOf (o := 0) S6.out.b1 rfl
        have l0 := cellOf (o := 0) S6.out.b3 rfl
        have p1 := cellOf (o := 1) S6.out.b1 rfl
        have l1 := cellOf (o := 1) S6.out.b3 rfl
        clear S6
        obtain ⟨Q13, hQ13⟩ : ∃ q9 : Nat → Value → World → Prop, q9 = QG [some (.agg #[.int .i64 len, .int .i64 n, .int .i64 (since + 1), .int .i64 cyc, .bool false]), some (.bool false), some (.pointer (some ⟨w.heap.size + 1 + 1 + 1, 1, none⟩)), some (.int .i64 n), some (.bool true), some (.bool true), some (.pointer (some ⟨w.heap.size + 1 + 1, 1, none⟩)), some (.int .i64 0), some (.bool true), some (.bool true), some (.bool true), some (.pointer (some ⟨w.heap.size + 1 + 1, 0, none⟩)), some (.int .i64 len), some (.bool false), some (.bool false), some (.bool false), some (undef), some (.bool false), some (.bool false), some (undef), some (undef), some (undef), some (undef), some (undef), some (.bool false), some (.bool false), some (undef), some (undef), some (undef), some (undef), some (undef), some (undef), some (undef), some (.bool false), none, some (.bool false), some (.bool false)] (fun _ _ _ => True) := ⟨_, rfl⟩
        have hSt : Still Q13 := by rw [hQ13]; exact QG.still
        have HQ13 := Lib.hid hQ13
        clear hQ13
        refine wpIn_wide.1 (region_inv2 (n := 9) (by kernel_rfl) (RK Q13 w6 34 (w.heap.size + 1 + 1 + 1 + 1) (.cells #[.int .i64 len, .int .i64 n, .int .i64 (since + 1), .int .i64 cyc, .bool false] 61 (0, 0))) (by kernel_rfl) rfl (RK.start _ _ _ _ _ _) ?hstep13 ?hend13)
        case hstep13 =>
          intro i' o ho val L b' x hF hR hpre hl
          match i', ho with
          | 0, ho =>
            simp at ho; subst ho; refine step_plain rfl ?_; have e13 := hF.was 13 (by kernel_rfl) rfl; have hgoal := hR.go hSt (lt_of_block hb4) HQ13 0 rfl (by decide); have q0 := hR.1.cell m0 (by omega); have q1 := hR.1.cell m1 (by omega); have q2 := hR.1.cell m2 (by omega); have q3 := hR.1.cell m3 (by omega); have q4 := hR.1.cell m4 (by omega); clear hF hpre hl hR; go_simp; exact ⟨_, rfl, hgoal _ _ (Below.refl _ _) rfl⟩
          | 1, ho =>
            simp at ho; subst ho; refine step_plain rfl ?_; have e3 := hF.was 3 (by kernel_rfl) rfl; have hgoal := hR.go hSt (lt_of_block hb4) HQ13 1 rfl (by decide); clear hF hpre hl hR; go_simp; exact ⟨_, rfl, hgoal _ _ (Below.refl _ _) rfl⟩
          | 2, ho =>
            simp at ho; subst ho; refine step_plain rfl ?_; have e9 := hF.was 9 (by kernel_rfl) rfl; have hgoal := hR.go hSt (lt_of_block hb4) HQ13 2 rfl (by decide); clear hF hpre hl hR; go_simp; exact ⟨_, rfl, hgoal _ _ (Below.refl _ _) rfl⟩
          | 3, ho =>
            simp at ho; subst ho; refine step_plain rfl ?_; have e97 := hF.gv hR.2.1 HQ13 2 rfl (hpre ⟨2, .data⟩ (by simp) rfl) rfl; have hgoal := hR.go hSt (lt_of_block hb4) HQ13 3 rfl (by decide); have q0 := hR.1.cell l1 (by omega); clear hF hpre hl hR; go_simp; exact ⟨_, rfl, hgoal _ _ (Below.refl _ _) rfl⟩
          | 4, ho =>
            simp at ho; subst ho; refine step_plain rfl ?_; have e98 := hF.gv hR.2.1 HQ13 3 rfl (hpre ⟨3, .data⟩ (by simp) rfl) rfl; have hgoal := hR.go hSt (lt_of_block hb4) HQ13 4 rfl (by decide)
            have hM := Lib.hid hR.1
            clear hF hpre hl hR; go_simp
            refine ⟨trivial, ?_⟩
            refine CallsIn.mono (callsIn_wide.2 (H1.out _)) ?_
            rintro e w9 ⟨rfl, rfl⟩
            exact ⟨_, rfl, hgoal _ _ (Below.refl _ _) rfl⟩
          | 5, ho =>
            simp at ho; subst ho; refine step_plain rfl ?_; have e99 := hF.gv hR.2.1 HQ13 4 rfl (hpre ⟨4, .data⟩ (by simp) rfl) rfl; have hgoal := hR.go hSt (lt_of_block hb4) HQ13 5 rfl (by decide); clear hF hpre hl hR; go_simp; exact ⟨_, rfl, hgoal _ _ (Below.refl _ _) rfl⟩
          | 6, ho =>
            simp at ho; subst ho; refine step_gd hF hR.2.1 HQ13 (j := 5) (b := true) rfl rfl (by kernel_rfl) (hpre ⟨5, .guard⟩ (by simp) rfl) rfl ?_; have e7 := hF.was 7 (by kernel_rfl) rfl; have hgoal := hR.go hSt (lt_of_block hb4) HQ13 6 rfl (by decide); clear hF hpre hl hR; go_simp; exact ⟨_, rfl, hgoal _ _ (Below.refl _ _) rfl⟩
          | 7, ho =>
            simp at ho; subst ho; refine step_gd hF hR.2.1 HQ13 (j := 5) (b := true) rfl rfl (by kernel_rfl) (hpre ⟨5, .guard⟩ (by simp) rfl) rfl ?_; have e101 := hF.gv hR.2.1 HQ13 6 rfl (hpre ⟨6, .data⟩ (by simp) rfl) rfl; have hgoal := hR.go hSt (lt_of_block hb4) HQ13 7 rfl (by decide); have q0 := hR.1.cell c1 (by omega); clear hF hpre hl hR; go_simp; exact ⟨_, rfl, hgoal _ _ (Below.refl _ _) rfl⟩
          | 8, ho =>
            simp at ho; subst ho; refine step_gd hF hR.2.1 HQ13 (j := 5) (b := true) rfl rfl (by kernel_rfl) (hpre ⟨5, .guard⟩ (by simp) rfl) rfl ?_; have e102 := hF.gv hR.2.1 HQ13 7 rfl (hpre ⟨7, .data⟩ (by simp) rfl) rfl; have hgoal := hR.go hSt (lt_of_block hb4) HQ13 8 rfl (by decide); clear hF hpre hl hR; go_simp; exact ⟨_, rfl, hgoal _ _ (Below.refl _ _) rfl⟩
          | 9, ho =>
            simp at ho; subst ho; refine step_plain rfl ?_; have e100 := hF.gv hR.2.1 HQ13 5 rfl (hpre ⟨5, .data⟩ (by simp) rfl) rfl; have e103 := hF.gv hR.2.1 HQ13 8 rfl (hpre ⟨8, .data⟩ (by simp) rfl) rfl; have hgoal := hR.go hSt (lt_of_block hb4) HQ13 9 rfl (by decide); clear hF hpre hl hR; go_simp; exact ⟨_, rfl, hgoal _ _ (Below.refl _ _) rfl⟩
          | 10, ho =>
            simp at ho; subst ho; refine step_plain rfl ?_; have e104 := hF.gv hR.2.1 HQ13 9 rfl (hpre ⟨9, .data⟩ (by simp) rfl) rfl; have hgoal := hR.go hSt (lt_of_block hb4) HQ13 10 rfl (by decide); clear hF hpre hl hR; go_simp; exact ⟨_, rfl, hgoal _ _ (Below.refl _ _) rfl⟩
          | 11, ho =>
            simp at ho; subst ho; refine step_gd hF hR.2.1 HQ13 (j := 10) (b := true) rfl rfl (by kernel_rfl) (hpre ⟨10, .guard⟩ (by simp) rfl) rfl ?_; have e7 := hF.was 7 (by kernel_rfl) rfl; have hgoal := hR.go hSt (lt_of_block hb4) HQ13 11 rfl (by decide); clear hF hpre hl hR; go_simp; exact ⟨_, rfl, hgoal _ _ (Below.refl _ _) rfl⟩
          | 12, ho =>
            simp at ho; subst ho; refine step_gd hF hR.2.1 HQ13 (j := 10) (b := true) rfl rfl (by kernel_rfl) (hpre ⟨10, .guard⟩ (by simp) rfl) rfl ?_; have e106 := hF.gv hR.2.1 HQ13 11 rfl (hpre ⟨11, .data⟩ (by simp) rfl) rfl; have hgoal := hR.go hSt (lt_of_block hb4) HQ13 12 rfl (by decide); have q0 := hR.1.cell c0 (by omega); clear hF hpre hl hR; go_simp; exact ⟨_, rfl, hgoal _ _ (Below.refl _ _) rfl⟩
          | 13, ho =>
            simp at ho; subst ho; refine step_gd hF hR.2.1 HQ13 (j := 10) (b := true) rfl rfl (by kernel_rfl) (hpre ⟨10, .guard⟩ (by simp) rfl) rfl ?_; have e107 := hF.gv hR.2.1 HQ13 12 rfl (hpre ⟨12, .data⟩ (by simp) rfl) rfl; have hgoal := hR.go hSt (lt_of_block hb4) HQ13 13 rfl (by decide); clear hF hpre hl hR; go_simp; exact ⟨_, rfl, hgoal _ _ (Below.refl _ _) rfl⟩
          | 14, ho =>
            simp at ho; subst ho; refine step_plain rfl ?_; have e105 := hF.gv hR.2.1 HQ13 10 rfl (hpre ⟨10, .data⟩ (by simp) rfl) rfl; have e108 := hF.gv hR.2.1 HQ13 13 rfl (hpre ⟨13, .data⟩ (by simp) rfl) rfl; have hgoal := hR.go hSt (lt_of_block hb4) HQ13 14 rfl (by decide); clear hF hpre hl hR; go_simp; exact ⟨_, rfl, hgoal _ _ (Below.refl _ _) rfl⟩
          | 15, ho =>
            simp at ho; subst ho; refine step_plain rfl ?_; have e109 := hF.gv hR.2.1 HQ13 14 rfl (hpre ⟨14, .data⟩ (by simp) rfl) rfl; have hgoal := hR.go hSt (lt_of_block hb4) HQ13 15 rfl (by decide); clear hF hpre hl hR; go_simp; exact ⟨_, rfl, hgoal _ _ (Below.refl _ _) rfl⟩
          | 16, ho =>
            simp at ho; subst ho; refine step_sk hF hR.2.1 HQ13 (j := 15) (b := true) rfl rfl (by kernel_rfl) (hpre ⟨15, .guard⟩ (by simp) rfl) rfl (by simp) ?_
            exact ⟨fun _ _ => trivial, hR.go hSt (lt_of_block hb4) HQ13 16 rfl (by decide) _ _ (Below.refl _ _) rfl⟩
          | 17, ho =>
            simp at ho; subst ho; refine step_plain rfl ?_; have e110 := hF.gv hR.2.1 HQ13 15 rfl (hpre ⟨15, .data⟩ (by simp) rfl) rfl; have e111 := hF.gv hR.2.1 HQ13 16 rfl (hpre ⟨16, .data⟩ (by simp) rfl) rfl; have hgoal := hR.go hSt (lt_of_block hb4) HQ13 17 rfl (by decide); clear hF hpre hl hR; go_simp; exact ⟨_, rfl, hgoal _ _ (Below.refl _ _) rfl⟩
          | 18, ho =>
            simp at ho; subst ho; refine step_plain rfl ?_; have e112 := hF.gv hR.2.1 HQ13 17 rfl (hpre ⟨17, .data⟩ (by simp) rfl) rfl; have hgoal := hR.go hSt (lt_of_block hb4) HQ13 18 rfl (by decide); clear hF hpre hl hR; go_simp; exact ⟨_, rfl, hgoal _ _ (Below.refl _ _) rfl⟩
          | 19, ho =>
            simp at ho; subst ho; refine step_sk hF hR.2.1 HQ13 (j := 18) (b := true) rfl rfl (by kernel_rfl) (hpre ⟨18, .guard⟩ (by simp) rfl) rfl (by simp) ?_
            exact ⟨fun _ _ => trivial, hR.go hSt (lt_of_block hb4) HQ13 19 rfl (by decide) _ _ (Below.refl _ _) rfl⟩
          | 20, ho =>
            simp at ho; subst ho; refine step_sk hF hR.2.1 HQ13 (j := 18) (b := true) rfl rfl (by kernel_rfl) (hpre ⟨18, .guard⟩ (by simp) rfl) rfl (by simp) ?_
            exact ⟨fun _ _ => trivial, hR.go hSt (lt_of_block hb4) HQ13 20 rfl (by decide) _ _ (Below.refl _ _) rfl⟩
          | 21, ho =>
            simp at ho; subst ho; refine step_sk hF hR.2.1 HQ13 (j := 18) (b := true) rfl rfl (by kernel_rfl) (hpre ⟨18, .guard⟩ (by simp) rfl) rfl (by simp) ?_
            exact ⟨fun _ _ => trivial, hR.go hSt (lt_of_block hb4) HQ13 21 rfl (by decide) _ _ (Below.refl _ _) rfl⟩
          | 22, ho =>
            simp at ho; subst ho; refine step_sk hF hR.2.1 HQ13 (j := 18) (b := true) rfl rfl (by kernel_rfl) (hpre ⟨18, .guard⟩ (by simp) rfl) rfl (by simp) ?_
            exact ⟨fun _ _ => trivial, hR.go hSt (lt_of_block hb4) HQ13 22 rfl (by decide) _ _ (Below.refl _ _) rfl⟩
          | 23, ho =>
            simp at ho; subst ho; refine step_sk hF hR.2.1 HQ13 (j := 18) (b := true) rfl rfl (by kernel_rfl) (hpre ⟨18, .guard⟩ (by simp) rfl) rfl (by simp) ?_
            exact ⟨fun _ _ => trivial, hR.go hSt (lt_of_block hb4) HQ13 23 rfl (by decide) _ _ (Below.refl _ _) rfl⟩
          | 24, ho =>
            simp at ho; subst ho; refine step_plain rfl ?_; have e113 := hF.gv hR.2.1 HQ13 18 rfl (hpre ⟨18, .data⟩ (by simp) rfl) rfl; have e118 := hF.gv hR.2.1 HQ13 23 rfl (hpre ⟨23, .data⟩ (by simp) rfl) rfl; have hgoal := hR.go hSt (lt_of_block hb4) HQ13 24 rfl (by decide); clear hF hpre hl hR; go_simp; exact ⟨_, rfl, hgoal _ _ (Below.refl _ _) rfl⟩
          | 25, ho =>
            simp at ho; subst ho; refine step_plain rfl ?_; have e119 := hF.gv hR.2.1 HQ13 24 rfl (hpre ⟨24, .data⟩ (by simp) rfl) rfl; have hgoal := hR.go hSt (lt_of_block hb4) HQ13 25 rfl (by decide); clear hF hpre hl hR; go_simp; exact ⟨_, rfl, hgoal _ _ (Below.refl _ _) rfl⟩
          | 26, ho =>
            simp at ho; subst ho; refine step_sk hF hR.2.1 HQ13 (j := 25) (b := true) rfl rfl (by kernel_rfl) (hpre ⟨25, .guard⟩ (by simp) rfl) rfl (by simp) ?_
            exact ⟨fun _ _ => trivial, hR.go hSt (lt_of_block hb4) HQ13 26 rfl (by decide) _ _ (Below.refl _ _) rfl⟩
          | 27, ho =>
            simp at ho; subst ho; refine step_sk hF hR.2.1 HQ13 (j := 25) (b := true) rfl rfl (by kernel_rfl) (hpre ⟨25, .guard⟩ (by simp) rfl) rfl (by simp) ?_
            exact ⟨fun _ _ => trivial, hR.go hSt (lt_of_block hb4) HQ13 27 rfl (by decide) _ _ (Below.refl _ _) rfl⟩
          | 28, ho =>
            simp at ho; subst ho; refine step_sk hF hR.2.1 HQ13 (j := 25) (b := true) rfl rfl (by kernel_rfl) (hpre ⟨25, .guard⟩ (by simp) rfl) rfl (by simp) ?_
            exact ⟨fun _ _ => trivial, hR.go hSt (lt_of_block hb4) HQ13 28 rfl (by decide) _ _ (Below.refl _ _) rfl⟩
          | 29, ho =>
            simp at ho; subst ho; refine step_sk hF hR.2.1 HQ13 (j := 25) (b := true) rfl rfl (by kernel_rfl) (hpre ⟨25, .guard⟩ (by simp) rfl) rfl (by simp) ?_
            exact ⟨fun _ _ => trivial, hR.go hSt (lt_of_block hb4) HQ13 29 rfl (by decide) _ _ (Below.refl _ _) rfl⟩
          | 30, ho =>
            simp at ho; subst ho; refine step_sk hF hR.2.1 HQ13 (j := 25) (b := true) rfl rfl (by kernel_rfl) (hpre ⟨25, .guard⟩ (by simp) rfl) rfl (by simp) ?_
            exact ⟨fun _ _ => trivial, hR.go hSt (lt_of_block hb4) HQ13 30 rfl (by decide) _ _ (Below.refl _ _) rfl⟩
          | 31, ho =>
            simp at ho; subst ho; refine step_sk hF hR.2.1 HQ13 (j := 25) (b := true) rfl rfl (by kernel_rfl) (hpre ⟨25, .guard⟩ (by simp) rfl) rfl (by simp) ?_
            exact ⟨fun _ _ => trivial, hR.go hSt (lt_of_block hb4) HQ13 31 rfl (by decide) _ _ (Below.refl _ _) rfl⟩
          | 32, ho =>
            simp at ho; subst ho; refine step_sk hF hR.2.1 HQ13 (j := 25) (b := true) rfl rfl (by kernel_rfl) (hpre ⟨25, .guard⟩ (by simp) rfl) rfl (by simp) ?_
            exact ⟨fun _ _ => trivial, hR.go hSt (lt_of_block hb4) HQ13 32 rfl (by decide) _ _ (Below.refl _ _) rfl⟩
          | 33, ho =>
            simp at ho; subst ho; refine step_plain rfl ?_; have e120 := hF.gv hR.2.1 HQ13 25 rfl (hpre ⟨25, .data⟩ (by simp) rfl) rfl; have e127 := hF.gv hR.2.1 HQ13 32 rfl (hpre ⟨32, .data⟩ (by simp) rfl) rfl; have hgoal := hR.go hSt (lt_of_block hb4) HQ13 33 rfl (by decide); clear hF hpre hl hR; go_simp; exact ⟨_, rfl, hgoal _ _ (Below.refl _ _) rfl⟩
          | 34, ho =>
            simp at ho; subst ho; refine step_plain rfl ?_; have e10 := hF.was 10 (by kernel_rfl) rfl; have e95 := hF.gv hR.2.1 HQ13 0 rfl (hpre ⟨0, .data⟩ (by simp) rfl) rfl; have hN := hF.none2 hl (by decide)
            have hls : 34 < L.size := by rw [hF.lsize]; decide
            have qb := (hR.2.2.2 hN).trans hb4
            have g0 := cellOf (o := 0) qb rfl; have f0 := freeOf (o := 0) qb; have g1 := cellOf (o := 1) qb rfl; have f1 := freeOf (o := 1) qb; have g2 := cellOf (o := 2) qb rfl; have f2 := freeOf (o := 2) qb; have g3 := cellOf (o := 3) qb rfl; have f3 := freeOf (o := 3) qb; have g4 := cellOf (o := 4) qb rfl; have f4 := freeOf (o := 4) qb; have hgoal := RK.store (v := undef) hR hSt hls ((((((Kept.refl (w.heap.size + 1 + 1 + 1 + 1) x).setCell 0 (.int .i64 len)).setCell 1 (.int .i64 n)).setCell 2 (.int .i64 (since + 1))).setCell 3 (.int .i64 cyc)).setCell 4 (.bool false)) ((block_setCell (o := 4) (.bool false) (block_setCell (o := 3) (.int .i64 cyc) (block_setCell (o := 2) (.int .i64 (since + 1)) (block_setCell (o := 1) (.int .i64 n) (block_setCell (o := 0) (.int .i64 len) qb))))).trans (by rfl)) (QG.none HQ13 34 rfl (fun _ _ => trivial) _ _)
            have hq := lt_of_block qb
            have HG := Lib.hid hgoal
            clear hF hpre hl hR hls hN qb hgoal; go_simp
            exact ⟨undef, HG.out⟩
          | 35, ho =>
            simp at ho; subst ho; refine step_plain rfl ?_; have e96 := hF.gv hR.2.1 HQ13 1 rfl (hpre ⟨1, .data⟩ (by simp) rfl) rfl; have hgoal := hR.go hSt (lt_of_block hb4) HQ13 35 rfl (by decide); clear hF hpre hl hR; go_simp; exact ⟨_, rfl, hgoal _ _ (Below.refl _ _) rfl⟩
          | 36, ho =>
            simp at ho; subst ho; refine step_plain rfl ?_; have e128 := hF.gv hR.2.1 HQ13 33 rfl (hpre ⟨33, .data⟩ (by simp) rfl) rfl; have hgoal := hR.go hSt (lt_of_block hb4) HQ13 36 rfl (by decide); clear hF hpre hl hR; go_simp; exact ⟨_, rfl, hgoal _ _ (Below.refl _ _) rfl⟩
          | i + 37, ho => simp at ho
        case hend13 =>
          intro val L b' x hF hall hR
          have e := hF.all (by kernel_rfl) hall
          have k1335 := QG.val HQ13 rfl (hR.2.1 35 (hall 35 (by decide)))
          have k1336 := QG.val HQ13 rfl (hR.2.1 36 (hall 36 (by decide)))
          have bk13 := hR.2.2.1 (hall 34 (by decide))
          have hK13 := Lib.hid hR.1
          clear hF hall hR hSt HQ13
          subst e
          simp [final, dstOf, List.range, List.range.loop]
          rw [k1335]
          rw [k1336]
          have HQ := Lib.hid (HB6.out.trans (hK13.out.low (by omega)))
          go_wp2
          have d0 := cellOf (o := 0) bk13 rfl
          have d1 := cellOf (o := 1) bk13 rfl
          have d2 := cellOf (o := 2) bk13 rfl
          have d3 := cellOf (o := 3) bk13 rfl
          have d4 := cellOf (o := 4) bk13 rfl
          exact bodyPost_ret (v := .tuple #[.agg #[.int .i64 (len), .int .i64 (n), .int .i64 (since + 1), .int .i64 (cyc), .bool false], .bool false, .bool (false)]) (by simp [results, Try.results81, go_sem, d0, d1, d2, d3, d4]) rfl ⟨rfl, HQ.out⟩
    · have z2a : (wt == 0) = false := by simpa using g2
      rw [show posB (fun l u => carB X Y V l l y1 y2 u) cable charge ⟨len, wt, since, cyc, false, false⟩ 4 n = false by unfold posB; simp [g1, g2]]
      have H1 := Lib.hid (w7_yes (a := n) (b := 1) (c := 100000) g1.1 g1.2)
      go_enter Try.func81, Try.ntmps81
      go_upto_region 21 with (fail)
      have S6 := Lib.hid (st_next _ _ _ _ _ _ _ _ _ _ _ _ _ _ _ _ _ _ _ _ _ S5.out (.cells #[.int .i64 (len), .int .i64 (n), .int .i64 (since + 1), .int .i64 (cyc), .bool false] 61))
      clear S5
      generalize World.alloc _ _ = w6 at *
      have HB6 := Lib.hid S6.out.hb
      have hb4 := S6.out.b4
      have hs6 := S6.out.sz
      have x0 := cellOf (o := 0) S6.out.b0 rfl
      have c0 := cellOf (o := 0) S6.out.b2 rfl
      have m0 := cellOf (o := 0) S6.out.b5 rfl
      have x1 := cellOf (o := 1) S6.out.b0 rfl
      have c1 := cellOf (o := 1) S6.out.b2 rfl
      have m1 := cellOf (o := 1) S6.out.b5 rfl
      have x2 := cellOf (o := 2) S6.out.b0 rfl
      have c2 := cellOf (o := 2) S6.out.b2 rfl
      have m2 := cellOf (o := 2) S6.out.b5 rfl
      have x3 := cellOf (o := 3) S6.out.b0 rfl
      have c3 := cellOf (o := 3) S6.out.b2 rfl
      have m3 := cellOf (o := 3) S6.out.b5 rfl
      have x4 := cellOf (o := 4) S6.out.b0 rfl
      have c4 := cellOf (o := 4) S6.out.b2 rfl
      have m4 := cellOf (o := 4) S6.out.b5 rfl
      have p0 := cellOf (o := 0) S6.out.b1 rfl
      have l0 := cellOf (o := 0) S6.out.b3 rfl
      have p1 := cellOf (o := 1) S6.out.b1 rfl
      have l1 := cellOf (o := 1) S6.out.b3 rfl
      clear S6
      obtain ⟨Q14, hQ14⟩ : ∃ q9 : Nat → Value → World → Prop, q9 = QG [some (.agg #[.int .i64 len, .int .i64 n, .int .i64 (since + 1), .int .i64 cyc, .bool false]), some (.bool false), some (.pointer (some ⟨w.heap.size + 1 + 1 + 1, 1, none⟩)), some (.int .i64 n), some (.bool true), some (.bool true), some (.pointer (some ⟨w.heap.size + 1 + 1, 1, none⟩)), some (.int .i64 wt), some (.bool false), some (.bool false), some (.bool false), some (undef), some (undef), some (undef), some (.bool false), some (.bool false), some (undef), some (.bool false), some (.bool false), some (undef), some (undef), some (undef), some (undef), some (undef), some (.bool false), some (.bool false), some (undef), some (undef), some (undef), some (undef), some (undef), some (undef), some (undef), some (.bool false), none, some (.bool false), some (.bool false)] (fun _ _ _ => True) := ⟨_, rfl⟩
      have hSt : Still Q14 := by rw [hQ14]; exact QG.still
      have HQ14 := Lib.hid hQ14
      clear hQ14
      refine wpIn_wide.1 (region_inv2 (n := 9) (by kernel_rfl) (RK Q14 w6 34 (w.heap.size + 1 + 1 + 1 + 1) (.cells #[.int .i64 len, .int .i64 n, .int .i64 (since + 1), .int .i64 cyc, .bool false] 61 (0, 0))) (by kernel_rfl) rfl (RK.start _ _ _ _ _ _) ?hstep14 ?hend14)
      case hstep14 =>
        intro i' o ho val L b' x hF hR hpre hl
        match i', ho with
        | 0, ho =>
          simp at ho; subst ho; refine step_plain rfl ?_; have e13 := hF.was 13 (by kernel_rfl) rfl; have hgoal := hR.go hSt (lt_of_block hb4) HQ14 0 rfl (by decide); have q0 := hR.1.cell m0 (by omega); have q1 := hR.1.cell m1 (by omega); have q2 := hR.1.cell m2 (by omega); have q3 := hR.1.cell m3 (by omega); have q4 := hR.1.cell m4 (by omega); clear hF hpre hl hR; go_simp; exact ⟨_, rfl, hgoal _ _ (Below.refl _ _) rfl⟩
        | 1, ho =>
          simp at ho; subst ho; refine step_plain rfl ?_; have e3 := hF.was 3 (by kernel_rfl) rfl; have hgoal := hR.go hSt (lt_of_block hb4) HQ14 1 rfl (by decide); clear hF hpre hl hR; go_simp; exact ⟨_, rfl, hgoal _ _ (Below.refl _ _) rfl⟩
        | 2, ho =>
          simp at ho; subst ho; refine step_plain rfl ?_; have e9 := hF.was 9 (by kernel_rfl) rfl; have hgoal := hR.go hSt (lt_of_block hb4) HQ14 2 rfl (by decide); clear hF hpre hl hR; go_simp; exact ⟨_, rfl, hgoal _ _ (Below.refl _ _) rfl⟩
        | 3, ho =>
          simp at ho; subst ho; refine step_plain rfl ?_; have e97 := hF.gv hR.2.1 HQ14 2 rfl (hpre ⟨2, .data⟩ (by simp) rfl) rfl; have hgoal := hR.go hSt (lt_of_block hb4) HQ14 3 rfl (by decide); have q0 := hR.1.cell l1 (by omega); clear hF hpre hl hR; go_simp; exact ⟨_, rfl, hgoal _ _ (Below.refl _ _) rfl⟩
        | 4, ho =>
          simp at ho; subst ho; refine step_plain rfl ?_; have e98 := hF.gv hR.2.1 HQ14 3 rfl (hpre ⟨3, .data⟩ (by simp) rfl) rfl; have hgoal := hR.go hSt (lt_of_block hb4) HQ14 4 rfl (by decide)
          have hM := Lib.hid hR.1
          clear hF hpre hl hR; go_simp
          refine ⟨trivial, ?_⟩
          refine CallsIn.mono (callsIn_wide.2 (H1.out _)) ?_
          rintro e w9 ⟨rfl, rfl⟩
          exact ⟨_, rfl, hgoal _ _ (Below.refl _ _) rfl⟩
        | 5, ho =>
          simp at ho; subst ho; refine step_plain rfl ?_; have e99 := hF.gv hR.2.1 HQ14 4 rfl (hpre ⟨4, .data⟩ (by simp) rfl) rfl; have hgoal := hR.go hSt (lt_of_block hb4) HQ14 5 rfl (by decide); clear hF hpre hl hR; go_simp; exact ⟨_, rfl, hgoal _ _ (Below.refl _ _) rfl⟩
        | 6, ho =>
          simp at ho; subst ho; refine step_gd hF hR.2.1 HQ14 (j := 5) (b := true) rfl rfl (by kernel_rfl) (hpre ⟨5, .guard⟩ (by simp) rfl) rfl ?_; have e7 := hF.was 7 (by kernel_rfl) rfl; have hgoal := hR.go hSt (lt_of_block hb4) HQ14 6 rfl (by decide); clear hF hpre hl hR; go_simp; exact ⟨_, rfl, hgoal _ _ (Below.refl _ _) rfl⟩
        | 7, ho =>
          simp at ho; subst ho; refine step_gd hF hR.2.1 HQ14 (j := 5) (b := true) rfl rfl (by kernel_rfl) (hpre ⟨5, .guard⟩ (by simp) rfl) rfl ?_; have e101 := hF.gv hR.2.1 HQ14 6 rfl (hpre ⟨6, .data⟩ (by simp) rfl) rfl; have hgoal := hR.go hSt (lt_of_block hb4) HQ14 7 rfl (by decide); have q0 := hR.1.cell c1 (by omega); clear hF hpre hl hR; go_simp; exact ⟨_, rfl, hgoal _ _ (Below.refl _ _) rfl⟩
        | 8, ho =>
          simp at ho; subst ho; refine step_gd hF hR.2.1 HQ14 (j := 5) (b := true) rfl rfl (by kernel_rfl) (hpre ⟨5, .guard⟩ (by simp) rfl) rfl ?_; have e102 := hF.gv hR.2.1 HQ14 7 rfl (hpre ⟨7, .data⟩ (by simp) rfl) rfl; have hgoal := hR.go hSt (lt_of_block hb4) HQ14 8 rfl (by decide); clear hF hpre hl hR; go_simp; exact ⟨_, rfl, hgoal _ _ (Below.refl _ _) rfl⟩
        | 9, ho =>
          simp at ho; subst ho; refine step_plain rfl ?_; have e100 := hF.gv hR.2.1 HQ14 5 rfl (hpre ⟨5, .data⟩ (by simp) rfl) rfl; have e103 := hF.gv hR.2.1 HQ14 8 rfl (hpre ⟨8, .data⟩ (by simp) rfl) rfl; have hgoal := hR.go hSt (lt_of_block hb4) HQ14 9 rfl (by decide); clear hF hpre hl hR; go_simp; exact ⟨_, rfl, hgoal _ _ (Below.refl _ _) rfl⟩
        | 10, ho =>
          simp at ho; subst ho; refine step_plain rfl ?_; have e104 := hF.gv hR.2.1 HQ14 9 rfl (hpre ⟨9, .data⟩ (by simp) rfl) rfl; have hgoal := hR.go hSt (lt_of_block hb4) HQ14 10 rfl (by decide); clear hF hpre hl hR; go_simp; exact ⟨_, rfl, hgoal _ _ (Below.refl _ _) rfl⟩
        | 11, ho =>
          simp at ho; subst ho; refine step_sk hF hR.2.1 HQ14 (j := 10) (b := true) rfl rfl (by kernel_rfl) (hpre ⟨10, .guard⟩ (by simp) rfl) rfl (by simp) ?_
          exact ⟨fun _ _ => trivial, hR.go hSt (lt_of_block hb4) HQ14 11 rfl (by decide) _ _ (Below.refl _ _) rfl⟩
        | 12, ho =>
          simp at ho; subst ho; refine step_sk hF hR.2.1 HQ14 (j := 10) (b := true) rfl rfl (by kernel_rfl) (hpre ⟨10, .guard⟩ (by simp) rfl) rfl (by simp) ?_
          exact ⟨fun _ _ => trivial, hR.go hSt (lt_of_block hb4) HQ14 12 rfl (by decide) _ _ (Below.refl _ _) rfl⟩
        | 13, ho =>
          simp at ho; subst ho; refine step_sk hF hR.2.1 HQ14 (j := 10) (b := true) rfl rfl (by kernel_rfl) (hpre ⟨10, .guard⟩ (by simp) rfl) rfl (by simp) ?_
          exact ⟨fun _ _ => trivial, hR.go hSt (lt_of_block hb4) HQ14 13 rfl (by decide) _ _ (Below.refl _ _) rfl⟩
        | 14, ho =>
          simp at ho; subst ho; refine step_plain rfl ?_; have e105 := hF.gv hR.2.1 HQ14 10 rfl (hpre ⟨10, .data⟩ (by simp) rfl) rfl; have e108 := hF.gv hR.2.1 HQ14 13 rfl (hpre ⟨13, .data⟩ (by simp) rfl) rfl; have hgoal := hR.go hSt (lt_of_block hb4) HQ14 14 rfl (by decide); clear hF hpre hl hR; go_simp; exact ⟨_, rfl, hgoal _ _ (Below.refl _ _) rfl⟩
        | 15, ho =>
          simp at ho; subst ho; refine step_plain rfl ?_; have e109 := hF.gv hR.2.1 HQ14 14 rfl (hpre ⟨14, .data⟩ (by simp) rfl) rfl; have hgoal := hR.go hSt (lt_of_block hb4) HQ14 15 rfl (by decide); clear hF hpre hl hR; go_simp; exact ⟨_, rfl, hgoal _ _ (Below.refl _ _) rfl⟩
        | 16, ho =>
          simp at ho; subst ho; refine step_sk hF hR.2.1 HQ14 (j := 15) (b := true) rfl rfl (by kernel_rfl) (hpre ⟨15, .guard⟩ (by simp) rfl) rfl (by simp) ?_
          exact ⟨fun _ _ => trivial, hR.go hSt (lt_of_block hb4) HQ14 16 rfl (by decide) _ _ (Below.refl _ _) rfl⟩
        | 17, ho =>
          simp at ho; subst ho; refine step_plain rfl ?_; have e110 := hF.gv hR.2.1 HQ14 15 rfl (hpre ⟨15, .data⟩ (by simp) rfl) rfl; have e111 := hF.gv hR.2.1 HQ14 16 rfl (hpre ⟨16, .data⟩ (by simp) rfl) rfl; have hgoal := hR.go hSt (lt_of_block hb4) HQ14 17 rfl (by decide); clear hF hpre hl hR; go_simp; exact ⟨_, rfl, hgoal _ _ (Below.refl _ _) rfl⟩
        | 18, ho =>
          simp at ho; subst ho; refine step_plain rfl ?_; have e112 := hF.gv hR.2.1 HQ14 17 rfl (hpre ⟨17, .data⟩ (by simp) rfl) rfl; have hgoal := hR.go hSt (lt_of_block hb4) HQ14 18 rfl (by decide); clear hF hpre hl hR; go_simp; exact ⟨_, rfl, hgoal _ _ (Below.refl _ _) rfl⟩
        | 19, ho =>
          simp at ho; subst ho; refine step_sk hF hR.2.1 HQ14 (j := 18) (b := true) rfl rfl (by kernel_rfl) (hpre ⟨18, .guard⟩ (by simp) rfl) rfl (by simp) ?_
          exact ⟨fun _ _ => trivial, hR.go hSt (lt_of_block hb4) HQ14 19 rfl (by decide) _ _ (Below.refl _ _) rfl⟩
        | 20, ho =>
          simp at ho; subst ho; refine step_sk hF hR.2.1 HQ14 (j := 18) (b := true) rfl rfl (by kernel_rfl) (hpre ⟨18, .guard⟩ (by simp) rfl) rfl (by simp) ?_
          exact ⟨fun _ _ => trivial, hR.go hSt (lt_of_block hb4) HQ14 20 rfl (by decide) _ _ (Below.refl _ _) rfl⟩
        | 21, ho =>
          simp at ho; subst ho; refine step_sk hF hR.2.1 HQ14 (j := 18) (b := true) rfl rfl (by kernel_rfl) (hpre ⟨18, .guard⟩ (by simp) rfl) rfl (by simp) ?_
          exact ⟨fun _ _ => trivial, hR.go hSt (lt_of_block hb4) HQ14 21 rfl (by decide) _ _ (Below.refl _ _) rfl⟩
        | 22, ho =>
          simp at ho; subst ho; refine step_sk hF hR.2.1 HQ14 (j := 18) (b := true) rfl rfl (by kernel_rfl) (hpre ⟨18, .guard⟩ (by simp) rfl) rfl (by simp) ?_
          exact ⟨fun _ _ => trivial, hR.go hSt (lt_of_block hb4) HQ14 22 rfl (by decide) _ _ (Below.refl _ _) rfl⟩
        | 23, ho =>
          simp at ho; subst ho; refine step_sk hF hR.2.1 HQ14 (j := 18) (b := true) rfl rfl (by kernel_rfl) (hpre ⟨18, .guard⟩ (by simp) rfl) rfl (by simp) ?_
          exact ⟨fun _ _ => trivial, hR.go hSt (lt_of_block hb4) HQ14 23 rfl (by decide) _ _ (Below.refl _ _) rfl⟩
        | 24, ho =>
          simp at ho; subst ho; refine step_plain rfl ?_; have e113 := hF.gv hR.2.1 HQ14 18 rfl (hpre ⟨18, .data⟩ (by simp) rfl) rfl; have e118 := hF.gv hR.2.1 HQ14 23 rfl (hpre ⟨23, .data⟩ (by simp) rfl) rfl; have hgoal := hR.go hSt (lt_of_block hb4) HQ14 24 rfl (by decide); clear hF hpre hl hR; go_simp; exact ⟨_, rfl, hgoal _ _ (Below.refl _ _) rfl⟩
        | 25, ho =>
          simp at ho; subst ho; refine step_plain rfl ?_; have e119 := hF.gv hR.2.1 HQ14 24 rfl (hpre ⟨24, .data⟩ (by simp) rfl) rfl; have hgoal := hR.go hSt (lt_of_block hb4) HQ14 25 rfl (by decide); clear hF hpre hl hR; go_simp; exact ⟨_, rfl, hgoal _ _ (Below.refl _ _) rfl⟩
        | 26, ho =>
          simp at ho; subst ho; refine step_sk hF hR.2.1 HQ14 (j := 25) (b := true) rfl rfl (by kernel_rfl) (hpre ⟨25, .guard⟩ (by simp) rfl) rfl (by simp) ?_
          exact ⟨fun _ _ => trivial, hR.go hSt (lt_of_block hb4) HQ14 26 rfl (by decide) _ _ (Below.refl _ _) rfl⟩
        | 27, ho =>
          simp at ho; subst ho; refine step_sk hF hR.2.1 HQ14 (j := 25) (b := true) rfl rfl (by kernel_rfl) (hpre ⟨25, .guard⟩ (by simp) rfl) rfl (by simp) ?_
          exact ⟨fun _ _ => trivial, hR.go hSt (lt_of_block hb4) HQ14 27 rfl (by decide) _ _ (Below.refl _ _) rfl⟩
        | 28, ho =>
          simp at ho; subst ho; refine step_sk hF hR.2.1 HQ14 (j := 25) (b := true) rfl rfl (by kernel_rfl) (hpre ⟨25, .guard⟩ (by simp) rfl) rfl (by simp) ?_
          exact ⟨fun _ _ => trivial, hR.go hSt (lt_of_block hb4) HQ14 28 rfl (by decide) _ _ (Below.refl _ _) rfl⟩
        | 29, ho =>
          simp at ho; subst ho; refine step_sk hF hR.2.1 HQ14 (j := 25) (b := true) rfl rfl (by kernel_rfl) (hpre ⟨25, .guard⟩ (by simp) rfl) rfl (by simp) ?_
          exact ⟨fun _ _ => trivial, hR.go hSt (lt_of_block hb4) HQ14 29 rfl (by decide) _ _ (Below.refl _ _) rfl⟩
        | 30, ho =>
          simp at ho; subst ho; refine step_sk hF hR.2.1 HQ14 (j := 25) (b := true) rfl rfl (by kernel_rfl) (hpre ⟨25, .guard⟩ (by simp) rfl) rfl (by simp) ?_
          exact ⟨fun _ _ => trivial, hR.go hSt (lt_of_block hb4) HQ14 30 rfl (by decide) _ _ (Below.refl _ _) rfl⟩
        | 31, ho =>
          simp at ho; subst ho; refine step_sk hF hR.2.1 HQ14 (j := 25) (b := true) rfl rfl (by kernel_rfl) (hpre ⟨25, .guard⟩ (by simp) rfl) rfl (by simp) ?_
          exact ⟨fun _ _ => trivial, hR.go hSt (lt_of_block hb4) HQ14 31 rfl (by decide) _ _ (Below.refl _ _) rfl⟩
        | 32, ho =>
          simp at ho; subst ho; refine step_sk hF hR.2.1 HQ14 (j := 25) (b := true) rfl rfl (by kernel_rfl) (hpre ⟨25, .guard⟩ (by simp) rfl) rfl (by simp) ?_
          exact ⟨fun _ _ => trivial, hR.go hSt (lt_of_block hb4) HQ14 32 rfl (by decide) _ _ (Below.refl _ _) rfl⟩
        | 33, ho =>
          simp at ho; subst ho; refine step_plain rfl ?_; have e120 := hF.gv hR.2.1 HQ14 25 rfl (hpre ⟨25, .data⟩ (by simp) rfl) rfl; have e127 := hF.gv hR.2.1 HQ14 32 rfl (hpre ⟨32, .data⟩ (by simp) rfl) rfl; have hgoal := hR.go hSt (lt_of_block hb4) HQ14 33 rfl (by decide); clear hF hpre hl hR; go_simp; exact ⟨_, rfl, hgoal _ _ (Below.refl _ _) rfl⟩
        | 34, ho =>
          simp at ho; subst ho; refine step_plain rfl ?_; have e10 := hF.was 10 (by kernel_rfl) rfl; have e95 := hF.gv hR.2.1 HQ14 0 rfl (hpre ⟨0, .data⟩ (by simp) rfl) rfl; have hN := hF.none2 hl (by decide)
          have hls : 34 < L.size := by rw [hF.lsize]; decide
          have qb := (hR.2.2.2 hN).trans hb4
          have g0 := cellOf (o := 0) qb rfl; have f0 := freeOf (o := 0) qb; have g1 := cellOf (o := 1) qb rfl; have f1 := freeOf (o := 1) qb; have g2 := cellOf (o := 2) qb rfl; have f2 := freeOf (o := 2) qb; have g3 := cellOf (o := 3) qb rfl; have f3 := freeOf (o := 3) qb; have g4 := cellOf (o := 4) qb rfl; have f4 := freeOf (o := 4) qb; have hgoal := RK.store (v := undef) hR hSt hls ((((((Kept.refl (w.heap.size + 1 + 1 + 1 + 1) x).setCell 0 (.int .i64 len)).setCell 1 (.int .i64 n)).setCell 2 (.int .i64 (since + 1))).setCell 3 (.int .i64 cyc)).setCell 4 (.bool false)) ((block_setCell (o := 4) (.bool false) (block_setCell (o := 3) (.int .i64 cyc) (block_setCell (o := 2) (.int .i64 (since + 1)) (block_setCell (o := 1) (.int .i64 n) (block_setCell (o := 0) (.int .i64 len) qb))))).trans (by rfl)) (QG.none HQ14 34 rfl (fun _ _ => trivial) _ _)
          have hq := lt_of_block qb
          have HG := Lib.hid hgoal
          clear hF hpre hl hR hls hN qb hgoal; go_simp
          exact ⟨undef, HG.out⟩
        | 35, ho =>
          simp at ho; subst ho; refine step_plain rfl ?_; have e96 := hF.gv hR.2.1 HQ14 1 rfl (hpre ⟨1, .data⟩ (by simp) rfl) rfl; have hgoal := hR.go hSt (lt_of_block hb4) HQ14 35 rfl (by decide); clear hF hpre hl hR; go_simp; exact ⟨_, rfl, hgoal _ _ (Below.refl _ _) rfl⟩
        | 36, ho =>
          simp at ho; subst ho; refine step_plain rfl ?_; have e128 := hF.gv hR.2.1 HQ14 33 rfl (hpre ⟨33, .data⟩ (by simp) rfl) rfl; have hgoal := hR.go hSt (lt_of_block hb4) HQ14 36 rfl (by decide); clear hF hpre hl hR; go_simp; exact ⟨_, rfl, hgoal _ _ (Below.refl _ _) rfl⟩
        | i + 37, ho => simp at ho
      case hend14 =>
        intro val L b' x hF hall hR
        have e := hF.all (by kernel_rfl) hall
        have k1435 := QG.val HQ14 rfl (hR.2.1 35 (hall 35 (by decide)))
        have k1436 := QG.val HQ14 rfl (hR.2.1 36 (hall 36 (by decide)))
        have bk14 := hR.2.2.1 (hall 34 (by decide))
        have hK14 := Lib.hid hR.1
        clear hF hall hR hSt HQ14
        subst e
        simp [final, dstOf, List.range, List.range.loop]
        rw [k1435]
        rw [k1436]
        have HQ := Lib.hid (HB6.out.trans (hK14.out.low (by omega)))
        go_wp2
        have d0 := cellOf (o := 0) bk14 rfl
        have d1 := cellOf (o := 1) bk14 rfl
        have d2 := cellOf (o := 2) bk14 rfl
        have d3 := cellOf (o := 3) bk14 rfl
        have d4 := cellOf (o := 4) bk14 rfl
        exact bodyPost_ret (v := .tuple #[.agg #[.int .i64 (len), .int .i64 (n), .int .i64 (since + 1), .int .i64 (cyc), .bool false], .bool false, .bool (false)]) (by simp [results, Try.results81, go_sem, d0, d1, d2, d3, d4]) rfl ⟨rfl, HQ.out⟩
  · rw [show posB (fun l u => carB X Y V l l y1 y2 u) cable charge ⟨len, wt, since, cyc, false, false⟩ 4 n = false by unfold posB; simp [show ¬ (1 ≤ n ∧ n ≤ 100000) from g1]]
    have H1 := Lib.hid (w7_no (a := n) (b := 1) (c := 100000) g1)
    go_enter Try.func81, Try.ntmps81
    go_upto_region 21 with (fail)
    have S6 := Lib.hid (st_next _ _ _ _ _ _ _ _ _ _ _ _ _ _ _ _ _ _ _ _ _ S5.out (.cells #[.int .i64 (len), .int .i64 (n), .int .i64 (since + 1), .int .i64 (cyc), .bool false] 61))
    clear S5
    generalize World.alloc _ _ = w6 at *
    have HB6 := Lib.hid S6.out.hb
    have hb4 := S6.out.b4
    have hs6 := S6.out.sz
    have x0 := cellOf (o := 0) S6.out.b0 rfl
    have c0 := cellOf (o := 0) S6.out.b2 rfl
    have m0 := cellOf (o := 0) S6.out.b5 rfl
    have x1 := cellOf (o := 1) S6.out.b0 rfl
    have c1 := cellOf (o := 1) S6.out.b2 rfl
    have m1 := cellOf (o := 1) S6.out.b5 rfl
    have x2 := cellOf (o := 2) S6.out.b0 rfl
    have c2 := cellOf (o := 2) S6.out.b2 rfl
    have m2 := cellOf (o := 2) S6.out.b5 rfl
    have x3 := cellOf (o := 3) S6.out.b0 rfl
    have c3 := cellOf (o := 3) S6.out.b2 rfl
    have m3 := cellOf (o := 3) S6.out.b5 rfl
    have x4 := cellOf (o := 4) S6.out.b0 rfl
    have c4 := cellOf (o := 4) S6.out.b2 rfl
    have m4 := cellOf (o := 4) S6.out.b5 rfl
    have p0 := cellOf (o := 0) S6.out.b1 rfl
    have l0 := cellOf (o := 0) S6.out.b3 rfl
    have p1 := cellOf (o := 1) S6.out.b1 rfl
    have l1 := cellOf (o := 1) S6.out.b3 rfl
    clear S6
    obtain ⟨Q15, hQ15⟩ : ∃ q9 : Nat → Value → World → Prop, q9 = QG [some (.agg #[.int .i64 len, .int .i64 n, .int .i64 (since + 1), .int .i64 cyc, .bool false]), some (.bool false), some (.pointer (some ⟨w.heap.size + 1 + 1 + 1, 1, none⟩)), some (.int .i64 n), some (.bool false), some (.bool false), some (undef), some (undef), some (undef), some (.bool false), some (.bool false), some (undef), some (undef), some (undef), some (.bool false), some (.bool false), some (undef), some (.bool false), some (.bool false), some (undef), some (undef), some (undef), some (undef), some (undef), some (.bool false), some (.bool false), some (undef), some (undef), some (undef), some (undef), some (undef), some (undef), some (undef), some (.bool false), none, some (.bool false), some (.bool false)] (fun _ _ _ => True) := ⟨_, rfl⟩
    have hSt : Still Q15 := by rw [hQ15]; exact QG.still
    have HQ15 := Lib.hid hQ15
    clear hQ15
    refine wpIn_wide.1 (region_inv2 (n := 9) (by kernel_rfl) (RK Q15 w6 34 (w.heap.size + 1 + 1 + 1 + 1) (.cells #[.int .i64 len, .int .i64 n, .int .i64 (since + 1), .int .i64 cyc, .bool false] 61 (0, 0))) (by kernel_rfl) rfl (RK.start _ _ _ _ _ _) ?hstep15 ?hend15)
    case hstep15 =>
      intro i' o ho val L b' x hF hR hpre hl
      match i', ho with
      | 0, ho =>
        simp at ho; subst ho; refine step_plain rfl ?_; have e13 := hF.was 13 (by kernel_rfl) rfl; have hgoal := hR.go hSt (lt_of_block hb4) HQ15 0 rfl (by decide); have q0 := hR.1.cell m0 (by omega); have q1 := hR.1.cell m1 (by omega); have q2 := hR.1.cell m2 (by omega); have q3 := hR.1.cell m3 (by omega); have q4 := hR.1.cell m4 (by omega); clear hF hpre hl hR; go_simp; exact ⟨_, rfl, hgoal _ _ (Below.refl _ _) rfl⟩
      | 1, ho =>
        simp at ho; subst ho; refine step_plain rfl ?_; have e3 := hF.was 3 (by kernel_rfl) rfl; have hgoal := hR.go hSt (lt_of_block hb4) HQ15 1 rfl (by decide); clear hF hpre hl hR; go_simp; exact ⟨_, rfl, hgoal _ _ (Below.refl _ _) rfl⟩
      | 2, ho =>
        simp at ho; subst ho; refine step_plain rfl ?_; have e9 := hF.was 9 (by kernel_rfl) rfl; have hgoal := hR.go hSt (lt_of_block hb4) HQ15 2 rfl (by decide); clear hF hpre hl hR; go_simp; exact ⟨_, rfl, hgoal _ _ (Below.refl _ _) rfl⟩
      | 3, ho =>
        simp at ho; subst ho; refine step_plain rfl ?_; have e97 := hF.gv hR.2.1 HQ15 2 rfl (hpre ⟨2, .data⟩ (by simp) rfl) rfl; have hgoal := hR.go hSt (lt_of_block hb4) HQ15 3 rfl (by decide); have q0 := hR.1.cell l1 (by omega); clear hF hpre hl hR; go_simp; exact ⟨_, rfl, hgoal _ _ (Below.refl _ _) rfl⟩
      | 4, ho =>
        simp at ho; subst ho; refine step_plain rfl ?_; have e98 := hF.gv hR.2.1 HQ15 3 rfl (hpre ⟨3, .data⟩ (by simp) rfl) rfl; have hgoal := hR.go hSt (lt_of_block hb4) HQ15 4 rfl (by decide)
        have hM := Lib.hid hR.1
        clear hF hpre hl hR; go_simp
        refine ⟨trivial, ?_⟩
        refine CallsIn.mono (callsIn_wide.2 (H1.out _)) ?_
        rintro e w9 ⟨rfl, rfl⟩
        exact ⟨_, rfl, hgoal _ _ (Below.refl _ _) rfl⟩
      | 5, ho =>
        simp at ho; subst ho; refine step_plain rfl ?_; have e99 := hF.gv hR.2.1 HQ15 4 rfl (hpre ⟨4, .data⟩ (by simp) rfl) rfl; have hgoal := hR.go hSt (lt_of_block hb4) HQ15 5 rfl (by decide); clear hF hpre hl hR; go_simp; exact ⟨_, rfl, hgoal _ _ (Below.refl _ _) rfl⟩
      | 6, ho =>
        simp at ho; subst ho; refine step_sk hF hR.2.1 HQ15 (j := 5) (b := true) rfl rfl (by kernel_rfl) (hpre ⟨5, .guard⟩ (by simp) rfl) rfl (by simp) ?_
        exact ⟨fun _ _ => trivial, hR.go hSt (lt_of_block hb4) HQ15 6 rfl (by decide) _ _ (Below.refl _ _) rfl⟩
      | 7, ho =>
        simp at ho; subst ho; refine step_sk hF hR.2.1 HQ15 (j := 5) (b := true) rfl rfl (by kernel_rfl) (hpre ⟨5, .guard⟩ (by simp) rfl) rfl (by simp) ?_
        exact ⟨fun _ _ => trivial, hR.go hSt (lt_of_block hb4) HQ15 7 rfl (by decide) _ _ (Below.refl _ _) rfl⟩
      | 8, ho =>
        simp at ho; subst ho; refine step_sk hF hR.2.1 HQ15 (j := 5) (b := true) rfl rfl (by kernel_rfl) (hpre ⟨5, .guard⟩ (by simp) rfl) rfl (by simp) ?_
        exact ⟨fun _ _ => trivial, hR.go hSt (lt_of_block hb4) HQ15 8 rfl (by decide) _ _ (Below.refl _ _) rfl⟩
      | 9, ho =>
        simp at ho; subst ho; refine step_plain rfl ?_; have e100 := hF.gv hR.2.1 HQ15 5 rfl (hpre ⟨5, .data⟩ (by simp) rfl) rfl; have e103 := hF.gv hR.2.1 HQ15 8 rfl (hpre ⟨8, .data⟩ (by simp) rfl) rfl; have hgoal := hR.go hSt (lt_of_block hb4) HQ15 9 rfl (by decide); clear hF hpre hl hR; go_simp; exact ⟨_, rfl, hgoal _ _ (Below.refl _ _) rfl⟩
      | 10, ho =>
        simp at ho; subst ho; refine step_plain rfl ?_; have e104 := hF.gv hR.2.1 HQ15 9 rfl (hpre ⟨9, .data⟩ (by simp) rfl) rfl; have hgoal := hR.go hSt (lt_of_block hb4) HQ15 10 rfl (by decide); clear hF hpre hl hR; go_simp; exact ⟨_, rfl, hgoal _ _ (Below.refl _ _) rfl⟩
      | 11, ho =>
        simp at ho; subst ho; refine step_sk hF hR.2.1 HQ15 (j := 10) (b := true) rfl rfl (by kernel_rfl) (hpre ⟨10, .guard⟩ (by simp) rfl) rfl (by simp) ?_
        exact ⟨fun _ _ => trivial, hR.go hSt (lt_of_block hb4) HQ15 11 rfl (by decide) _ _ (Below.refl _ _) rfl⟩
      | 12, ho =>
        simp at ho; subst ho; refine step_sk hF hR.2.1 HQ15 (j := 10) (b := true) rfl rfl (by kernel_rfl) (hpre ⟨10, .guard⟩ (by simp) rfl) rfl (by simp) ?_
        exact ⟨fun _ _ => trivial, hR.go hSt (lt_of_block hb4) HQ15 12 rfl (by decide) _ _ (Below.refl _ _) rfl⟩
      | 13, ho =>
        simp at ho; subst ho; refine step_sk hF hR.2.1 HQ15 (j := 10) (b := true) rfl rfl (by kernel_rfl) (hpre ⟨10, .guard⟩ (by simp) rfl) rfl (by simp) ?_
        exact ⟨fun _ _ => trivial, hR.go hSt (lt_of_block hb4) HQ15 13 rfl (by decide) _ _ (Below.refl _ _) rfl⟩
      | 14, ho =>
        simp at ho; subst ho; refine step_plain rfl ?_; have e105 := hF.gv hR.2.1 HQ15 10 rfl (hpre ⟨10, .data⟩ (by simp) rfl) rfl; have e108 := hF.gv hR.2.1 HQ15 13 rfl (hpre ⟨13, .data⟩ (by simp) rfl) rfl; have hgoal := hR.go hSt (lt_of_block hb4) HQ15 14 rfl (by decide); clear hF hpre hl hR; go_simp; exact ⟨_, rfl, hgoal _ _ (Below.refl _ _) rfl⟩
      | 15, ho =>
        simp at ho; subst ho; refine step_plain rfl ?_; have e109 := hF.gv hR.2.1 HQ15 14 rfl (hpre ⟨14, .data⟩ (by simp) rfl) rfl; have hgoal := hR.go hSt (lt_of_block hb4) HQ15 15 rfl (by decide); clear hF hpre hl hR; go_simp; exact ⟨_, rfl, hgoal _ _ (Below.refl _ _) rfl⟩
      | 16, ho =>
        simp at ho; subst ho; refine step_sk hF hR.2.1 HQ15 (j := 15) (b := true) rfl rfl (by kernel_rfl) (hpre ⟨15, .guard⟩ (by simp) rfl) rfl (by simp) ?_
        exact ⟨fun _ _ => trivial, hR.go hSt (lt_of_block hb4) HQ15 16 rfl (by decide) _ _ (Below.refl _ _) rfl⟩
      | 17, ho =>
        simp at ho; subst ho; refine step_plain rfl ?_; have e110 := hF.gv hR.2.1 HQ15 15 rfl (hpre ⟨15, .data⟩ (by simp) rfl) rfl; have e111 := hF.gv hR.2.1 HQ15 16 rfl (hpre ⟨16, .data⟩ (by simp) rfl) rfl; have hgoal := hR.go hSt (lt_of_block hb4) HQ15 17 rfl (by decide); clear hF hpre hl hR; go_simp; exact ⟨_, rfl, hgoal _ _ (Below.refl _ _) rfl⟩
      | 18, ho =>
        simp at ho; subst ho; refine step_plain rfl ?_; have e112 := hF.gv hR.2.1 HQ15 17 rfl (hpre ⟨17, .data⟩ (by simp) rfl) rfl; have hgoal := hR.go hSt (lt_of_block hb4) HQ15 18 rfl (by decide); clear hF hpre hl hR; go_simp; exact ⟨_, rfl, hgoal _ _ (Below.refl _ _) rfl⟩
      | 19, ho =>
        simp at ho; subst ho; refine step_sk hF hR.2.1 HQ15 (j := 18) (b := true) rfl rfl (by kernel_rfl) (hpre ⟨18, .guard⟩ (by simp) rfl) rfl (by simp) ?_
        exact ⟨fun _ _ => trivial, hR.go hSt (lt_of_block hb4) HQ15 19 rfl (by decide) _ _ (Below.refl _ _) rfl⟩
      | 20, ho =>
        simp at ho; subst ho; refine step_sk hF hR.2.1 HQ15 (j := 18) (b := true) rfl rfl (by kernel_rfl) (hpre ⟨18, .guard⟩ (by simp) rfl) rfl (by simp) ?_
        exact ⟨fun _ _ => trivial, hR.go hSt (lt_of_block hb4) HQ15 20 rfl (by decide) _ _ (Below.refl _ _) rfl⟩
      | 21, ho =>
        simp at ho; subst ho; refine step_sk hF hR.2.1 HQ15 (j := 18) (b := true) rfl rfl (by kernel_rfl) (hpre ⟨18, .guard⟩ (by simp) rfl) rfl (by simp) ?_
        exact ⟨fun _ _ => trivial, hR.go hSt (lt_of_block hb4) HQ15 21 rfl (by decide) _ _ (Below.refl _ _) rfl⟩
      | 22, ho =>
        simp at ho; subst ho; refine step_sk hF hR.2.1 HQ15 (j := 18) (b := true) rfl rfl (by kernel_rfl) (hpre ⟨18, .guard⟩ (by simp) rfl) rfl (by simp) ?_
        exact ⟨fun _ _ => trivial, hR.go hSt (lt_of_block hb4) HQ15 22 rfl (by decide) _ _ (Below.refl _ _) rfl⟩
      | 23, ho =>
        simp at ho; subst ho; refine step_sk hF hR.2.1 HQ15 (j := 18) (b := true) rfl rfl (by kernel_rfl) (hpre ⟨18, .guard⟩ (by simp) rfl) rfl (by simp) ?_
        exact ⟨fun _ _ => trivial, hR.go hSt (lt_of_block hb4) HQ15 23 rfl (by decide) _ _ (Below.refl _ _) rfl⟩
      | 24, ho =>
        simp at ho; subst ho; refine step_plain rfl ?_; have e113 := hF.gv hR.2.1 HQ15 18 rfl (hpre ⟨18, .data⟩ (by simp) rfl) rfl; have e118 := hF.gv hR.2.1 HQ15 23 rfl (hpre ⟨23, .data⟩ (by simp) rfl) rfl; have hgoal := hR.go hSt (lt_of_block hb4) HQ15 24 rfl (by decide); clear hF hpre hl hR; go_simp; exact ⟨_, rfl, hgoal _ _ (Below.refl _ _) rfl⟩
      | 25, ho =>
        simp at ho; subst ho; refine step_plain rfl ?_; have e119 := hF.gv hR.2.1 HQ15 24 rfl (hpre ⟨24, .data⟩ (by simp) rfl) rfl; have hgoal := hR.go hSt (lt_of_block hb4) HQ15 25 rfl (by decide); clear hF hpre hl hR; go_simp; exact ⟨_, rfl, hgoal _ _ (Below.refl _ _) rfl⟩
      | 26, ho =>
        simp at ho; subst ho; refine step_sk hF hR.2.1 HQ15 (j := 25) (b := true) rfl rfl (by kernel_rfl) (hpre ⟨25, .guard⟩ (by simp) rfl) rfl (by simp) ?_
        exact ⟨fun _ _ => trivial, hR.go hSt (lt_of_block hb4) HQ15 26 rfl (by decide) _ _ (Below.refl _ _) rfl⟩
      | 27, ho =>
        simp at ho; subst ho; refine step_sk hF hR.2.1 HQ15 (j := 25) (b := true) rfl rfl (by kernel_rfl) (hpre ⟨25, .guard⟩ (by simp) rfl) rfl (by simp) ?_
        exact ⟨fun _ _ => trivial, hR.go hSt (lt_of_block hb4) HQ15 27 rfl (by decide) _ _ (Below.refl _ _) rfl⟩
      | 28, ho =>
        simp at ho; subst ho; refine step_sk hF hR.2.1 HQ15 (j := 25) (b := true) rfl rfl (by kernel_rfl) (hpre ⟨25, .guard⟩ (by simp) rfl) rfl (by simp) ?_
        exact ⟨fun _ _ => trivial, hR.go hSt (lt_of_block hb4) HQ15 28 rfl (by decide) _ _ (Below.refl _ _) rfl⟩
      | 29, ho =>
        simp at ho; subst ho; refine step_sk hF hR.2.1 HQ15 (j := 25) (b := true) rfl rfl (by kernel_rfl) (hpre ⟨25, .guard⟩ (by simp) rfl) rfl (by simp) ?_
        exact ⟨fun _ _ => trivial, hR.go hSt (lt_of_block hb4) HQ15 29 rfl (by decide) _ _ (Below.refl _ _) rfl⟩
      | 30, ho =>
        simp at ho; subst ho; refine step_sk hF hR.2.1 HQ15 (j := 25) (b := true) rfl rfl (by kernel_rfl) (hpre ⟨25, .guard⟩ (by simp) rfl) rfl (by simp) ?_
        exact ⟨fun _ _ => trivial, hR.go hSt (lt_of_block hb4) HQ15 30 rfl (by decide) _ _ (Below.refl _ _) rfl⟩
      | 31, ho =>
        simp at ho; subst ho; refine step_sk hF hR.2.1 HQ15 (j := 25) (b := true) rfl rfl (by kernel_rfl) (hpre ⟨25, .guard⟩ (by simp) rfl) rfl (by simp) ?_
        exact ⟨fun _ _ => trivial, hR.go hSt (lt_of_block hb4) HQ15 31 rfl (by decide) _ _ (Below.refl _ _) rfl⟩
      | 32, ho =>
        simp at ho; subst ho; refine step_sk hF hR.2.1 HQ15 (j := 25) (b := true) rfl rfl (by kernel_rfl) (hpre ⟨25, .guard⟩ (by simp) rfl) rfl (by simp) ?_
        exact ⟨fun _ _ => trivial, hR.go hSt (lt_of_block hb4) HQ15 32 rfl (by decide) _ _ (Below.refl _ _) rfl⟩
      | 33, ho =>
        simp at ho; subst ho; refine step_plain rfl ?_; have e120 := hF.gv hR.2.1 HQ15 25 rfl (hpre ⟨25, .data⟩ (by simp) rfl) rfl; have e127 := hF.gv hR.2.1 HQ15 32 rfl (hpre ⟨32, .data⟩ (by simp) rfl) rfl; have hgoal := hR.go hSt (lt_of_block hb4) HQ15 33 rfl (by decide); clear hF hpre hl hR; go_simp; exact ⟨_, rfl, hgoal _ _ (Below.refl _ _) rfl⟩
      | 34, ho =>
        simp at ho; subst ho; refine step_plain rfl ?_; have e10 := hF.was 10 (by kernel_rfl) rfl; have e95 := hF.gv hR.2.1 HQ15 0 rfl (hpre ⟨0, .data⟩ (by simp) rfl) rfl; have hN := hF.none2 hl (by decide)
        have hls : 34 < L.size := by rw [hF.lsize]; decide
        have qb := (hR.2.2.2 hN).trans hb4
        have g0 := cellOf (o := 0) qb rfl; have f0 := freeOf (o := 0) qb; have g1 := cellOf (o := 1) qb rfl; have f1 := freeOf (o := 1) qb; have g2 := cellOf (o := 2) qb rfl; have f2 := freeOf (o := 2) qb; have g3 := cellOf (o := 3) qb rfl; have f3 := freeOf (o := 3) qb; have g4 := cellOf (o := 4) qb rfl; have f4 := freeOf (o := 4) qb; have hgoal := RK.store (v := undef) hR hSt hls ((((((Kept.refl (w.heap.size + 1 + 1 + 1 + 1) x).setCell 0 (.int .i64 len)).setCell 1 (.int .i64 n)).setCell 2 (.int .i64 (since + 1))).setCell 3 (.int .i64 cyc)).setCell 4 (.bool false)) ((block_setCell (o := 4) (.bool false) (block_setCell (o := 3) (.int .i64 cyc) (block_setCell (o := 2) (.int .i64 (since + 1)) (block_setCell (o := 1) (.int .i64 n) (block_setCell (o := 0) (.int .i64 len) qb))))).trans (by rfl)) (QG.none HQ15 34 rfl (fun _ _ => trivial) _ _)
        have hq := lt_of_block qb
        have HG := Lib.hid hgoal
        clear hF hpre hl hR hls hN qb hgoal; go_simp
        exact ⟨undef, HG.out⟩
      | 35, ho =>
        simp at ho; subst ho; refine step_plain rfl ?_; have e96 := hF.gv hR.2.1 HQ15 1 rfl (hpre ⟨1, .data⟩ (by simp) rfl) rfl; have hgoal := hR.go hSt (lt_of_block hb4) HQ15 35 rfl (by decide); clear hF hpre hl hR; go_simp; exact ⟨_, rfl, hgoal _ _ (Below.refl _ _) rfl⟩
      | 36, ho =>
        simp at ho; subst ho; refine step_plain rfl ?_; have e128 := hF.gv hR.2.1 HQ15 33 rfl (hpre ⟨33, .data⟩ (by simp) rfl) rfl; have hgoal := hR.go hSt (lt_of_block hb4) HQ15 36 rfl (by decide); clear hF hpre hl hR; go_simp; exact ⟨_, rfl, hgoal _ _ (Below.refl _ _) rfl⟩
      | i + 37, ho => simp at ho
    case hend15 =>
      intro val L b' x hF hall hR
      have e := hF.all (by kernel_rfl) hall
      have k1535 := QG.val HQ15 rfl (hR.2.1 35 (hall 35 (by decide)))
      have k1536 := QG.val HQ15 rfl (hR.2.1 36 (hall 36 (by decide)))
      have bk15 := hR.2.2.1 (hall 34 (by decide))
      have hK15 := Lib.hid hR.1
      clear hF hall hR hSt HQ15
      subst e
      simp [final, dstOf, List.range, List.range.loop]
      rw [k1535]
      rw [k1536]
      have HQ := Lib.hid (HB6.out.trans (hK15.out.low (by omega)))
      go_wp2
      have d0 := cellOf (o := 0) bk15 rfl
      have d1 := cellOf (o := 1) bk15 rfl
      have d2 := cellOf (o := 2) bk15 rfl
      have d3 := cellOf (o := 3) bk15 rfl
      have d4 := cellOf (o := 4) bk15 rfl
      exact bodyPost_ret (v := .tuple #[.agg #[.int .i64 (len), .int .i64 (n), .int .i64 (since + 1), .int .i64 (cyc), .bool false], .bool false, .bool (false)]) (by simp [results, Try.results81, go_sem, d0, d1, d2, d3, d4]) rfl ⟨rfl, HQ.out⟩

end
end Go.Proofs.Ytnnmmojlgikdgaa

/- The reference's Step. -/
namespace Go.Proofs.Ytnnmmojlgikdgaa
open Go.RowKit

/-- How the reference's Step leaves the hoist. -/
def rT (p : Bool) (s : HG) (k n : Int) : HG := if s.cut then s else if k = 3 ∨ k = 4 ∨ k = 5 ∨ k = 6 then plS s k n else if p then plS s k n else s
theorem rT_yes {car : Int → Int → Bool} {cable charge : Int} {s : HG} {k n : Int} (h : doB car cable charge s k n = true) : rT true s k n = plS s k n := by
  have hc : s.cut = false := by unfold doB at h; simp at h; exact h.1
  unfold rT
  rw [hc]
  simp
section
variable (cable charge y1 y2 : Int) (k n : Int) (AX AY AV : Option Addr) (nx cx ny cy nv cv B : Nat) (X Y : List Int) (V : List (List Int)) (w : World)
theorem rstep_any (m : Nat) (hm : m ≤ 1000) (s : HG) (h : HT w B AX AY AV nx ny nv X Y V) (hG : GD cable m s) (z2 : cable ≤ 100) :
    Calls Try.prog 81 #[.agg #[.int .i64 cable, .slice AX nx cx, .slice AY ny cy, .slice AV nv cv, .int .i64 charge], .agg #[.int .i64 y1, .int .i64 y2], HA s, .bool s.touched, .agg #[.int .i64 k, .int .i64 n]] w (GivesT w (doB (fun l u => carB X Y V l l y1 y2 u) cable charge s k n) (rT (doB (fun l u => carB X Y V l l y1 y2 u) cable charge s k n) s k n)) := by
  obtain ⟨len, wt, since, cyc, cut, tch⟩ := s
  have sm : since ≤ m := hG.s1
  have cm : cyc ≤ m := hG.c1
  unfold doB rT
  simp only [HA]
  cases cut with
  | true => exact step_cut cable charge y1 y2 len wt since cyc tch k n AX AY AV nx cx ny cy nv cv B X Y V w h hG.l0 hG.l1 z2 hG.w0 hG.s0 (by omega) hG.c0 (by omega)
  | false =>
    simp only [Bool.not_false, Bool.true_and, Bool.false_eq_true, if_false]
    by_cases k1 : k = 1
    · subst k1
      have := step1 cable charge y1 y2 len wt since cyc tch n AX AY AV nx cx ny cy nv cv B X Y V w h hG.l0 hG.l1 z2 hG.w0 hG.s0 (by omega) hG.c0 (by omega)
      simpa [plS] using this
    by_cases k2 : k = 2
    · subst k2
      have := step2 cable charge y1 y2 len wt since cyc tch n AX AY AV nx cx ny cy nv cv B X Y V w h hG.l0 hG.l1 z2 hG.w0 hG.s0 (by omega) hG.c0 (by omega)
      simpa [plS] using this
    by_cases k3 : k = 3
    · subst k3
      have := step3 cable charge y1 y2 len wt since cyc tch n AX AY AV nx cx ny cy nv cv B X Y V w h hG.l0 hG.l1 z2 hG.w0 hG.s0 (by omega) hG.c0 (by omega)
      simpa [plS, posB] using this
    by_cases k4 : k = 4
    · subst k4
      cases tch with
      | true => have := step4_true cable charge y1 y2 len wt since cyc n AX AY AV nx cx ny cy nv cv B X Y V w h hG.l0 hG.l1 z2 hG.w0 hG.s0 (by omega) hG.c0 (by omega); simpa [plS] using this
      | false => have := step4_false cable charge y1 y2 len wt since cyc n AX AY AV nx cx ny cy nv cv B X Y V w h hG.l0 hG.l1 z2 hG.w0 hG.s0 (by omega) hG.c0 (by omega); simpa [plS] using this
    by_cases k5 : k = 5
    · subst k5
      have := step5 cable charge y1 y2 len wt since cyc tch n AX AY AV nx cx ny cy nv cv B X Y V w h hG.l0 hG.l1 z2 hG.w0 hG.s0 (by omega) hG.c0 (by omega)
      simpa [plS, posB] using this
    by_cases k6 : k = 6
    · subst k6
      have := step6 cable charge y1 y2 len wt since cyc tch n AX AY AV nx cx ny cy nv cv B X Y V w h hG.l0 hG.l1 z2 hG.w0 hG.s0 (by omega) hG.c0 (by omega)
      simpa [plS, posB] using this
    have := step0 cable charge y1 y2 len wt since cyc tch k n AX AY AV nx cx ny cy nv cv B X Y V w h hG.l0 hG.l1 z2 hG.w0 hG.s0 (by omega) hG.c0 (by omega) k1 k2 k3 k4 k5 k6
    have hp : posB (fun l u => carB X Y V l l y1 y2 u) cable charge ⟨len, wt, since, cyc, false, tch⟩ k n = false := by unfold posB; simp [k1, k2, k3, k4, k5, k6]
    simpa [hp, k3, k4, k5, k6] using this
end
end Go.Proofs.Ytnnmmojlgikdgaa

/- The reference's Haul: its loop. -/
namespace Go.Proofs.Ytnnmmojlgikdgaa
open Go.RowKit

section
variable (cable charge y1 y2 : Int) (AX AY AV A : Option Addr) (nx cx ny cy nv cv B na ca : Nat) (X Y : List Int) (V : List (List Int)) (LL : List (Int × Int)) (w : World)

set_option maxRecDepth 100000 in
set_option maxHeartbeats 4000000 in
theorem rhaul_run (h : HT w B AX AY AV nx ny nv X Y V) (hL : LL.length = na) (hr : RS w B A LL) (h0 : cwE X Y V cable charge y1 y2 = 0) (hn : na ≤ 100) (R : HG × Int) (hR : hauR (doB (fun l u => carB X Y V l l y1 y2 u) cable charge) LL zeroH 0 = R) (r : HG × Int × Int) (hr9 : r = if 0 ≤ R.2 then (zeroH, R.2, 72) else (R.1, 0, 0)) :
    Calls Try.prog 35 #[.agg #[.int .i64 cable, .slice AX nx cx, .slice AY ny cy, .slice AV nv cv, .int .i64 charge], .agg #[.int .i64 y1, .int .i64 y2], .slice A na ca] w fun e w' => e = .returned (.tuple #[HA r.1, .int .i64 r.2.1, .int .i64 r.2.2]) ∧ Below w.heap.size w w' := by
  subst hL
  have HR9 := Lib.hid hr9
  clear hr9
  have hz := hz_of h0
  have HCW := Lib.hid (fun (W : World) (hW : Below w.heap.size w W) => checkWinds_any cable charge y1 y2 AX AY AV nx cx ny cy nv cv B X Y V W (h.below hW))
  rw [h0] at HCW
  have HST := Lib.hid (fun (W : World) (hW : Below w.heap.size w W) (k n : Int) (m : Nat) (hm : m ≤ 1000) (s : HG) (hG : GD cable m s) => rstep_any cable charge y1 y2 k n AX AY AV nx cx ny cy nv cv B X Y V W m hm s (h.below hW) hG hz.c2)
  have HPL := Lib.hid (fun (m : Nat) (s : HG) (k n : Int) (hG : GD cable m s) (hp : doB (fun l u => carB X Y V l l y1 y2 u) cable charge s k n = true) => GD.play hG (by have := hz.c1; omega) (doB_pos hp))
  have HRT := Lib.hid (fun (s : HG) (k n : Int) (hp : doB (fun l u => carB X Y V l l y1 y2 u) cable charge s k n = true) => rT_yes hp)
  have HG0 := Lib.hid (zero_good (cable := cable) (by have := hz.c1; omega))
  have HRS := Lib.hid (fun (W : World) (hW : Below w.heap.size w W) => hr.below (hW.mono h.hB))
  have hB' := h.hB
  generalize doB (fun l u => carB X Y V l l y1 y2 u) cable charge = P at *
  have HR := Lib.hid hR
  have HX0 := Lib.hid (show HX (((w.alloc (.cells #[.int .i64 cable, .slice AX nx cx, .slice AY ny cy, .slice AV nv cv, .int .i64 charge] 57)).alloc (.cells #[.int .i64 y1, .int .i64 y2] 27)).alloc (.cells #[.int .i64 0, .int .i64 0, .int .i64 0, .int .i64 0, .bool false] 61)) (w.heap.size + 1 + 1) zeroH from blk_new _ _ _ (by simp))
  have HC0 := Lib.hid (show (((w.alloc (.cells #[.int .i64 cable, .slice AX nx cx, .slice AY ny cy, .slice AV nv cv, .int .i64 charge] 57)).alloc (.cells #[.int .i64 y1, .int .i64 y2] 27)).alloc (.cells #[.int .i64 0, .int .i64 0, .int .i64 0, .int .i64 0, .bool false] 61)).heap[w.heap.size]? = some (.cells #[.int .i64 cable, .slice AX nx cx, .slice AY ny cy, .slice AV nv cv, .int .i64 charge] 57 (0, 0)) from blk_old _ (blk_old _ (blk_new _ _ _ rfl)))
  have HD0 := Lib.hid (show (((w.alloc (.cells #[.int .i64 cable, .slice AX nx cx, .slice AY ny cy, .slice AV nv cv, .int .i64 charge] 57)).alloc (.cells #[.int .i64 y1, .int .i64 y2] 27)).alloc (.cells #[.int .i64 0, .int .i64 0, .int .i64 0, .int .i64 0, .bool false] 61)).heap[w.heap.size + 1]? = some (.cells #[.int .i64 y1, .int .i64 y2] 27 (0, 0)) from blk_old _ (blk_new _ _ _ (by simp)))
  clear hR h hr h0 hz
  go_enter Try.func35, Try.ntmps35
  go_wp2_with (go_at_call 46; refine Calls.mono (HCW.out _ (by go_grown)) ?_; rintro e w3 ⟨rfl, hb3⟩; have hl3 : w.heap.size + 1 + 1 < w3.heap.size := (HX0.out.stay hb3).lt; have HX3 := Lib.hid (HX0.out.stay hb3); have HC3 := Lib.hid ((hb3.block _ (lt_of_block HC0.out)).trans HC0.out); have HD3 := Lib.hid ((hb3.block _ (lt_of_block HD0.out)).trans HD0.out); have HB3 := Lib.hid (Below.trans (show Below w.heap.size w _ by go_grown) (hb3.mono (by simp <;> omega))); clear hb3)
  have HBA := Lib.hid (HB3.out.alloc HB3.out.size (.cells #[.int .i64 0, .int .i64 0, .int .i64 0, .int .i64 0, .bool false] 61))
  have HXA := Lib.hid (show HX (w3.alloc (.cells #[.int .i64 0, .int .i64 0, .int .i64 0, .int .i64 0, .bool false] 61)) (w.heap.size + 1 + 1) zeroH from blk_old _ HX3.out)
  have HNA := Lib.hid (show HX (w3.alloc (.cells #[.int .i64 0, .int .i64 0, .int .i64 0, .int .i64 0, .bool false] 61)) w3.heap.size zeroH from blk_new _ _ _ rfl)
  have HCA := Lib.hid (blk_old (.cells #[.int .i64 0, .int .i64 0, .int .i64 0, .int .i64 0, .bool false] 61) HC3.out)
  have HDA := Lib.hid (blk_old (.cells #[.int .i64 0, .int .i64 0, .int .i64 0, .int .i64 0, .bool false] 61) HD3.out)
  go_loopw [11, 12] (fun tt i wr => ∃ (j : Nat) (s : HG), j ≤ LL.length ∧ i = .int .i64 j ∧ tt = .bool s.touched ∧ hauR P (LL.drop j) s j = R ∧ GD cable j s ∧ HX wr w3.heap.size s ∧ HX wr (w.heap.size + 1 + 1) zeroH ∧ wr.heap[w.heap.size]? = some (.cells #[.int .i64 cable, .slice AX nx cx, .slice AY ny cy, .slice AV nv cv, .int .i64 charge] 57 (0, 0)) ∧ wr.heap[w.heap.size + 1]? = some (.cells #[.int .i64 y1, .int .i64 y2] 27 (0, 0)) ∧ Below w.heap.size w wr) (fun _ i _ => LL.length - (intOf i).toNat)
  case atStart => exact ⟨0, zeroH, Nat.zero_le _, rfl, rfl, by simpa using HR.out, HG0.out, HNA.out, HXA.out, HCA.out, HDA.out, HBA.out⟩
  case round =>
    obtain ⟨j, s, hj, rfl, rfl, hs, hg, hxn, hx0, hc, hd, hbw⟩ := hrel
    have hsz := hbw.size
    by_cases hlt : j < LL.length
    · obtain ⟨b, off, xx, rfl, hb, hx, hc1, hc2⟩ := (HRS.out wr hbw).at_ hlt
      have hb' : b < wr.heap.size := World.block_lt_of_cell? _ _ hc1
      obtain ⟨k, n⟩ := xx
      simp only at hc1 hc2
      have hst := hauR_step (p := P) (s := s) hx
      rw [hs] at hst
      simp only at hst
      have HC := Lib.hid (fun (W : World) (hW : Below w.heap.size w W) => HST.out W hW k n j (by omega) s hg)
      simp only [HA] at HC
      have n0 := cellOf (o := 0) hxn rfl
      have x0 := cellOf (o := 0) hc rfl
      have n1 := cellOf (o := 1) hxn rfl
      have x1 := cellOf (o := 1) hc rfl
      have n2 := cellOf (o := 2) hxn rfl
      have x2 := cellOf (o := 2) hc rfl
      have n3 := cellOf (o := 3) hxn rfl
      have x3 := cellOf (o := 3) hc rfl
      have n4 := cellOf (o := 4) hxn rfl
      have x4 := cellOf (o := 4) hc rfl
      have p0 := cellOf (o := 0) hd rfl
      have p1 := cellOf (o := 1) hd rfl
      have hln := hxn.lt
      have HXNW := Lib.hid hxn
      have HX0W := Lib.hid hx0
      have HCW9 := Lib.hid hc
      have HDW9 := Lib.hid hd
      have HBW := Lib.hid hbw
      have HGJ := Lib.hid hg
      clear hs hg hxn hx0 hc hd hbw hx
      cases hp : P s k n with
      | false =>
        rw [hp] at hst HC
        simp only [Bool.false_eq_true, if_false] at hst
        have HST2 := Lib.hid hst
        clear hst hp
        generalize rT false s k n = t at *
        obtain ⟨tl, tw, ts, tc, tu, tt⟩ := t
        go_upto_region 13 with (fail)
        obtain ⟨Q, hQ⟩ : ∃ q9 : Nat → Value → World → Prop, q9 = QG [some (.agg #[.int .i64 cable, .slice AX nx cx, .slice AY ny cy, .slice AV nv cv, .int .i64 charge]), some (.agg #[.int .i64 y1, .int .i64 y2]), some (.agg #[.int .i64 s.len, .int .i64 s.wt, .int .i64 s.since, .int .i64 s.cyc, .bool s.cut]), some (.bool s.touched), some (.slice (some ⟨b, off, none⟩) LL.length ca), some (.int .i64 ((j : Int))), some (.pointer (some ⟨b, off + j * 2, none⟩)), some (.agg #[.int .i64 k, .int .i64 n]), some (.tuple #[.agg #[.int .i64 tl, .int .i64 tw, .int .i64 ts, .int .i64 tc, .bool tu], .bool tt, .bool false]), some (.tuple #[.agg #[.int .i64 tl, .int .i64 tw, .int .i64 ts, .int .i64 tc, .bool tu], .bool tt, .bool false]), some (.agg #[.int .i64 tl, .int .i64 tw, .int .i64 ts, .int .i64 tc, .bool tu]), some (.bool tt), some (.bool false), none, none, some (.bool tt), some (.bool false)] (fun _ _ _ => True) := ⟨_, rfl⟩
        obtain ⟨E, hE⟩ : ∃ q9 : Nat → Value → World → Prop, q9 = (fun _ _ _ => True) := ⟨_, rfl⟩
        have hSt : Still Q := by rw [hQ]; exact QG.still
        have hEs : Stays E := by rw [hE]; exact fun _ _ _ _ _ _ => trivial
        have XF := Lib.hid (show ∀ j, decide (j ∈ ([] : List Nat)) = false → ∀ v0' w0', E j v0' w0' from fun j hj v0' w0' => by rw [hE]; exact trivial)
        have HQ := Lib.hid hQ
        clear hQ hE
        refine wpIn_wide.1 (region_inv2 (n := 9) (by kernel_rfl) (RB Q E wr 14 13 #[.int .i64 0, .int .i64 0, .int .i64 0, .int .i64 0, .bool false] #[.int .i64 tl, .int .i64 tw, .int .i64 ts, .int .i64 tc, .bool tu] 61) (by kernel_rfl) rfl (RB.start _ _ _ _ _ _ _ _ _) ?hstep ?hend)
        case hstep =>
          intro i' o ho val L b' x hF hR hpre hl
          match i', ho with
          | 0, ho =>
            simp at ho; subst ho; refine step_plain rfl ?_; have e3 := hF.was 3 (by kernel_rfl) rfl; have hgoal := hR.go hSt hEs HQ 0 rfl (XF.out 0 (by decide)) (by decide) (by decide); have q0 := cell_keep hR.1 x0; have q1 := cell_keep hR.1 x1; have q2 := cell_keep hR.1 x2; have q3 := cell_keep hR.1 x3; have q4 := cell_keep hR.1 x4; clear hF hpre hl hR; go_simp; exact ⟨_, rfl, hgoal _ _ (Below.refl _ _) rfl⟩
          | 1, ho =>
            simp at ho; subst ho; refine step_plain rfl ?_; have e4 := hF.was 4 (by kernel_rfl) rfl; have hgoal := hR.go hSt hEs HQ 1 rfl (XF.out 1 (by decide)) (by decide) (by decide); have q0 := cell_keep hR.1 p0; have q1 := cell_keep hR.1 p1; clear hF hpre hl hR; go_simp; exact ⟨_, rfl, hgoal _ _ (Below.refl _ _) rfl⟩
          | 2, ho =>
            simp at ho; subst ho; refine step_plain rfl ?_; have e10 := hF.was 10 (by kernel_rfl) rfl; have hgoal := hR.go hSt hEs HQ 2 rfl (XF.out 2 (by decide)) (by decide) (by decide); have q0 := cell_keep hR.1 n0; have q1 := cell_keep hR.1 n1; have q2 := cell_keep hR.1 n2; have q3 := cell_keep hR.1 n3; have q4 := cell_keep hR.1 n4; clear hF hpre hl hR; go_simp; exact ⟨_, rfl, hgoal _ _ (Below.refl _ _) rfl⟩
          | 3, ho =>
            simp at ho; subst ho; refine step_plain rfl ?_; have e11 := hF.was 11 (by kernel_rfl) rfl; have hgoal := hR.go hSt hEs HQ 3 rfl (XF.out 3 (by decide)) (by decide) (by decide); clear hF hpre hl hR; go_simp; exact ⟨_, rfl, hgoal _ _ (Below.refl _ _) rfl⟩
          | 4, ho =>
            simp at ho; subst ho; refine step_plain rfl ?_; have e2 := hF.was 2 (by kernel_rfl) rfl; have hgoal := hR.go hSt hEs HQ 4 rfl (XF.out 4 (by decide)) (by decide) (by decide); clear hF hpre hl hR; go_simp; exact ⟨_, rfl, hgoal _ _ (Below.refl _ _) rfl⟩
          | 5, ho =>
            simp at ho; subst ho; refine step_plain rfl ?_; have e12 := hF.was 12 (by kernel_rfl) rfl; have hgoal := hR.go hSt hEs HQ 5 rfl (XF.out 5 (by decide)) (by decide) (by decide); clear hF hpre hl hR; go_simp; exact ⟨_, rfl, hgoal _ _ (Below.refl _ _) rfl⟩
          | 6, ho =>
            simp at ho; subst ho; refine step_plain rfl ?_; have e46 := hF.gv hR.2.1 HQ 4 rfl (hpre ⟨4, .data⟩ (by simp) rfl) rfl; have e47 := hF.gv hR.2.1 HQ 5 rfl (hpre ⟨5, .data⟩ (by simp) rfl) rfl; have hgoal := hR.go hSt hEs HQ 6 rfl (XF.out 6 (by decide)) (by decide) (by decide); clear hF hpre hl hR; go_simp; exact ⟨_, rfl, hgoal _ _ (Below.refl _ _) rfl⟩
          | 7, ho =>
            simp at ho; subst ho; refine step_plain rfl ?_; have e48 := hF.gv hR.2.1 HQ 6 rfl (hpre ⟨6, .data⟩ (by simp) rfl) rfl; have hgoal := hR.go hSt hEs HQ 7 rfl (XF.out 7 (by decide)) (by decide) (by decide); have q0 := cell_keep hR.1 hc1; have q1 := cell_keep hR.1 hc2; clear hF hpre hl hR; go_simp; exact ⟨_, rfl, hgoal _ _ (Below.refl _ _) rfl⟩
          | 8, ho =>
            simp at ho; subst ho; refine step_plain rfl ?_; have e42 := hF.gv hR.2.1 HQ 0 rfl (hpre ⟨0, .data⟩ (by simp) rfl) rfl; have e43 := hF.gv hR.2.1 HQ 1 rfl (hpre ⟨1, .data⟩ (by simp) rfl) rfl; have e44 := hF.gv hR.2.1 HQ 2 rfl (hpre ⟨2, .data⟩ (by simp) rfl) rfl; have e45 := hF.gv hR.2.1 HQ 3 rfl (hpre ⟨3, .data⟩ (by simp) rfl) rfl; have e49 := hF.gv hR.2.1 HQ 7 rfl (hpre ⟨7, .data⟩ (by simp) rfl) rfl; have hgoal := hR.go hSt hEs HQ 8 rfl (XF.out 8 (by decide)) (by decide) (by decide)
            have hM := Lib.hid hR.1
            clear hF hpre hl hR; go_simp
            refine ⟨trivial, ?_⟩
            refine CallsIn.mono (callsIn_wide.2 (HC.out _ (HBW.out.trans (hM.out.mono HBW.out.size)))) ?_
            rintro e w9 ⟨rfl, hb9⟩
            exact ⟨_, rfl, hgoal _ _ hb9 rfl⟩
          | 9, ho =>
            simp at ho; subst ho; refine step_plain rfl ?_; have e50 := hF.gv hR.2.1 HQ 8 rfl (hpre ⟨8, .data⟩ (by simp) rfl) rfl; have hgoal := hR.go hSt hEs HQ 9 rfl (XF.out 9 (by decide)) (by decide) (by decide); clear hF hpre hl hR; go_simp; exact ⟨_, rfl, hgoal _ _ (Below.refl _ _) rfl⟩
          | 10, ho =>
            simp at ho; subst ho; refine step_plain rfl ?_; have e41 := hF.gv hR.2.1 HQ 9 rfl (hpre ⟨9, .data⟩ (by simp) rfl) rfl; have hgoal := hR.go hSt hEs HQ 10 rfl (XF.out 10 (by decide)) (by decide) (by decide); clear hF hpre hl hR; go_simp; exact ⟨_, rfl, hgoal _ _ (Below.refl _ _) rfl⟩
          | 11, ho =>
            simp at ho; subst ho; refine step_plain rfl ?_; have e41 := hF.gv hR.2.1 HQ 9 rfl (hpre ⟨9, .data⟩ (by simp) rfl) rfl; have hgoal := hR.go hSt hEs HQ 11 rfl (XF.out 11 (by decide)) (by decide) (by decide); clear hF hpre hl hR; go_simp; exact ⟨_, rfl, hgoal _ _ (Below.refl _ _) rfl⟩
          | 12, ho =>
            simp at ho; subst ho; refine step_plain rfl ?_; have e41 := hF.gv hR.2.1 HQ 9 rfl (hpre ⟨9, .data⟩ (by simp) rfl) rfl; have hgoal := hR.go hSt hEs HQ 12 rfl (XF.out 12 (by decide)) (by decide) (by decide); clear hF hpre hl hR; go_simp; exact ⟨_, rfl, hgoal _ _ (Below.refl _ _) rfl⟩
          | 13, ho =>
            simp at ho; subst ho; refine step_plain rfl ?_; have hN := hF.later hl 14 rfl (e := ⟨13, .data⟩) (by simp) rfl rfl; have hgoal := hR.made hSt hEs hN (by decide) (QG.none HQ 13 rfl (fun _ _ => trivial) _ _) (XF.out 13 (by decide) _ _); clear hF hpre hl hR hN; go_simp; exact ⟨_, rfl, hgoal⟩
          | 14, ho =>
            simp at ho; subst ho; refine step_plain rfl ?_; have e13 := hF.gave 13 rfl (hpre ⟨13, .data⟩ (by simp) rfl) rfl; have e51 := hF.gv hR.2.1 HQ 10 rfl (hpre ⟨10, .data⟩ (by simp) rfl) rfl
            have hls : 14 < L.size := by rw [hF.lsize]; decide
            have hN0 : L.getD 14 false = false := by rw [← getD_same hls]; exact hl
            obtain ⟨q, qe, qM, qb⟩ := hR.2.2.2 (hpre ⟨13, .data⟩ (by simp) rfl)
            rw [hN0] at qb
            simp only [Bool.false_eq_true, if_false] at qb
            rw [qe] at e13
            have g0 := cellOf (o := 0) qb rfl; have f0 := freeOf (o := 0) qb; have g1 := cellOf (o := 1) qb rfl; have f1 := freeOf (o := 1) qb; have g2 := cellOf (o := 2) qb rfl; have f2 := freeOf (o := 2) qb; have g3 := cellOf (o := 3) qb rfl; have f3 := freeOf (o := 3) qb; have g4 := cellOf (o := 4) qb rfl; have f4 := freeOf (o := 4) qb; have hgoal := RB.filled (v := undef) hR hSt hls (QG.none HQ 14 rfl (fun _ _ => trivial) _ _) qe qM (((((hR.1.setCell (p := ⟨q, 0, none⟩) qM (.int .i64 tl)).setCell (p := ⟨q, 1, none⟩) qM (.int .i64 tw)).setCell (p := ⟨q, 2, none⟩) qM (.int .i64 ts)).setCell (p := ⟨q, 3, none⟩) qM (.int .i64 tc)).setCell (p := ⟨q, 4, none⟩) qM (.bool tu)) ((block_setCell (o := 4) (.bool tu) (block_setCell (o := 3) (.int .i64 tc) (block_setCell (o := 2) (.int .i64 ts) (block_setCell (o := 1) (.int .i64 tw) (block_setCell (o := 0) (.int .i64 tl) qb))))).trans (by rfl)) (by decide)
            have hq := lt_of_block qb
            have HG := Lib.hid hgoal
            clear hF hpre hl hR hls hN0 qe qb hgoal; go_simp
            exact ⟨undef, HG.out⟩
          | 15, ho =>
            simp at ho; subst ho; refine step_plain rfl ?_; have e52 := hF.gv hR.2.1 HQ 11 rfl (hpre ⟨11, .data⟩ (by simp) rfl) rfl; have hgoal := hR.go hSt hEs HQ 15 rfl (XF.out 15 (by decide)) (by decide) (by decide); clear hF hpre hl hR; go_simp; exact ⟨_, rfl, hgoal _ _ (Below.refl _ _) rfl⟩
          | 16, ho =>
            simp at ho; subst ho; refine step_plain rfl ?_; have e53 := hF.gv hR.2.1 HQ 12 rfl (hpre ⟨12, .data⟩ (by simp) rfl) rfl; have hgoal := hR.go hSt hEs HQ 16 rfl (XF.out 16 (by decide)) (by decide) (by decide); clear hF hpre hl hR; go_simp; exact ⟨_, rfl, hgoal _ _ (Below.refl _ _) rfl⟩
          | i + 17, ho => simp at ho
        case hend =>
          intro val L b' x hF hall hR
          have e := hF.all (by kernel_rfl) hall
          have k15 := QG.val HQ rfl (hR.2.1 15 (hall 15 (by decide)))
          have k16 := QG.val HQ rfl (hR.2.1 16 (hall 16 (by decide)))
          obtain ⟨g, kp, hM, bk⟩ := hR.2.2.2 (hall 13 (by decide))
          rw [hall 14 (by decide)] at bk
          simp only [if_true] at bk
          have hB := Lib.hid hR.1
          clear hF hall hR hSt hEs XF HQ 
          subst e
          simp [final, dstOf, List.range, List.range.loop]
          rw [kp, k15, k16]
          clear kp k15 k16
          have hx9 := HX0W.out.stay hB.out
          have r0 := cellOf (o := 0) hx9 rfl
          have f0 := freeOf (o := 0) hx9
          have r1 := cellOf (o := 1) hx9 rfl
          have f1 := freeOf (o := 1) hx9
          have r2 := cellOf (o := 2) hx9 rfl
          have f2 := freeOf (o := 2) hx9
          have r3 := cellOf (o := 3) hx9 rfl
          have f3 := freeOf (o := 3) hx9
          have r4 := cellOf (o := 4) hx9 rfl
          have f4 := freeOf (o := 4) hx9
          have hl9 := hx9.lt
          have HX9 := Lib.hid hx9
          have HB9 := Lib.hid (HBW.out.trans (hB.out.mono HBW.out.size))
          clear hx9
          go_wp2
          have hp9 := HX9.out.put 0 0 0 0 false
          have hq9 := hx_below (b := w.heap.size + 1 + 1) HB9.out (by omega) (.int .i64 0) (.int .i64 0) (.int .i64 0) (.int .i64 0) (.bool false)
          clear r0 r1 r2 r3 r4 f0 f1 f2 f3 f4
          generalize ((((World.setCell x _ _).setCell _ _).setCell _ _).setCell _ _).setCell _ _ = w9 at *
          have d0 := cellOf (o := 0) hp9 rfl
          have d1 := cellOf (o := 1) hp9 rfl
          have d2 := cellOf (o := 2) hp9 rfl
          have d3 := cellOf (o := 3) hp9 rfl
          have d4 := cellOf (o := 4) hp9 rfl
          refine bodyPost_ret (v := .tuple #[.agg #[.int .i64 0, .int .i64 0, .int .i64 0, .int .i64 0, .bool false], .int .i64 (j : Int), .int .i64 72]) (by simp [results, Try.results35, go_sem, d0, d1, d2, d3, d4]) rfl ?_
          rw [HR9.out, HST2.out]
          exact ⟨by simp [HA, zeroH], hq9⟩
      | true =>
        have hg2 := HPL.out j s k n HGJ.out hp
        have ht := HRT.out s k n hp
        rw [hp, ht] at HC
        rw [hp] at hst
        simp only [if_true] at hst
        clear hp ht
        generalize plS s k n = t at *
        obtain ⟨tl, tw, ts, tc, tu, tt⟩ := t
        have HST2 := Lib.hid hst
        have HG2 := Lib.hid hg2
        clear hst hg2
        go_upto_region 13 with (fail)
        obtain ⟨QT, hQT⟩ : ∃ q9 : Nat → Value → World → Prop, q9 = QG [some (.agg #[.int .i64 cable, .slice AX nx cx, .slice AY ny cy, .slice AV nv cv, .int .i64 charge]), some (.agg #[.int .i64 y1, .int .i64 y2]), some (.agg #[.int .i64 s.len, .int .i64 s.wt, .int .i64 s.since, .int .i64 s.cyc, .bool s.cut]), some (.bool s.touched), some (.slice (some ⟨b, off, none⟩) LL.length ca), some (.int .i64 ((j : Int))), some (.pointer (some ⟨b, off + j * 2, none⟩)), some (.agg #[.int .i64 k, .int .i64 n]), some (.tuple #[.agg #[.int .i64 tl, .int .i64 tw, .int .i64 ts, .int .i64 tc, .bool tu], .bool tt, .bool true]), some (.tuple #[.agg #[.int .i64 tl, .int .i64 tw, .int .i64 ts, .int .i64 tc, .bool tu], .bool tt, .bool true]), some (.agg #[.int .i64 tl, .int .i64 tw, .int .i64 ts, .int .i64 tc, .bool tu]), some (.bool tt), some (.bool true), none, none, some (.bool tt), some (.bool true)] (fun _ _ _ => True) := ⟨_, rfl⟩
        obtain ⟨ET, hET⟩ : ∃ q9 : Nat → Value → World → Prop, q9 = (fun _ _ _ => True) := ⟨_, rfl⟩
        have hSt : Still QT := by rw [hQT]; exact QG.still
        have hEs : Stays ET := by rw [hET]; exact fun _ _ _ _ _ _ => trivial
        have XTF := Lib.hid (show ∀ j, decide (j ∈ ([] : List Nat)) = false → ∀ v0' w0', ET j v0' w0' from fun j hj v0' w0' => by rw [hET]; exact trivial)
        have HQT := Lib.hid hQT
        clear hQT hET
        refine wpIn_wide.1 (region_inv2 (n := 9) (by kernel_rfl) (RB QT ET wr 14 13 #[.int .i64 0, .int .i64 0, .int .i64 0, .int .i64 0, .bool false] #[.int .i64 tl, .int .i64 tw, .int .i64 ts, .int .i64 tc, .bool tu] 61) (by kernel_rfl) rfl (RB.start _ _ _ _ _ _ _ _ _) ?hstepT ?hendT)
        case hstepT =>
          intro i' o ho val L b' x hF hR hpre hl
          match i', ho with
          | 0, ho =>
            simp at ho; subst ho; refine step_plain rfl ?_; have e3 := hF.was 3 (by kernel_rfl) rfl; have hgoal := hR.go hSt hEs HQT 0 rfl (XTF.out 0 (by decide)) (by decide) (by decide); have q0 := cell_keep hR.1 x0; have q1 := cell_keep hR.1 x1; have q2 := cell_keep hR.1 x2; have q3 := cell_keep hR.1 x3; have q4 := cell_keep hR.1 x4; clear hF hpre hl hR; go_simp; exact ⟨_, rfl, hgoal _ _ (Below.refl _ _) rfl⟩
          | 1, ho =>
            simp at ho; subst ho; refine step_plain rfl ?_; have e4 := hF.was 4 (by kernel_rfl) rfl; have hgoal := hR.go hSt hEs HQT 1 rfl (XTF.out 1 (by decide)) (by decide) (by decide); have q0 := cell_keep hR.1 p0; have q1 := cell_keep hR.1 p1; clear hF hpre hl hR; go_simp; exact ⟨_, rfl, hgoal _ _ (Below.refl _ _) rfl⟩
          | 2, ho =>
            simp at ho; subst ho; refine step_plain rfl ?_; have e10 := hF.was 10 (by kernel_rfl) rfl; have hgoal := hR.go hSt hEs HQT 2 rfl (XTF.out 2 (by decide)) (by decide) (by decide); have q0 := cell_keep hR.1 n0; have q1 := cell_keep hR.1 n1; have q2 := cell_keep hR.1 n2; have q3 := cell_keep hR.1 n3; have q4 := cell_keep hR.1 n4; clear hF hpre hl hR; go_simp; exact ⟨_, rfl, hgoal _ _ (Below.refl _ _) rfl⟩
          | 3, ho =>
            simp at ho; subst ho; refine step_plain rfl ?_; have e11 := hF.was 11 (by kernel_rfl) rfl; have hgoal := hR.go hSt hEs HQT 3 rfl (XTF.out 3 (by decide)) (by decide) (by decide); clear hF hpre hl hR; go_simp; exact ⟨_, rfl, hgoal _ _ (Below.refl _ _) rfl⟩
          | 4, ho =>
            simp at ho; subst ho; refine step_plain rfl ?_; have e2 := hF.was 2 (by kernel_rfl) rfl; have hgoal := hR.go hSt hEs HQT 4 rfl (XTF.out 4 (by decide)) (by decide) (by decide); clear hF hpre hl hR; go_simp; exact ⟨_, rfl, hgoal _ _ (Below.refl _ _) rfl⟩
          | 5, ho =>
            simp at ho; subst ho; refine step_plain rfl ?_; have e12 := hF.was 12 (by kernel_rfl) rfl; have hgoal := hR.go hSt hEs HQT 5 rfl (XTF.out 5 (by decide)) (by decide) (by decide); clear hF hpre hl hR; go_simp; exact ⟨_, rfl, hgoal _ _ (Below.refl _ _) rfl⟩
          | 6, ho =>
            simp at ho; subst ho; refine step_plain rfl ?_; have e46 := hF.gv hR.2.1 HQT 4 rfl (hpre ⟨4, .data⟩ (by simp) rfl) rfl; have e47 := hF.gv hR.2.1 HQT 5 rfl (hpre ⟨5, .data⟩ (by simp) rfl) rfl; have hgoal := hR.go hSt hEs HQT 6 rfl (XTF.out 6 (by decide)) (by decide) (by decide); clear hF hpre hl hR; go_simp; exact ⟨_, rfl, hgoal _ _ (Below.refl _ _) rfl⟩
          | 7, ho =>
            simp at ho; subst ho; refine step_plain rfl ?_; have e48 := hF.gv hR.2.1 HQT 6 rfl (hpre ⟨6, .data⟩ (by simp) rfl) rfl; have hgoal := hR.go hSt hEs HQT 7 rfl (XTF.out 7 (by decide)) (by decide) (by decide); have q0 := cell_keep hR.1 hc1; have q1 := cell_keep hR.1 hc2; clear hF hpre hl hR; go_simp; exact ⟨_, rfl, hgoal _ _ (Below.refl _ _) rfl⟩
          | 8, ho =>
            simp at ho; subst ho; refine step_plain rfl ?_; have e42 := hF.gv hR.2.1 HQT 0 rfl (hpre ⟨0, .data⟩ (by simp) rfl) rfl; have e43 := hF.gv hR.2.1 HQT 1 rfl (hpre ⟨1, .data⟩ (by simp) rfl) rfl; have e44 := hF.gv hR.2.1 HQT 2 rfl (hpre ⟨2, .data⟩ (by simp) rfl) rfl; have e45 := hF.gv hR.2.1 HQT 3 rfl (hpre ⟨3, .data⟩ (by simp) rfl) rfl; have e49 := hF.gv hR.2.1 HQT 7 rfl (hpre ⟨7, .data⟩ (by simp) rfl) rfl; have hgoal := hR.go hSt hEs HQT 8 rfl (XTF.out 8 (by decide)) (by decide) (by decide)
            have hM := Lib.hid hR.1
            clear hF hpre hl hR; go_simp
            refine ⟨trivial, ?_⟩
            refine CallsIn.mono (callsIn_wide.2 (HC.out _ (HBW.out.trans (hM.out.mono HBW.out.size)))) ?_
            rintro e w9 ⟨rfl, hb9⟩
            exact ⟨_, rfl, hgoal _ _ hb9 rfl⟩
          | 9, ho =>
            simp at ho; subst ho; refine step_plain rfl ?_; have e50 := hF.gv hR.2.1 HQT 8 rfl (hpre ⟨8, .data⟩ (by simp) rfl) rfl; have hgoal := hR.go hSt hEs HQT 9 rfl (XTF.out 9 (by decide)) (by decide) (by decide); clear hF hpre hl hR; go_simp; exact ⟨_, rfl, hgoal _ _ (Below.refl _ _) rfl⟩
          | 10, ho =>
            simp at ho; subst ho; refine step_plain rfl ?_; have e41 := hF.gv hR.2.1 HQT 9 rfl (hpre ⟨9, .data⟩ (by simp) rfl) rfl; have hgoal := hR.go hSt hEs HQT 10 rfl (XTF.out 10 (by decide)) (by decide) (by decide); clear hF hpre hl hR; go_simp; exact ⟨_, rfl, hgoal _ _ (Below.refl _ _) rfl⟩
          | 11, ho =>
            simp at ho; subst ho; refine step_plain rfl ?_; have e41 := hF.gv hR.2.1 HQT 9 rfl (hpre ⟨9, .data⟩ (by simp) rfl) rfl; have hgoal := hR.go hSt hEs HQT 11 rfl (XTF.out 11 (by decide)) (by decide) (by decide); clear hF hpre hl hR; go_simp; exact ⟨_, rfl, hgoal _ _ (Below.refl _ _) rfl⟩
          | 12, ho =>
            simp at ho; subst ho; refine step_plain rfl ?_; have e41 := hF.gv hR.2.1 HQT 9 rfl (hpre ⟨9, .data⟩ (by simp) rfl) rfl; have hgoal := hR.go hSt hEs HQT 12 rfl (XTF.out 12 (by decide)) (by decide) (by decide); clear hF hpre hl hR; go_simp; exact ⟨_, rfl, hgoal _ _ (Below.refl _ _) rfl⟩
          | 13, ho =>
            simp at ho; subst ho; refine step_plain rfl ?_; have hN := hF.later hl 14 rfl (e := ⟨13, .data⟩) (by simp) rfl rfl; have hgoal := hR.made hSt hEs hN (by decide) (QG.none HQT 13 rfl (fun _ _ => trivial) _ _) (XTF.out 13 (by decide) _ _); clear hF hpre hl hR hN; go_simp; exact ⟨_, rfl, hgoal⟩
          | 14, ho =>
            simp at ho; subst ho; refine step_plain rfl ?_; have e13 := hF.gave 13 rfl (hpre ⟨13, .data⟩ (by simp) rfl) rfl; have e51 := hF.gv hR.2.1 HQT 10 rfl (hpre ⟨10, .data⟩ (by simp) rfl) rfl
            have hls : 14 < L.size := by rw [hF.lsize]; decide
            have hN0 : L.getD 14 false = false := by rw [← getD_same hls]; exact hl
            obtain ⟨q, qe, qM, qb⟩ := hR.2.2.2 (hpre ⟨13, .data⟩ (by simp) rfl)
            rw [hN0] at qb
            simp only [Bool.false_eq_true, if_false] at qb
            rw [qe] at e13
            have g0 := cellOf (o := 0) qb rfl; have f0 := freeOf (o := 0) qb; have g1 := cellOf (o := 1) qb rfl; have f1 := freeOf (o := 1) qb; have g2 := cellOf (o := 2) qb rfl; have f2 := freeOf (o := 2) qb; have g3 := cellOf (o := 3) qb rfl; have f3 := freeOf (o := 3) qb; have g4 := cellOf (o := 4) qb rfl; have f4 := freeOf (o := 4) qb; have hgoal := RB.filled (v := undef) hR hSt hls (QG.none HQT 14 rfl (fun _ _ => trivial) _ _) qe qM (((((hR.1.setCell (p := ⟨q, 0, none⟩) qM (.int .i64 tl)).setCell (p := ⟨q, 1, none⟩) qM (.int .i64 tw)).setCell (p := ⟨q, 2, none⟩) qM (.int .i64 ts)).setCell (p := ⟨q, 3, none⟩) qM (.int .i64 tc)).setCell (p := ⟨q, 4, none⟩) qM (.bool tu)) ((block_setCell (o := 4) (.bool tu) (block_setCell (o := 3) (.int .i64 tc) (block_setCell (o := 2) (.int .i64 ts) (block_setCell (o := 1) (.int .i64 tw) (block_setCell (o := 0) (.int .i64 tl) qb))))).trans (by rfl)) (by decide)
            have hq := lt_of_block qb
            have HG := Lib.hid hgoal
            clear hF hpre hl hR hls hN0 qe qb hgoal; go_simp
            exact ⟨undef, HG.out⟩
          | 15, ho =>
            simp at ho; subst ho; refine step_plain rfl ?_; have e52 := hF.gv hR.2.1 HQT 11 rfl (hpre ⟨11, .data⟩ (by simp) rfl) rfl; have hgoal := hR.go hSt hEs HQT 15 rfl (XTF.out 15 (by decide)) (by decide) (by decide); clear hF hpre hl hR; go_simp; exact ⟨_, rfl, hgoal _ _ (Below.refl _ _) rfl⟩
          | 16, ho =>
            simp at ho; subst ho; refine step_plain rfl ?_; have e53 := hF.gv hR.2.1 HQT 12 rfl (hpre ⟨12, .data⟩ (by simp) rfl) rfl; have hgoal := hR.go hSt hEs HQT 16 rfl (XTF.out 16 (by decide)) (by decide) (by decide); clear hF hpre hl hR; go_simp; exact ⟨_, rfl, hgoal _ _ (Below.refl _ _) rfl⟩
          | i + 17, ho => simp at ho
        case hendT =>
          intro val L b' x hF hall hR
          have e := hF.all (by kernel_rfl) hall
          have kT15 := QG.val HQT rfl (hR.2.1 15 (hall 15 (by decide)))
          have kT16 := QG.val HQT rfl (hR.2.1 16 (hall 16 (by decide)))
          obtain ⟨gT, kpT, hMT, bkT⟩ := hR.2.2.2 (hall 13 (by decide))
          rw [hall 14 (by decide)] at bkT
          simp only [if_true] at bkT
          have hBT := Lib.hid hR.1
          clear hF hall hR hSt hEs XTF HQT 
          subst e
          simp [final, dstOf, List.range, List.range.loop]
          rw [kpT, kT15, kT16]
          clear kpT kT15 kT16
          have hx9 := HXNW.out.stay hBT.out
          have HX9 := Lib.hid hx9
          have HX08 := Lib.hid (HX0W.out.stay hBT.out)
          have HC8 := Lib.hid ((hBT.out.block _ (lt_of_block HCW9.out)).trans HCW9.out)
          have HD8 := Lib.hid ((hBT.out.block _ (lt_of_block HDW9.out)).trans HDW9.out)
          have HB9 := Lib.hid (HBW.out.trans (hBT.out.mono HBW.out.size))
          have r0 := cellOf (o := 0) hx9 rfl
          have f0 := freeOf (o := 0) hx9
          have r1 := cellOf (o := 1) hx9 rfl
          have f1 := freeOf (o := 1) hx9
          have r2 := cellOf (o := 2) hx9 rfl
          have f2 := freeOf (o := 2) hx9
          have r3 := cellOf (o := 3) hx9 rfl
          have f3 := freeOf (o := 3) hx9
          have r4 := cellOf (o := 4) hx9 rfl
          have f4 := freeOf (o := 4) hx9
          have hl9 := hx9.lt
          have y0 := cellOf (o := 0) bkT rfl
          have y1' := cellOf (o := 1) bkT rfl
          have y2' := cellOf (o := 2) bkT rfl
          have y3 := cellOf (o := 3) bkT rfl
          have y4 := cellOf (o := 4) bkT rfl
          have hlg := lt_of_block bkT
          have HP9 := Lib.hid (HX9.out.put tl tw ts tc tu)
          have HQ9 := Lib.hid (hx_below (b := w3.heap.size) HB9.out HB3.out.size (.int .i64 tl) (.int .i64 tw) (.int .i64 ts) (.int .i64 tc) (.bool tu))
          have HK9 := Lib.hid ((((((Kept.refl w3.heap.size x).setCell 0 (.int .i64 tl)).setCell 1 (.int .i64 tw)).setCell 2 (.int .i64 ts)).setCell 3 (.int .i64 tc)).setCell 4 (.bool tu))
          clear hx9 bkT
          go_wp2
          go_roundw
          case rel => exact ⟨j + 1, ⟨tl, tw, ts, tc, tu, tt⟩, by omega, by go_num, rfl, HST2.out.symm, HG2.out, HP9.out, HX08.out.keep HK9.out (by omega), (HK9.out.2 _ (lt_of_block HC8.out) (by omega)).trans HC8.out, (HK9.out.2 _ (lt_of_block HD8.out) (by omega)).trans HD8.out, HQ9.out⟩
          case measure => simp [intOf]; omega
    · have e : j = LL.length := by omega
      subst e
      have hs' : R = (s, -1) := by rw [← hs]; simp [hauR]
      have HS := Lib.hid hs'
      have n0 := cellOf (o := 0) hxn rfl
      have r0 := cellOf (o := 0) hx0 rfl
      have f0 := freeOf (o := 0) hx0
      have n1 := cellOf (o := 1) hxn rfl
      have r1 := cellOf (o := 1) hx0 rfl
      have f1 := freeOf (o := 1) hx0
      have n2 := cellOf (o := 2) hxn rfl
      have r2 := cellOf (o := 2) hx0 rfl
      have f2 := freeOf (o := 2) hx0
      have n3 := cellOf (o := 3) hxn rfl
      have r3 := cellOf (o := 3) hx0 rfl
      have f3 := freeOf (o := 3) hx0
      have n4 := cellOf (o := 4) hxn rfl
      have r4 := cellOf (o := 4) hx0 rfl
      have f4 := freeOf (o := 4) hx0
      have hln := hxn.lt
      have hl9 := hx0.lt
      have HX9 := Lib.hid hx0
      have HBW := Lib.hid hbw
      clear hs hg hxn hx0 hc hd hbw hs'
      go_wp2
      have hp9 := HX9.out.put s.len s.wt s.since s.cyc s.cut
      have hq9 := hx_below (b := w.heap.size + 1 + 1) HBW.out (by omega) (.int .i64 s.len) (.int .i64 s.wt) (.int .i64 s.since) (.int .i64 s.cyc) (.bool s.cut)
      clear r0 r1 r2 r3 r4 f0 f1 f2 f3 f4 n0 n1 n2 n3 n4
      generalize ((((World.setCell wr _ _).setCell _ _).setCell _ _).setCell _ _).setCell _ _ = w9 at *
      have d0 := cellOf (o := 0) hp9 rfl
      have d1 := cellOf (o := 1) hp9 rfl
      have d2 := cellOf (o := 2) hp9 rfl
      have d3 := cellOf (o := 3) hp9 rfl
      have d4 := cellOf (o := 4) hp9 rfl
      refine bodyPost_ret (v := .tuple #[.agg #[.int .i64 s.len, .int .i64 s.wt, .int .i64 s.since, .int .i64 s.cyc, .bool s.cut], .int .i64 0, .int .i64 0]) (by simp [results, Try.results35, go_sem, d0, d1, d2, d3, d4]) rfl ?_
      rw [HR9.out, HS.out]
      exact ⟨by simp [HA], hq9⟩
end
end Go.Proofs.Ytnnmmojlgikdgaa

/- Haul. -/
namespace Go.Proofs.Ytnnmmojlgikdgaa
open Go.RowKit

section
variable (cable charge y1 y2 : Int) (AX AY AV A : Option Addr) (nx cx ny cy nv cv B na ca : Nat) (X Y : List Int) (V : List (List Int)) (L : List (Int × Int)) (w : World)

set_option maxRecDepth 100000 in
set_option maxHeartbeats 4000000 in
theorem haul_bad (h : HT w B AX AY AV nx ny nv X Y V) (_hL : L.length = na) (_hr : RS w B A L) (hne : hwE X Y V cable charge y1 y2 ≠ 0) :
    Calls Try.prog 34 #[.agg #[.int .i64 cable, .slice AX nx cx, .slice AY ny cy, .slice AV nv cv, .int .i64 charge], .agg #[.int .i64 y1, .int .i64 y2], .slice A na ca] w fun e w' => e = .returned (.tuple #[HA zeroH, .int .i64 (0), .int .i64 (hwE X Y V cable charge y1 y2)]) ∧ Below w.heap.size w w' := by
  have HC := Lib.hid (fun (W : World) (hW : Below w.heap.size w W) => checkWinch_any cable charge y1 y2 AX AY AV nx cx ny cy nv cv B X Y V W (h.below hW))
  have HX0 := Lib.hid (show HX (((w.alloc (.cells #[.int .i64 cable, .slice AX nx cx, .slice AY ny cy, .slice AV nv cv, .int .i64 charge] 57)).alloc (.cells #[.int .i64 y1, .int .i64 y2] 27)).alloc (.cells #[.int .i64 0, .int .i64 0, .int .i64 0, .int .i64 0, .bool false] 61)) (w.heap.size + 1 + 1) zeroH by have e : ((w.alloc (.cells #[.int .i64 cable, .slice AX nx cx, .slice AY ny cy, .slice AV nv cv, .int .i64 charge] 57)).alloc (.cells #[.int .i64 y1, .int .i64 y2] 27)).heap.size = w.heap.size + 1 + 1 := (by simp); rw [← e]; exact HX.new _)
  have HB0 := Lib.hid (show Below w.heap.size w (((w.alloc (.cells #[.int .i64 cable, .slice AX nx cx, .slice AY ny cy, .slice AV nv cv, .int .i64 charge] 57)).alloc (.cells #[.int .i64 y1, .int .i64 y2] 27)).alloc (.cells #[.int .i64 0, .int .i64 0, .int .i64 0, .int .i64 0, .bool false] 61)) by go_grown)
  clear h _hr
  generalize hwE X Y V cable charge y1 y2 = c at *
  have hc : (c != 0) = true := by rw [bne_iff_ne]; exact hne
  clear hne
  go_enter Try.func34, Try.ntmps34
  go_wp2_with (go_at_call 76; refine Calls.mono (HC.out _ (by go_grown)) ?_; rintro e w3 ⟨rfl, hb3⟩; have hx3 := HX0.out.stay hb3; have hl3 := hx3.lt; have HX3 := Lib.hid hx3; have HB3 := Lib.hid (HB0.out.trans (hb3.mono (by simp <;> omega))); clear hb3; have c0 := cellOf (o := 0) hx3 rfl; have f0 := freeOf (o := 0) hx3; have c1 := cellOf (o := 1) hx3 rfl; have f1 := freeOf (o := 1) hx3; have c2 := cellOf (o := 2) hx3 rfl; have f2 := freeOf (o := 2) hx3; have c3 := cellOf (o := 3) hx3 rfl; have f3 := freeOf (o := 3) hx3; have c4 := cellOf (o := 4) hx3 rfl; have f4 := freeOf (o := 4) hx3)
  have hp := HX3.out.put (0) (0) (0) (0) (false)
  have hq := hx_below HB3.out (by omega : w.heap.size ≤ w.heap.size + 1 + 1) (.int .i64 (0)) (.int .i64 (0)) (.int .i64 (0)) (.int .i64 (0)) (.bool false)
  clear c0 c1 c2 c3 c4 f0 f1 f2 f3 f4 hx3
  generalize ((((World.setCell w3 _ _).setCell _ _).setCell _ _).setCell _ _).setCell _ _ = w9 at *
  have d0 := cellOf (o := 0) hp rfl
  have d1 := cellOf (o := 1) hp rfl
  have d2 := cellOf (o := 2) hp rfl
  have d3 := cellOf (o := 3) hp rfl
  have d4 := cellOf (o := 4) hp rfl
  exact bodyPost_ret (v := .tuple #[.agg #[.int .i64 (0), .int .i64 (0), .int .i64 (0), .int .i64 (0), .bool (false)], .int .i64 (0), .int .i64 (c)]) (by simp [results, Try.results34, go_sem, d0, d1, d2, d3, d4]) rfl ⟨rfl, hq⟩

end
end Go.Proofs.Ytnnmmojlgikdgaa

/- Haul. -/
namespace Go.Proofs.Ytnnmmojlgikdgaa
open Go.RowKit

section
variable (cable charge y1 y2 : Int) (AX AY AV A : Option Addr) (nx cx ny cy nv cv B na ca : Nat) (X Y : List Int) (V : List (List Int)) (L : List (Int × Int)) (w : World)

set_option maxRecDepth 100000 in
set_option maxHeartbeats 4000000 in
theorem haul_many (h : HT w B AX AY AV nx ny nv X Y V) (_hL : L.length = na) (_hr : RS w B A L) (h0 : hwE X Y V cable charge y1 y2 = 0) (hn : 100 < na) :
    Calls Try.prog 34 #[.agg #[.int .i64 cable, .slice AX nx cx, .slice AY ny cy, .slice AV nv cv, .int .i64 charge], .agg #[.int .i64 y1, .int .i64 y2], .slice A na ca] w fun e w' => e = .returned (.tuple #[HA zeroH, .int .i64 (0), .int .i64 (2)]) ∧ Below w.heap.size w w' := by
  have HC := Lib.hid (fun (W : World) (hW : Below w.heap.size w W) => checkWinch_any cable charge y1 y2 AX AY AV nx cx ny cy nv cv B X Y V W (h.below hW))
  have HX0 := Lib.hid (show HX (((w.alloc (.cells #[.int .i64 cable, .slice AX nx cx, .slice AY ny cy, .slice AV nv cv, .int .i64 charge] 57)).alloc (.cells #[.int .i64 y1, .int .i64 y2] 27)).alloc (.cells #[.int .i64 0, .int .i64 0, .int .i64 0, .int .i64 0, .bool false] 61)) (w.heap.size + 1 + 1) zeroH by have e : ((w.alloc (.cells #[.int .i64 cable, .slice AX nx cx, .slice AY ny cy, .slice AV nv cv, .int .i64 charge] 57)).alloc (.cells #[.int .i64 y1, .int .i64 y2] 27)).heap.size = w.heap.size + 1 + 1 := (by simp); rw [← e]; exact HX.new _)
  have HB0 := Lib.hid (show Below w.heap.size w (((w.alloc (.cells #[.int .i64 cable, .slice AX nx cx, .slice AY ny cy, .slice AV nv cv, .int .i64 charge] 57)).alloc (.cells #[.int .i64 y1, .int .i64 y2] 27)).alloc (.cells #[.int .i64 0, .int .i64 0, .int .i64 0, .int .i64 0, .bool false] 61)) by go_grown)
  rw [h0] at HC
  clear h _hr h0
  go_enter Try.func34, Try.ntmps34
  go_wp2_with (go_at_call 76; refine Calls.mono (HC.out _ (by go_grown)) ?_; rintro e w3 ⟨rfl, hb3⟩; have hx3 := HX0.out.stay hb3; have hl3 := hx3.lt; have HX3 := Lib.hid hx3; have HB3 := Lib.hid (HB0.out.trans (hb3.mono (by simp <;> omega))); clear hb3; have c0 := cellOf (o := 0) hx3 rfl; have f0 := freeOf (o := 0) hx3; have c1 := cellOf (o := 1) hx3 rfl; have f1 := freeOf (o := 1) hx3; have c2 := cellOf (o := 2) hx3 rfl; have f2 := freeOf (o := 2) hx3; have c3 := cellOf (o := 3) hx3 rfl; have f3 := freeOf (o := 3) hx3; have c4 := cellOf (o := 4) hx3 rfl; have f4 := freeOf (o := 4) hx3)
  have hp := HX3.out.put (0) (0) (0) (0) (false)
  have hq := hx_below HB3.out (by omega : w.heap.size ≤ w.heap.size + 1 + 1) (.int .i64 (0)) (.int .i64 (0)) (.int .i64 (0)) (.int .i64 (0)) (.bool false)
  clear c0 c1 c2 c3 c4 f0 f1 f2 f3 f4 hx3
  generalize ((((World.setCell w3 _ _).setCell _ _).setCell _ _).setCell _ _).setCell _ _ = w9 at *
  have d0 := cellOf (o := 0) hp rfl
  have d1 := cellOf (o := 1) hp rfl
  have d2 := cellOf (o := 2) hp rfl
  have d3 := cellOf (o := 3) hp rfl
  have d4 := cellOf (o := 4) hp rfl
  exact bodyPost_ret (v := .tuple #[.agg #[.int .i64 (0), .int .i64 (0), .int .i64 (0), .int .i64 (0), .bool (false)], .int .i64 (0), .int .i64 (2)]) (by simp [results, Try.results34, go_sem, d0, d1, d2, d3, d4]) rfl ⟨rfl, hq⟩

end
end Go.Proofs.Ytnnmmojlgikdgaa

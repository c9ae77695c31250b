/- Contracts of the functions that the statement reaches: JPos4. -/
import Derived.Test.YtnnmmojlgikdgaaM5
import Derived.Test.YtnnmmojlgikdgaaM7

/- The winch: what is possible. -/
namespace Go.Proofs.Ytnnmmojlgikdgaa
open Go.RowKit

section
variable (g : Nat) (cable charge y1 y2 len wt since cyc : Int) (cut tch : Bool) (k n : Int) (AX AY AV : Option Addr) (nx cx ny cy nv cv B : Nat) (X Y : List Int) (V : List (List Int)) (w : World)

set_option maxRecDepth 100000 in
set_option maxHeartbeats 8000000 in
theorem possible4_true (ht : HT w B AX AY AV nx ny nv X Y V) (h : WN w g cable AX nx cx AY ny cy AV nv cv charge ⟨len, wt, since, cyc, cut, true⟩ y1 y2) (_z0 : 0 ≤ len) (_z1 : len ≤ cable) (_z2 : cable ≤ 100) :
    Calls Try.prog 110 #[.pointer (some ⟨g, 0, none⟩), .agg #[.int .i64 4, .int .i64 n]] w fun e w' => e = .returned (.bool (posB (fun l u => carB X Y V l l y1 y2 u) cable charge ⟨len, wt, since, cyc, cut, true⟩ 4 n)) ∧ Below w.heap.size w w' := by
  have HAL := Lib.hid alone_any
  have HCA := Lib.hid (fun (W : World) (hW : Below w.heap.size w W) (a : Int) (u : Int) => carries_any g cable charge y1 y2 a a u ⟨len, wt, since, cyc, cut, true⟩ AX AY AV nx cx ny cy nv cv B X Y V W (ht.below hW) (h.stay hW))
  by_cases g5 : since < charge
  · have g6 : decide (since < charge) = true := by simpa using g5
    by_cases g1 : 1 ≤ n ∧ n ≤ 100000
    · by_cases g2 : wt = 0
      · subst g2
        by_cases g3 : 0 < len
        · rw [show posB (fun l u => carB X Y V l l y1 y2 u) cable charge ⟨len, 0, since, cyc, cut, true⟩ 4 n = carB X Y V len len y1 y2 n by unfold posB; simp [g5, g1, g3]]
          have G1 := Lib.hid (show wB 1 100000 [n] = true by rw [wB_one]; simpa using g1)
          replace HCA := Lib.hid (fun W hW => HCA.out W hW len n)
          generalize carB X Y V len len y1 y2 n = cb at *
          have hW1 : WN (w.alloc (.cells #[.int .i64 4, .int .i64 n] 82)) g cable AX nx cx AY ny cy AV nv cv charge ⟨len, 0, since, cyc, cut, true⟩ y1 y2 := h.stay ((Below.refl _ _).alloc (Nat.le_refl _) _)
          have hB1 : Below w.heap.size w (w.alloc (.cells #[.int .i64 4, .int .i64 n] 82)) := (Below.refl _ _).alloc (Nat.le_refl _) _
          have l0 : (w.alloc (.cells #[.int .i64 4, .int .i64 n] 82)).cell? ⟨w.heap.size, 0, none⟩ = some (.int .i64 4) := by rw [cell_newest]; rfl
          have l1 : (w.alloc (.cells #[.int .i64 4, .int .i64 n] 82)).cell? ⟨w.heap.size, 1, none⟩ = some (.int .i64 n) := by rw [cell_newest]; rfl
          have c0 := cellOf (o := 0) hW1 rfl
          have c4 := cellOf (o := 4) hW1 rfl
          have c5 := cellOf (o := 5) hW1 rfl
          have c6 := cellOf (o := 6) hW1 rfl
          have c7 := cellOf (o := 7) hW1 rfl
          have c12 := cellOf (o := 12) hW1 rfl
          have hg := hW1.lt
          have HB1 := Lib.hid hB1
          clear hW1 hB1 h ht
          go_enter Try.func110, Try.ntmps110
          go_upto_region 9 with (fail)
          generalize w.alloc _ = w1 at *
          obtain ⟨QA5, hQA5⟩ : ∃ q9 : Nat → Value → World → Prop, q9 = QG [some (.pointer (some ⟨g, 0, none⟩)), some (.pointer (some ⟨g, 0, none⟩)), some (.pointer (some ⟨g, 12, none⟩)), some (.bool true), some (.bool true), some (.pointer (some ⟨g, 0, none⟩)), some (.pointer (some ⟨g, 0, none⟩)), some (.pointer (some ⟨g, 5, none⟩)), some (.pointer (some ⟨g, 7, none⟩)), some (.int .i64 since), some (.pointer (some ⟨g, 0, none⟩)), some (.pointer (some ⟨g, 0, none⟩)), some (.pointer (some ⟨g, 0, none⟩)), some (.pointer (some ⟨g, 4, none⟩)), some (.int .i64 charge), some (.bool true), some (.bool true), some (.bool true)] (fun _ _ _ => True) := ⟨_, rfl⟩
          have hst : Stays QA5 := by rw [hQA5]; exact QG.stays (fun _ _ _ _ _ _ => trivial)
          have HQA5 := Lib.hid hQA5
          clear hQA5
          refine wpIn_wide.1 (region_inv2 (n := 9) (by kernel_rfl) (RQ QA5 w1) (by kernel_rfl) rfl (RQ.start _ _ _) ?hstepA5 ?hendA5)
          case hstepA5 =>
            intro i' o ho val L b' x9 hF hR hpre hl
            match i', ho with
            | 0, ho =>
              simp at ho; subst ho; refine step_plain rfl ?_; have e0 := hF.was 0 (by kernel_rfl) rfl; have hgoal := hR.go hst HQA5 0 rfl; clear hF hpre hl hR; go_simp; exact ⟨_, rfl, hgoal _ _ (Below.refl _ _) rfl⟩
            | 1, ho =>
              simp at ho; subst ho; refine step_plain rfl ?_; have e87 := hF.gv hR.2 HQA5 0 rfl (hpre ⟨0, .data⟩ (by simp) rfl) rfl; have hgoal := hR.go hst HQA5 1 rfl; clear hF hpre hl hR; go_simp; exact ⟨_, rfl, hgoal _ _ (Below.refl _ _) rfl⟩
            | 2, ho =>
              simp at ho; subst ho; refine step_plain rfl ?_; have e88 := hF.gv hR.2 HQA5 1 rfl (hpre ⟨1, .data⟩ (by simp) rfl) rfl; have hgoal := hR.go hst HQA5 2 rfl; clear hF hpre hl hR; go_simp; exact ⟨_, rfl, hgoal _ _ (Below.refl _ _) rfl⟩
            | 3, ho =>
              simp at ho; subst ho; refine step_plain rfl ?_; have e89 := hF.gv hR.2 HQA5 2 rfl (hpre ⟨2, .data⟩ (by simp) rfl) rfl; have hgoal := hR.go hst HQA5 3 rfl; have q0 := cell_keep hR.1 c12; clear hF hpre hl hR; go_simp; exact ⟨_, rfl, hgoal _ _ (Below.refl _ _) rfl⟩
            | 4, ho =>
              simp at ho; subst ho; refine step_plain rfl ?_; have e90 := hF.gv hR.2 HQA5 3 rfl (hpre ⟨3, .data⟩ (by simp) rfl) rfl; have hgoal := hR.go hst HQA5 4 rfl; clear hF hpre hl hR; go_simp; exact ⟨_, rfl, hgoal _ _ (Below.refl _ _) rfl⟩
            | 5, ho =>
              simp at ho; subst ho; refine step_gd hF hR.2 HQA5 (j := 4) (b := true) rfl rfl (by kernel_rfl) (hpre ⟨4, .guard⟩ (by simp) rfl) rfl ?_; have e0 := hF.was 0 (by kernel_rfl) rfl; have hgoal := hR.go hst HQA5 5 rfl; clear hF hpre hl hR; go_simp; exact ⟨_, rfl, hgoal _ _ (Below.refl _ _) rfl⟩
            | 6, ho =>
              simp at ho; subst ho; refine step_gd hF hR.2 HQA5 (j := 4) (b := true) rfl rfl (by kernel_rfl) (hpre ⟨4, .guard⟩ (by simp) rfl) rfl ?_; have e92 := hF.gv hR.2 HQA5 5 rfl (hpre ⟨5, .data⟩ (by simp) rfl) rfl; have hgoal := hR.go hst HQA5 6 rfl; clear hF hpre hl hR; go_simp; exact ⟨_, rfl, hgoal _ _ (Below.refl _ _) rfl⟩
            | 7, ho =>
              simp at ho; subst ho; refine step_gd hF hR.2 HQA5 (j := 4) (b := true) rfl rfl (by kernel_rfl) (hpre ⟨4, .guard⟩ (by simp) rfl) rfl ?_; have e93 := hF.gv hR.2 HQA5 6 rfl (hpre ⟨6, .data⟩ (by simp) rfl) rfl; have hgoal := hR.go hst HQA5 7 rfl; clear hF hpre hl hR; go_simp; exact ⟨_, rfl, hgoal _ _ (Below.refl _ _) rfl⟩
            | 8, ho =>
              simp at ho; subst ho; refine step_gd hF hR.2 HQA5 (j := 4) (b := true) rfl rfl (by kernel_rfl) (hpre ⟨4, .guard⟩ (by simp) rfl) rfl ?_; have e94 := hF.gv hR.2 HQA5 7 rfl (hpre ⟨7, .data⟩ (by simp) rfl) rfl; have hgoal := hR.go hst HQA5 8 rfl; clear hF hpre hl hR; go_simp; exact ⟨_, rfl, hgoal _ _ (Below.refl _ _) rfl⟩
            | 9, ho =>
              simp at ho; subst ho; refine step_gd hF hR.2 HQA5 (j := 4) (b := true) rfl rfl (by kernel_rfl) (hpre ⟨4, .guard⟩ (by simp) rfl) rfl ?_; have e95 := hF.gv hR.2 HQA5 8 rfl (hpre ⟨8, .data⟩ (by simp) rfl) rfl; have hgoal := hR.go hst HQA5 9 rfl; have q0 := cell_keep hR.1 c7; clear hF hpre hl hR; go_simp; exact ⟨_, rfl, hgoal _ _ (Below.refl _ _) rfl⟩
            | 10, ho =>
              simp at ho; subst ho; refine step_gd hF hR.2 HQA5 (j := 4) (b := true) rfl rfl (by kernel_rfl) (hpre ⟨4, .guard⟩ (by simp) rfl) rfl ?_; have e0 := hF.was 0 (by kernel_rfl) rfl; have hgoal := hR.go hst HQA5 10 rfl; clear hF hpre hl hR; go_simp; exact ⟨_, rfl, hgoal _ _ (Below.refl _ _) rfl⟩
            | 11, ho =>
              simp at ho; subst ho; refine step_gd hF hR.2 HQA5 (j := 4) (b := true) rfl rfl (by kernel_rfl) (hpre ⟨4, .guard⟩ (by simp) rfl) rfl ?_; have e97 := hF.gv hR.2 HQA5 10 rfl (hpre ⟨10, .data⟩ (by simp) rfl) rfl; have hgoal := hR.go hst HQA5 11 rfl; clear hF hpre hl hR; go_simp; exact ⟨_, rfl, hgoal _ _ (Below.refl _ _) rfl⟩
            | 12, ho =>
              simp at ho; subst ho; refine step_gd hF hR.2 HQA5 (j := 4) (b := true) rfl rfl (by kernel_rfl) (hpre ⟨4, .guard⟩ (by simp) rfl) rfl ?_; have e98 := hF.gv hR.2 HQA5 11 rfl (hpre ⟨11, .data⟩ (by simp) rfl) rfl; have hgoal := hR.go hst HQA5 12 rfl; clear hF hpre hl hR; go_simp; exact ⟨_, rfl, hgoal _ _ (Below.refl _ _) rfl⟩
            | 13, ho =>
              simp at ho; subst ho; refine step_gd hF hR.2 HQA5 (j := 4) (b := true) rfl rfl (by kernel_rfl) (hpre ⟨4, .guard⟩ (by simp) rfl) rfl ?_; have e99 := hF.gv hR.2 HQA5 12 rfl (hpre ⟨12, .data⟩ (by simp) rfl) rfl; have hgoal := hR.go hst HQA5 13 rfl; clear hF hpre hl hR; go_simp; exact ⟨_, rfl, hgoal _ _ (Below.refl _ _) rfl⟩
            | 14, ho =>
              simp at ho; subst ho; refine step_gd hF hR.2 HQA5 (j := 4) (b := true) rfl rfl (by kernel_rfl) (hpre ⟨4, .guard⟩ (by simp) rfl) rfl ?_; have e100 := hF.gv hR.2 HQA5 13 rfl (hpre ⟨13, .data⟩ (by simp) rfl) rfl; have hgoal := hR.go hst HQA5 14 rfl; have q0 := cell_keep hR.1 c4; clear hF hpre hl hR; go_simp; exact ⟨_, rfl, hgoal _ _ (Below.refl _ _) rfl⟩
            | 15, ho =>
              simp at ho; subst ho; refine step_gd hF hR.2 HQA5 (j := 4) (b := true) rfl rfl (by kernel_rfl) (hpre ⟨4, .guard⟩ (by simp) rfl) rfl ?_; have e96 := hF.gv hR.2 HQA5 9 rfl (hpre ⟨9, .data⟩ (by simp) rfl) rfl; have e101 := hF.gv hR.2 HQA5 14 rfl (hpre ⟨14, .data⟩ (by simp) rfl) rfl; have hgoal := hR.go hst HQA5 15 rfl; clear hF hpre hl hR; go_simp; exact ⟨_, rfl, hgoal _ _ (Below.refl _ _) rfl⟩
            | 16, ho =>
              simp at ho; subst ho; refine step_plain rfl ?_; have e91 := hF.gv hR.2 HQA5 4 rfl (hpre ⟨4, .data⟩ (by simp) rfl) rfl; have e102 := hF.gv hR.2 HQA5 15 rfl (hpre ⟨15, .data⟩ (by simp) rfl) rfl; have hgoal := hR.go hst HQA5 16 rfl; clear hF hpre hl hR; go_simp; exact ⟨_, rfl, hgoal _ _ (Below.refl _ _) rfl⟩
            | 17, ho =>
              simp at ho; subst ho; refine step_plain rfl ?_; have e103 := hF.gv hR.2 HQA5 16 rfl (hpre ⟨16, .data⟩ (by simp) rfl) rfl; have hgoal := hR.go hst HQA5 17 rfl; clear hF hpre hl hR; go_simp; exact ⟨_, rfl, hgoal _ _ (Below.refl _ _) rfl⟩
            | i + 18, ho => simp at ho
          case hendA5 =>
            intro val L b' x9 hF hall hR
            have e := hF.all (by kernel_rfl) hall
            have kA517 := QG.val HQA5 rfl (hR.2 17 (hall 17 (by decide)))
            have hBA5 := Lib.hid hR.1
            clear hF hall hR hst HQA5 
            subst e
            simp [final, dstOf, List.range, List.range.loop]
            rw [kA517]
            have l1 := cell_keep hBA5.out l1
            have c0 := cell_keep hBA5.out c0
            have c5 := cell_keep hBA5.out c5
            have c6 := cell_keep hBA5.out c6
            have hg : g < x9.heap.size := Nat.lt_of_lt_of_le hg hBA5.out.size
            have HB1 := Lib.hid (HB1.out.trans (hBA5.out.mono HB1.out.size))
            go_upto_region 10 with (fail)
            obtain ⟨Q6, hQ6⟩ : ∃ q9 : Nat → Value → World → Prop, q9 = QG [some (.pointer (some ⟨w.heap.size, 1, none⟩)), some (.int .i64 n), none, some (.bool true), some (.bool true), some (.pointer (some ⟨g, 0, none⟩)), some (.pointer (some ⟨g, 0, none⟩)), some (.pointer (some ⟨g, 5, none⟩)), some (.pointer (some ⟨g, 6, none⟩)), some (.int .i64 0), some (.bool true), some (.bool true), some (.bool true), some (.pointer (some ⟨g, 0, none⟩)), some (.pointer (some ⟨g, 0, none⟩)), some (.pointer (some ⟨g, 5, none⟩)), some (.pointer (some ⟨g, 5, none⟩)), some (.int .i64 len), some (.bool true), some (.bool true), some (.bool true), some (.bool true), some (.bool true), some (.bool true), some (.pointer (some ⟨g, 0, none⟩)), some (.pointer (some ⟨g, 0, none⟩)), some (.pointer (some ⟨g, 0, none⟩)), some (.pointer (some ⟨g, 5, none⟩)), some (.pointer (some ⟨g, 5, none⟩)), some (.int .i64 len), some (.agg #[.int .i64 len, .int .i64 len]), some (.pointer (some ⟨w.heap.size, 1, none⟩)), some (.int .i64 n), some (.bool cb), some (.bool cb), some (.bool cb)] (fun j0' v0' w0' => (j0' = 2 → QI [n] v0' w0')) := ⟨_, rfl⟩
            have hst : Stays Q6 := by rw [hQ6]; exact QG.stays (fun j v W W' h hb => fun e => (h e).stay hb)
            have U62 := Lib.hid (show ∀ v0' w0', Q6 2 v0' w0' ↔ QI [n] v0' w0' from fun v0' w0' => by rw [hQ6]; exact ⟨fun h => h rfl, fun h => fun _ => h⟩)
            have HQ6 := Lib.hid hQ6
            clear hQ6
            refine wpIn_wide.1 (region_inv2 (n := 9) (by kernel_rfl) (RQ Q6 x9) (by kernel_rfl) rfl (RQ.start _ _ _) ?hstep6 ?hend6)
            case hstep6 =>
              intro i' o ho val L b' x hF hR hpre hl
              match i', ho with
              | 0, ho =>
                simp at ho; subst ho; refine step_plain rfl ?_; have e3 := hF.was 3 (by kernel_rfl) rfl; have hgoal := hR.go hst HQ6 0 rfl; clear hF hpre hl hR; go_simp; exact ⟨_, rfl, hgoal _ _ (Below.refl _ _) rfl⟩
              | 1, ho =>
                simp at ho; subst ho; refine step_plain rfl ?_; have e104 := hF.gv hR.2 HQ6 0 rfl (hpre ⟨0, .data⟩ (by simp) rfl) rfl; have hgoal := hR.go hst HQ6 1 rfl; have q0 := cell_keep hR.1 l1; clear hF hpre hl hR; go_simp; exact ⟨_, rfl, hgoal _ _ (Below.refl _ _) rfl⟩
              | 2, ho =>
                simp at ho; subst ho; refine step_plain rfl ?_; have e105 := hF.gv hR.2 HQ6 1 rfl (hpre ⟨1, .data⟩ (by simp) rfl) rfl
                have hgoal : ∀ v0' w0', Below x.heap.size x w0' → QI [n] v0' w0' → RQ Q6 x9 (upd val 2 v0') (L.setIfInBounds 2 true) w0' := fun v0' w0' hb hq => hR.step hst hb ((U62.out _ _).2 hq)
                have hM := Lib.hid hR.1
                clear hF hpre hl hR; go_simp; exact ⟨_, rfl, hgoal _ _ ((Below.refl _ _).alloc (Nat.le_refl _) _) ⟨_, _, rfl, Nat.le_refl _, (RI.new1 rfl).more (by simp)⟩⟩
              | 3, ho =>
                simp at ho; subst ho; refine step_plain rfl ?_; have e106 := hF.gave 2 rfl (hpre ⟨2, .data⟩ (by simp) rfl) rfl
                have v2 := (U62.out _ _).1 (hR.2 2 (hpre ⟨2, .data⟩ (by simp) rfl))
                have hgoal := hR.go hst HQ6 3 rfl
                have hM := Lib.hid hR.1
                clear hF hpre hl hR
                obtain ⟨A9, c9, h9, _, hr9⟩ := v2
                rw [h9] at e106
                go_simp
                refine ⟨trivial, ?_⟩
                refine CallsIn.mono (callsIn_wide.2 (within_any 1 (100000) _ 1 _ _ [n] _ rfl (le_maxLen (by omega)) hr9)) ?_
                rintro e w9 ⟨rfl, rfl⟩
                exact ⟨_, rfl, hgoal _ _ (Below.refl _ _) (by rw [G1.out])⟩
              | 4, ho =>
                simp at ho; subst ho; refine step_plain rfl ?_; have e107 := hF.gv hR.2 HQ6 3 rfl (hpre ⟨3, .data⟩ (by simp) rfl) rfl; have hgoal := hR.go hst HQ6 4 rfl; clear hF hpre hl hR; go_simp; exact ⟨_, rfl, hgoal _ _ (Below.refl _ _) rfl⟩
              | 5, ho =>
                simp at ho; subst ho; refine step_gd hF hR.2 HQ6 (j := 4) (b := true) rfl rfl (by kernel_rfl) (hpre ⟨4, .guard⟩ (by simp) rfl) rfl ?_; have e0 := hF.was 0 (by kernel_rfl) rfl; have hgoal := hR.go hst HQ6 5 rfl; clear hF hpre hl hR; go_simp; exact ⟨_, rfl, hgoal _ _ (Below.refl _ _) rfl⟩
              | 6, ho =>
                simp at ho; subst ho; refine step_gd hF hR.2 HQ6 (j := 4) (b := true) rfl rfl (by kernel_rfl) (hpre ⟨4, .guard⟩ (by simp) rfl) rfl ?_; have e109 := hF.gv hR.2 HQ6 5 rfl (hpre ⟨5, .data⟩ (by simp) rfl) rfl; have hgoal := hR.go hst HQ6 6 rfl; clear hF hpre hl hR; go_simp; exact ⟨_, rfl, hgoal _ _ (Below.refl _ _) rfl⟩
              | 7, ho =>
                simp at ho; subst ho; refine step_gd hF hR.2 HQ6 (j := 4) (b := true) rfl rfl (by kernel_rfl) (hpre ⟨4, .guard⟩ (by simp) rfl) rfl ?_; have e110 := hF.gv hR.2 HQ6 6 rfl (hpre ⟨6, .data⟩ (by simp) rfl) rfl; have hgoal := hR.go hst HQ6 7 rfl; clear hF hpre hl hR; go_simp; exact ⟨_, rfl, hgoal _ _ (Below.refl _ _) rfl⟩
              | 8, ho =>
                simp at ho; subst ho; refine step_gd hF hR.2 HQ6 (j := 4) (b := true) rfl rfl (by kernel_rfl) (hpre ⟨4, .guard⟩ (by simp) rfl) rfl ?_; have e111 := hF.gv hR.2 HQ6 7 rfl (hpre ⟨7, .data⟩ (by simp) rfl) rfl; have hgoal := hR.go hst HQ6 8 rfl; clear hF hpre hl hR; go_simp; exact ⟨_, rfl, hgoal _ _ (Below.refl _ _) rfl⟩
              | 9, ho =>
                simp at ho; subst ho; refine step_gd hF hR.2 HQ6 (j := 4) (b := true) rfl rfl (by kernel_rfl) (hpre ⟨4, .guard⟩ (by simp) rfl) rfl ?_; have e112 := hF.gv hR.2 HQ6 8 rfl (hpre ⟨8, .data⟩ (by simp) rfl) rfl; have hgoal := hR.go hst HQ6 9 rfl; have q0 := cell_keep hR.1 c6; clear hF hpre hl hR; go_simp; exact ⟨_, rfl, hgoal _ _ (Below.refl _ _) rfl⟩
              | 10, ho =>
                simp at ho; subst ho; refine step_gd hF hR.2 HQ6 (j := 4) (b := true) rfl rfl (by kernel_rfl) (hpre ⟨4, .guard⟩ (by simp) rfl) rfl ?_; have e113 := hF.gv hR.2 HQ6 9 rfl (hpre ⟨9, .data⟩ (by simp) rfl) rfl; have hgoal := hR.go hst HQ6 10 rfl; clear hF hpre hl hR; go_simp; exact ⟨_, rfl, hgoal _ _ (Below.refl _ _) rfl⟩
              | 11, ho =>
                simp at ho; subst ho; refine step_plain rfl ?_; have e108 := hF.gv hR.2 HQ6 4 rfl (hpre ⟨4, .data⟩ (by simp) rfl) rfl; have e114 := hF.gv hR.2 HQ6 10 rfl (hpre ⟨10, .data⟩ (by simp) rfl) rfl; have hgoal := hR.go hst HQ6 11 rfl; clear hF hpre hl hR; go_simp; exact ⟨_, rfl, hgoal _ _ (Below.refl _ _) rfl⟩
              | 12, ho =>
                simp at ho; subst ho; refine step_plain rfl ?_; have e115 := hF.gv hR.2 HQ6 11 rfl (hpre ⟨11, .data⟩ (by simp) rfl) rfl; have hgoal := hR.go hst HQ6 12 rfl; clear hF hpre hl hR; go_simp; exact ⟨_, rfl, hgoal _ _ (Below.refl _ _) rfl⟩
              | 13, ho =>
                simp at ho; subst ho; refine step_gd hF hR.2 HQ6 (j := 12) (b := true) rfl rfl (by kernel_rfl) (hpre ⟨12, .guard⟩ (by simp) rfl) rfl ?_; have e0 := hF.was 0 (by kernel_rfl) rfl; have hgoal := hR.go hst HQ6 13 rfl; clear hF hpre hl hR; go_simp; exact ⟨_, rfl, hgoal _ _ (Below.refl _ _) rfl⟩
              | 14, ho =>
                simp at ho; subst ho; refine step_gd hF hR.2 HQ6 (j := 12) (b := true) rfl rfl (by kernel_rfl) (hpre ⟨12, .guard⟩ (by simp) rfl) rfl ?_; have e117 := hF.gv hR.2 HQ6 13 rfl (hpre ⟨13, .data⟩ (by simp) rfl) rfl; have hgoal := hR.go hst HQ6 14 rfl; clear hF hpre hl hR; go_simp; exact ⟨_, rfl, hgoal _ _ (Below.refl _ _) rfl⟩
              | 15, ho =>
                simp at ho; subst ho; refine step_gd hF hR.2 HQ6 (j := 12) (b := true) rfl rfl (by kernel_rfl) (hpre ⟨12, .guard⟩ (by simp) rfl) rfl ?_; have e118 := hF.gv hR.2 HQ6 14 rfl (hpre ⟨14, .data⟩ (by simp) rfl) rfl; have hgoal := hR.go hst HQ6 15 rfl; clear hF hpre hl hR; go_simp; exact ⟨_, rfl, hgoal _ _ (Below.refl _ _) rfl⟩
              | 16, ho =>
                simp at ho; subst ho; refine step_gd hF hR.2 HQ6 (j := 12) (b := true) rfl rfl (by kernel_rfl) (hpre ⟨12, .guard⟩ (by simp) rfl) rfl ?_; have e119 := hF.gv hR.2 HQ6 15 rfl (hpre ⟨15, .data⟩ (by simp) rfl) rfl; have hgoal := hR.go hst HQ6 16 rfl; clear hF hpre hl hR; go_simp; exact ⟨_, rfl, hgoal _ _ (Below.refl _ _) rfl⟩
              | 17, ho =>
                simp at ho; subst ho; refine step_gd hF hR.2 HQ6 (j := 12) (b := true) rfl rfl (by kernel_rfl) (hpre ⟨12, .guard⟩ (by simp) rfl) rfl ?_; have e120 := hF.gv hR.2 HQ6 16 rfl (hpre ⟨16, .data⟩ (by simp) rfl) rfl; have hgoal := hR.go hst HQ6 17 rfl; have q0 := cell_keep hR.1 c5; clear hF hpre hl hR; go_simp; exact ⟨_, rfl, hgoal _ _ (Below.refl _ _) rfl⟩
              | 18, ho =>
                simp at ho; subst ho; refine step_gd hF hR.2 HQ6 (j := 12) (b := true) rfl rfl (by kernel_rfl) (hpre ⟨12, .guard⟩ (by simp) rfl) rfl ?_; have e121 := hF.gv hR.2 HQ6 17 rfl (hpre ⟨17, .data⟩ (by simp) rfl) rfl; have hgoal := hR.go hst HQ6 18 rfl; clear hF hpre hl hR; go_simp; exact ⟨_, rfl, hgoal _ _ (Below.refl _ _) rfl⟩
              | 19, ho =>
                simp at ho; subst ho; refine step_plain rfl ?_; have e116 := hF.gv hR.2 HQ6 12 rfl (hpre ⟨12, .data⟩ (by simp) rfl) rfl; have e122 := hF.gv hR.2 HQ6 18 rfl (hpre ⟨18, .data⟩ (by simp) rfl) rfl; have hgoal := hR.go hst HQ6 19 rfl; clear hF hpre hl hR; go_simp; exact ⟨_, rfl, hgoal _ _ (Below.refl _ _) rfl⟩
              | 20, ho =>
                simp at ho; subst ho; refine step_plain rfl ?_; have e123 := hF.gv hR.2 HQ6 19 rfl (hpre ⟨19, .data⟩ (by simp) rfl) rfl; have hgoal := hR.go hst HQ6 20 rfl; clear hF hpre hl hR; go_simp; exact ⟨_, rfl, hgoal _ _ (Below.refl _ _) rfl⟩
              | 21, ho =>
                simp at ho; subst ho; refine step_gd hF hR.2 HQ6 (j := 20) (b := true) rfl rfl (by kernel_rfl) (hpre ⟨20, .guard⟩ (by simp) rfl) rfl ?_; have e5 := hF.was 5 (by kernel_rfl) rfl; have hgoal := hR.go hst HQ6 21 rfl; clear hF hpre hl hR; go_simp; exact ⟨_, rfl, hgoal _ _ (Below.refl _ _) rfl⟩
              | 22, ho =>
                simp at ho; subst ho; refine step_plain rfl ?_; have e124 := hF.gv hR.2 HQ6 20 rfl (hpre ⟨20, .data⟩ (by simp) rfl) rfl; have e125 := hF.gv hR.2 HQ6 21 rfl (hpre ⟨21, .data⟩ (by simp) rfl) rfl; have hgoal := hR.go hst HQ6 22 rfl; clear hF hpre hl hR; go_simp; exact ⟨_, rfl, hgoal _ _ (Below.refl _ _) rfl⟩
              | 23, ho =>
                simp at ho; subst ho; refine step_plain rfl ?_; have e126 := hF.gv hR.2 HQ6 22 rfl (hpre ⟨22, .data⟩ (by simp) rfl) rfl; have hgoal := hR.go hst HQ6 23 rfl; clear hF hpre hl hR; go_simp; exact ⟨_, rfl, hgoal _ _ (Below.refl _ _) rfl⟩
              | 24, ho =>
                simp at ho; subst ho; refine step_gd hF hR.2 HQ6 (j := 23) (b := true) rfl rfl (by kernel_rfl) (hpre ⟨23, .guard⟩ (by simp) rfl) rfl ?_; have e0 := hF.was 0 (by kernel_rfl) rfl; have hgoal := hR.go hst HQ6 24 rfl; clear hF hpre hl hR; go_simp; exact ⟨_, rfl, hgoal _ _ (Below.refl _ _) rfl⟩
              | 25, ho =>
                simp at ho; subst ho; refine step_gd hF hR.2 HQ6 (j := 23) (b := true) rfl rfl (by kernel_rfl) (hpre ⟨23, .guard⟩ (by simp) rfl) rfl ?_; have e0 := hF.was 0 (by kernel_rfl) rfl; have hgoal := hR.go hst HQ6 25 rfl; clear hF hpre hl hR; go_simp; exact ⟨_, rfl, hgoal _ _ (Below.refl _ _) rfl⟩
              | 26, ho =>
                simp at ho; subst ho; refine step_gd hF hR.2 HQ6 (j := 23) (b := true) rfl rfl (by kernel_rfl) (hpre ⟨23, .guard⟩ (by simp) rfl) rfl ?_; have e129 := hF.gv hR.2 HQ6 25 rfl (hpre ⟨25, .data⟩ (by simp) rfl) rfl; have hgoal := hR.go hst HQ6 26 rfl; clear hF hpre hl hR; go_simp; exact ⟨_, rfl, hgoal _ _ (Below.refl _ _) rfl⟩
              | 27, ho =>
                simp at ho; subst ho; refine step_gd hF hR.2 HQ6 (j := 23) (b := true) rfl rfl (by kernel_rfl) (hpre ⟨23, .guard⟩ (by simp) rfl) rfl ?_; have e130 := hF.gv hR.2 HQ6 26 rfl (hpre ⟨26, .data⟩ (by simp) rfl) rfl; have hgoal := hR.go hst HQ6 27 rfl; clear hF hpre hl hR; go_simp; exact ⟨_, rfl, hgoal _ _ (Below.refl _ _) rfl⟩
              | 28, ho =>
                simp at ho; subst ho; refine step_gd hF hR.2 HQ6 (j := 23) (b := true) rfl rfl (by kernel_rfl) (hpre ⟨23, .guard⟩ (by simp) rfl) rfl ?_; have e131 := hF.gv hR.2 HQ6 27 rfl (hpre ⟨27, .data⟩ (by simp) rfl) rfl; have hgoal := hR.go hst HQ6 28 rfl; clear hF hpre hl hR; go_simp; exact ⟨_, rfl, hgoal _ _ (Below.refl _ _) rfl⟩
              | 29, ho =>
                simp at ho; subst ho; refine step_gd hF hR.2 HQ6 (j := 23) (b := true) rfl rfl (by kernel_rfl) (hpre ⟨23, .guard⟩ (by simp) rfl) rfl ?_; have e132 := hF.gv hR.2 HQ6 28 rfl (hpre ⟨28, .data⟩ (by simp) rfl) rfl; have hgoal := hR.go hst HQ6 29 rfl; have q0 := cell_keep hR.1 c5; clear hF hpre hl hR; go_simp; exact ⟨_, rfl, hgoal _ _ (Below.refl _ _) rfl⟩
              | 30, ho =>
                simp at ho; subst ho; refine step_gd hF hR.2 HQ6 (j := 23) (b := true) rfl rfl (by kernel_rfl) (hpre ⟨23, .guard⟩ (by simp) rfl) rfl ?_; have e133 := hF.gv hR.2 HQ6 29 rfl (hpre ⟨29, .data⟩ (by simp) rfl) rfl; have hgoal := hR.go hst HQ6 30 rfl
                have hM := Lib.hid hR.1
                clear hF hpre hl hR; go_simp
                refine ⟨trivial, ?_⟩
                refine CallsIn.mono (callsIn_wide.2 (HAL.out _ _)) ?_
                rintro e w9 ⟨rfl, hb9⟩
                exact ⟨_, rfl, hgoal _ _ hb9 rfl⟩
              | 31, ho =>
                simp at ho; subst ho; refine step_gd hF hR.2 HQ6 (j := 23) (b := true) rfl rfl (by kernel_rfl) (hpre ⟨23, .guard⟩ (by simp) rfl) rfl ?_; have e3 := hF.was 3 (by kernel_rfl) rfl; have hgoal := hR.go hst HQ6 31 rfl; clear hF hpre hl hR; go_simp; exact ⟨_, rfl, hgoal _ _ (Below.refl _ _) rfl⟩
              | 32, ho =>
                simp at ho; subst ho; refine step_gd hF hR.2 HQ6 (j := 23) (b := true) rfl rfl (by kernel_rfl) (hpre ⟨23, .guard⟩ (by simp) rfl) rfl ?_; have e135 := hF.gv hR.2 HQ6 31 rfl (hpre ⟨31, .data⟩ (by simp) rfl) rfl; have hgoal := hR.go hst HQ6 32 rfl; have q0 := cell_keep hR.1 l1; clear hF hpre hl hR; go_simp; exact ⟨_, rfl, hgoal _ _ (Below.refl _ _) rfl⟩
              | 33, ho =>
                simp at ho; subst ho; refine step_gd hF hR.2 HQ6 (j := 23) (b := true) rfl rfl (by kernel_rfl) (hpre ⟨23, .guard⟩ (by simp) rfl) rfl ?_; have e128 := hF.gv hR.2 HQ6 24 rfl (hpre ⟨24, .data⟩ (by simp) rfl) rfl; have e134 := hF.gv hR.2 HQ6 30 rfl (hpre ⟨30, .data⟩ (by simp) rfl) rfl; have e136 := hF.gv hR.2 HQ6 32 rfl (hpre ⟨32, .data⟩ (by simp) rfl) rfl; have hgoal := hR.go hst HQ6 33 rfl
                have hM := Lib.hid hR.1
                clear hF hpre hl hR; go_simp
                refine ⟨trivial, ?_⟩
                refine CallsIn.mono (callsIn_wide.2 (HCA.out _ (HB1.out.trans (hM.out.mono HB1.out.size)))) ?_
                rintro e w9 ⟨rfl, hb9⟩
                exact ⟨_, rfl, hgoal _ _ hb9 rfl⟩
              | 34, ho =>
                simp at ho; subst ho; refine step_plain rfl ?_; have e127 := hF.gv hR.2 HQ6 23 rfl (hpre ⟨23, .data⟩ (by simp) rfl) rfl; have e137 := hF.gv hR.2 HQ6 33 rfl (hpre ⟨33, .data⟩ (by simp) rfl) rfl; have hgoal := hR.go hst HQ6 34 rfl; clear hF hpre hl hR; go_simp; exact ⟨_, rfl, hgoal _ _ (Below.refl _ _) rfl⟩
              | 35, ho =>
                simp at ho; subst ho; refine step_plain rfl ?_; have e138 := hF.gv hR.2 HQ6 34 rfl (hpre ⟨34, .data⟩ (by simp) rfl) rfl; have hgoal := hR.go hst HQ6 35 rfl; clear hF hpre hl hR; go_simp; exact ⟨_, rfl, hgoal _ _ (Below.refl _ _) rfl⟩
              | i + 36, ho => simp at ho
            case hend6 =>
              intro val L b' x hF hall hR
              have e := hF.all (by kernel_rfl) hall
              have k635 := QG.val HQ6 rfl (hR.2 35 (hall 35 (by decide)))
              have hB6 := Lib.hid hR.1
              clear hF hall hR hst HQ6 U62
              subst e
              simp [final, dstOf, List.range, List.range.loop]
              rw [k635]
              go_wp2
              go_ret
              exact ⟨rfl, HB1.out.trans (hB6.out.mono HB1.out.size)⟩
        · rw [show posB (fun l u => carB X Y V l l y1 y2 u) cable charge ⟨len, 0, since, cyc, cut, true⟩ 4 n = false by unfold posB; simp [g5, g1, g3]]
          have G1 := Lib.hid (show wB 1 100000 [n] = true by rw [wB_one]; simpa using g1)
          have hW1 : WN (w.alloc (.cells #[.int .i64 4, .int .i64 n] 82)) g cable AX nx cx AY ny cy AV nv cv charge ⟨len, 0, since, cyc, cut, true⟩ y1 y2 := h.stay ((Below.refl _ _).alloc (Nat.le_refl _) _)
          have hB1 : Below w.heap.size w (w.alloc (.cells #[.int .i64 4, .int .i64 n] 82)) := (Below.refl _ _).alloc (Nat.le_refl _) _
          have l0 : (w.alloc (.cells #[.int .i64 4, .int .i64 n] 82)).cell? ⟨w.heap.size, 0, none⟩ = some (.int .i64 4) := by rw [cell_newest]; rfl
          have l1 : (w.alloc (.cells #[.int .i64 4, .int .i64 n] 82)).cell? ⟨w.heap.size, 1, none⟩ = some (.int .i64 n) := by rw [cell_newest]; rfl
          have c0 := cellOf (o := 0) hW1 rfl
          have c4 := cellOf (o := 4) hW1 rfl
          have c5 := cellOf (o := 5) hW1 rfl
          have c6 := cellOf (o := 6) hW1 rfl
          have c7 := cellOf (o := 7) hW1 rfl
          have c12 := cellOf (o := 12) hW1 rfl
          have hg := hW1.lt
          have HB1 := Lib.hid hB1
          clear hW1 hB1 h ht
          go_enter Try.func110, Try.ntmps110
          go_upto_region 9 with (fail)
          generalize w.alloc _ = w1 at *
          obtain ⟨QA7, hQA7⟩ : ∃ q9 : Nat → Value → World → Prop, q9 = QG [some (.pointer (some ⟨g, 0, none⟩)), some (.pointer (some ⟨g, 0, none⟩)), some (.pointer (some ⟨g, 12, none⟩)), some (.bool true), some (.bool true), some (.pointer (some ⟨g, 0, none⟩)), some (.pointer (some ⟨g, 0, none⟩)), some (.pointer (some ⟨g, 5, none⟩)), some (.pointer (some ⟨g, 7, none⟩)), some (.int .i64 since), some (.pointer (some ⟨g, 0, none⟩)), some (.pointer (some ⟨g, 0, none⟩)), some (.pointer (some ⟨g, 0, none⟩)), some (.pointer (some ⟨g, 4, none⟩)), some (.int .i64 charge), some (.bool true), some (.bool true), some (.bool true)] (fun _ _ _ => True) := ⟨_, rfl⟩
          have hst : Stays QA7 := by rw [hQA7]; exact QG.stays (fun _ _ _ _ _ _ => trivial)
          have HQA7 := Lib.hid hQA7
          clear hQA7
          refine wpIn_wide.1 (region_inv2 (n := 9) (by kernel_rfl) (RQ QA7 w1) (by kernel_rfl) rfl (RQ.start _ _ _) ?hstepA7 ?hendA7)
          case hstepA7 =>
            intro i' o ho val L b' x9 hF hR hpre hl
            match i', ho with
            | 0, ho =>
              simp at ho; subst ho; refine step_plain rfl ?_; have e0 := hF.was 0 (by kernel_rfl) rfl; have hgoal := hR.go hst HQA7 0 rfl; clear hF hpre hl hR; go_simp; exact ⟨_, rfl, hgoal _ _ (Below.refl _ _) rfl⟩
            | 1, ho =>
              simp at ho; subst ho; refine step_plain rfl ?_; have e87 := hF.gv hR.2 HQA7 0 rfl (hpre ⟨0, .data⟩ (by simp) rfl) rfl; have hgoal := hR.go hst HQA7 1 rfl; clear hF hpre hl hR; go_simp; exact ⟨_, rfl, hgoal _ _ (Below.refl _ _) rfl⟩
            | 2, ho =>
              simp at ho; subst ho; refine step_plain rfl ?_; have e88 := hF.gv hR.2 HQA7 1 rfl (hpre ⟨1, .data⟩ (by simp) rfl) rfl; have hgoal := hR.go hst HQA7 2 rfl; clear hF hpre hl hR; go_simp; exact ⟨_, rfl, hgoal _ _ (Below.refl _ _) rfl⟩
            | 3, ho =>
              simp at ho; subst ho; refine step_plain rfl ?_; have e89 := hF.gv hR.2 HQA7 2 rfl (hpre ⟨2, .data⟩ (by simp) rfl) rfl; have hgoal := hR.go hst HQA7 3 rfl; have q0 := cell_keep hR.1 c12; clear hF hpre hl hR; go_simp; exact ⟨_, rfl, hgoal _ _ (Below.refl _ _) rfl⟩
            | 4, ho =>
              simp at ho; subst ho; refine step_plain rfl ?_; have e90 := hF.gv hR.2 HQA7 3 rfl (hpre ⟨3, .data⟩ (by simp) rfl) rfl; have hgoal := hR.go hst HQA7 4 rfl; clear hF hpre hl hR; go_simp; exact ⟨_, rfl, hgoal _ _ (Below.refl _ _) rfl⟩
            | 5, ho =>
              simp at ho; subst ho; refine step_gd hF hR.2 HQA7 (j := 4) (b := true) rfl rfl (by kernel_rfl) (hpre ⟨4, .guard⟩ (by simp) rfl) rfl ?_; have e0 := hF.was 0 (by kernel_rfl) rfl; have hgoal := hR.go hst HQA7 5 rfl; clear hF hpre hl hR; go_simp; exact ⟨_, rfl, hgoal _ _ (Below.refl _ _) rfl⟩
            | 6, ho =>
              simp at ho; subst ho; refine step_gd hF hR.2 HQA7 (j := 4) (b := true) rfl rfl (by kernel_rfl) (hpre ⟨4, .guard⟩ (by simp) rfl) rfl ?_; have e92 := hF.gv hR.2 HQA7 5 rfl (hpre ⟨5, .data⟩ (by simp) rfl) rfl; have hgoal := hR.go hst HQA7 6 rfl; clear hF hpre hl hR; go_simp; exact ⟨_, rfl, hgoal _ _ (Below.refl _ _) rfl⟩
            | 7, ho =>
              simp at ho; subst ho; refine step_gd hF hR.2 HQA7 (j := 4) (b := true) rfl rfl (by kernel_rfl) (hpre ⟨4, .guard⟩ (by simp) rfl) rfl ?_; have e93 := hF.gv hR.2 HQA7 6 rfl (hpre ⟨6, .data⟩ (by simp) rfl) rfl; have hgoal := hR.go hst HQA7 7 rfl; clear hF hpre hl hR; go_simp; exact ⟨_, rfl, hgoal _ _ (Below.refl _ _) rfl⟩
            | 8, ho =>
              simp at ho; subst ho; refine step_gd hF hR.2 HQA7 (j := 4) (b := true) rfl rfl (by kernel_rfl) (hpre ⟨4, .guard⟩ (by simp) rfl) rfl ?_; have e94 := hF.gv hR.2 HQA7 7 rfl (hpre ⟨7, .data⟩ (by simp) rfl) rfl; have hgoal := hR.go hst HQA7 8 rfl; clear hF hpre hl hR; go_simp; exact ⟨_, rfl, hgoal _ _ (Below.refl _ _) rfl⟩
            | 9, ho =>
              simp at ho; subst ho; refine step_gd hF hR.2 HQA7 (j := 4) (b := true) rfl rfl (by kernel_rfl) (hpre ⟨4, .guard⟩ (by simp) rfl) rfl ?_; have e95 := hF.gv hR.2 HQA7 8 rfl (hpre ⟨8, .data⟩ (by simp) rfl) rfl; have hgoal := hR.go hst HQA7 9 rfl; have q0 := cell_keep hR.1 c7; clear hF hpre hl hR; go_simp; exact ⟨_, rfl, hgoal _ _ (Below.refl _ _) rfl⟩
            | 10, ho =>
              simp at ho; subst ho; refine step_gd hF hR.2 HQA7 (j := 4) (b := true) rfl rfl (by kernel_rfl) (hpre ⟨4, .guard⟩ (by simp) rfl) rfl ?_; have e0 := hF.was 0 (by kernel_rfl) rfl; have hgoal := hR.go hst HQA7 10 rfl; clear hF hpre hl hR; go_simp; exact ⟨_, rfl, hgoal _ _ (Below.refl _ _) rfl⟩
            | 11, ho =>
              simp at ho; subst ho; refine step_gd hF hR.2 HQA7 (j := 4) (b := true) rfl rfl (by kernel_rfl) (hpre ⟨4, .guard⟩ (by simp) rfl) rfl ?_; have e97 := hF.gv hR.2 HQA7 10 rfl (hpre ⟨10, .data⟩ (by simp) rfl) rfl; have hgoal := hR.go hst HQA7 11 rfl; clear hF hpre hl hR; go_simp; exact ⟨_, rfl, hgoal _ _ (Below.refl _ _) rfl⟩
            | 12, ho =>
              simp at ho; subst ho; refine step_gd hF hR.2 HQA7 (j := 4) (b := true) rfl rfl (by kernel_rfl) (hpre ⟨4, .guard⟩ (by simp) rfl) rfl ?_; have e98 := hF.gv hR.2 HQA7 11 rfl (hpre ⟨11, .data⟩ (by simp) rfl) rfl; have hgoal := hR.go hst HQA7 12 rfl; clear hF hpre hl hR; go_simp; exact ⟨_, rfl, hgoal _ _ (Below.refl _ _) rfl⟩
            | 13, ho =>
              simp at ho; subst ho; refine step_gd hF hR.2 HQA7 (j := 4) (b := true) rfl rfl (by kernel_rfl) (hpre ⟨4, .guard⟩ (by simp) rfl) rfl ?_; have e99 := hF.gv hR.2 HQA7 12 rfl (hpre ⟨12, .data⟩ (by simp) rfl) rfl; have hgoal := hR.go hst HQA7 13 rfl; clear hF hpre hl hR; go_simp; exact ⟨_, rfl, hgoal _ _ (Below.refl _ _) rfl⟩
            | 14, ho =>
              simp at ho; subst ho; refine step_gd hF hR.2 HQA7 (j := 4) (b := true) rfl rfl (by kernel_rfl) (hpre ⟨4, .guard⟩ (by simp) rfl) rfl ?_; have e100 := hF.gv hR.2 HQA7 13 rfl (hpre ⟨13, .data⟩ (by simp) rfl) rfl; have hgoal := hR.go hst HQA7 14 rfl; have q0 := cell_keep hR.1 c4; clear hF hpre hl hR; go_simp; exact ⟨_, rfl, hgoal _ _ (Below.refl _ _) rfl⟩
            | 15, ho =>
              simp at ho; subst ho; refine step_gd hF hR.2 HQA7 (j := 4) (b := true) rfl rfl (by kernel_rfl) (hpre ⟨4, .guard⟩ (by simp) rfl) rfl ?_; have e96 := hF.gv hR.2 HQA7 9 rfl (hpre ⟨9, .data⟩ (by simp) rfl) rfl; have e101 := hF.gv hR.2 HQA7 14 rfl (hpre ⟨14, .data⟩ (by simp) rfl) rfl; have hgoal := hR.go hst HQA7 15 rfl; clear hF hpre hl hR; go_simp; exact ⟨_, rfl, hgoal _ _ (Below.refl _ _) rfl⟩
            | 16, ho =>
              simp at ho; subst ho; refine step_plain rfl ?_; have e91 := hF.gv hR.2 HQA7 4 rfl (hpre ⟨4, .data⟩ (by simp) rfl) rfl; have e102 := hF.gv hR.2 HQA7 15 rfl (hpre ⟨15, .data⟩ (by simp) rfl) rfl; have hgoal := hR.go hst HQA7 16 rfl; clear hF hpre hl hR; go_simp; exact ⟨_, rfl, hgoal _ _ (Below.refl _ _) rfl⟩
            | 17, ho =>
              simp at ho; subst ho; refine step_plain rfl ?_; have e103 := hF.gv hR.2 HQA7 16 rfl (hpre ⟨16, .data⟩ (by simp) rfl) rfl; have hgoal := hR.go hst HQA7 17 rfl; clear hF hpre hl hR; go_simp; exact ⟨_, rfl, hgoal _ _ (Below.refl _ _) rfl⟩
            | i + 18, ho => simp at ho
          case hendA7 =>
            intro val L b' x9 hF hall hR
            have e := hF.all (by kernel_rfl) hall
            have kA717 := QG.val HQA7 rfl (hR.2 17 (hall 17 (by decide)))
            have hBA7 := Lib.hid hR.1
            clear hF hall hR hst HQA7 
            subst e
            simp [final, dstOf, List.range, List.range.loop]
            rw [kA717]
            have l1 := cell_keep hBA7.out l1
            have c0 := cell_keep hBA7.out c0
            have c5 := cell_keep hBA7.out c5
            have c6 := cell_keep hBA7.out c6
            have hg : g < x9.heap.size := Nat.lt_of_lt_of_le hg hBA7.out.size
            have HB1 := Lib.hid (HB1.out.trans (hBA7.out.mono HB1.out.size))
            go_upto_region 10 with (fail)
            obtain ⟨Q8, hQ8⟩ : ∃ q9 : Nat → Value → World → Prop, q9 = QG [some (.pointer (some ⟨w.heap.size, 1, none⟩)), some (.int .i64 n), none, some (.bool true), some (.bool true), some (.pointer (some ⟨g, 0, none⟩)), some (.pointer (some ⟨g, 0, none⟩)), some (.pointer (some ⟨g, 5, none⟩)), some (.pointer (some ⟨g, 6, none⟩)), some (.int .i64 0), some (.bool true), some (.bool true), some (.bool true), some (.pointer (some ⟨g, 0, none⟩)), some (.pointer (some ⟨g, 0, none⟩)), some (.pointer (some ⟨g, 5, none⟩)), some (.pointer (some ⟨g, 5, none⟩)), some (.int .i64 len), some (.bool false), some (.bool false), some (.bool false), some (undef), some (.bool false), some (.bool false), some (undef), some (undef), some (undef), some (undef), some (undef), some (undef), some (undef), some (undef), some (undef), some (undef), some (.bool false), some (.bool false)] (fun j0' v0' w0' => (j0' = 2 → QI [n] v0' w0')) := ⟨_, rfl⟩
            have hst : Stays Q8 := by rw [hQ8]; exact QG.stays (fun j v W W' h hb => fun e => (h e).stay hb)
            have U82 := Lib.hid (show ∀ v0' w0', Q8 2 v0' w0' ↔ QI [n] v0' w0' from fun v0' w0' => by rw [hQ8]; exact ⟨fun h => h rfl, fun h => fun _ => h⟩)
            have HQ8 := Lib.hid hQ8
            clear hQ8
            refine wpIn_wide.1 (region_inv2 (n := 9) (by kernel_rfl) (RQ Q8 x9) (by kernel_rfl) rfl (RQ.start _ _ _) ?hstep8 ?hend8)
            case hstep8 =>
              intro i' o ho val L b' x hF hR hpre hl
              match i', ho with
              | 0, ho =>
                simp at ho; subst ho; refine step_plain rfl ?_; have e3 := hF.was 3 (by kernel_rfl) rfl; have hgoal := hR.go hst HQ8 0 rfl; clear hF hpre hl hR; go_simp; exact ⟨_, rfl, hgoal _ _ (Below.refl _ _) rfl⟩
              | 1, ho =>
                simp at ho; subst ho; refine step_plain rfl ?_; have e104 := hF.gv hR.2 HQ8 0 rfl (hpre ⟨0, .data⟩ (by simp) rfl) rfl; have hgoal := hR.go hst HQ8 1 rfl; have q0 := cell_keep hR.1 l1; clear hF hpre hl hR; go_simp; exact ⟨_, rfl, hgoal _ _ (Below.refl _ _) rfl⟩
              | 2, ho =>
                simp at ho; subst ho; refine step_plain rfl ?_; have e105 := hF.gv hR.2 HQ8 1 rfl (hpre ⟨1, .data⟩ (by simp) rfl) rfl
                have hgoal : ∀ v0' w0', Below x.heap.size x w0' → QI [n] v0' w0' → RQ Q8 x9 (upd val 2 v0') (L.setIfInBounds 2 true) w0' := fun v0' w0' hb hq => hR.step hst hb ((U82.out _ _).2 hq)
                have hM := Lib.hid hR.1
                clear hF hpre hl hR; go_simp; exact ⟨_, rfl, hgoal _ _ ((Below.refl _ _).alloc (Nat.le_refl _) _) ⟨_, _, rfl, Nat.le_refl _, (RI.new1 rfl).more (by simp)⟩⟩
              | 3, ho =>
                simp at ho; subst ho; refine step_plain rfl ?_; have e106 := hF.gave 2 rfl (hpre ⟨2, .data⟩ (by simp) rfl) rfl
                have v2 := (U82.out _ _).1 (hR.2 2 (hpre ⟨2, .data⟩ (by simp) rfl))
                have hgoal := hR.go hst HQ8 3 rfl
                have hM := Lib.hid hR.1
                clear hF hpre hl hR
                obtain ⟨A9, c9, h9, _, hr9⟩ := v2
                rw [h9] at e106
                go_simp
                refine ⟨trivial, ?_⟩
                refine CallsIn.mono (callsIn_wide.2 (within_any 1 (100000) _ 1 _ _ [n] _ rfl (le_maxLen (by omega)) hr9)) ?_
                rintro e w9 ⟨rfl, rfl⟩
                exact ⟨_, rfl, hgoal _ _ (Below.refl _ _) (by rw [G1.out])⟩
              | 4, ho =>
                simp at ho; subst ho; refine step_plain rfl ?_; have e107 := hF.gv hR.2 HQ8 3 rfl (hpre ⟨3, .data⟩ (by simp) rfl) rfl; have hgoal := hR.go hst HQ8 4 rfl; clear hF hpre hl hR; go_simp; exact ⟨_, rfl, hgoal _ _ (Below.refl _ _) rfl⟩
              | 5, ho =>
                simp at ho; subst ho; refine step_gd hF hR.2 HQ8 (j := 4) (b := true) rfl rfl (by kernel_rfl) (hpre ⟨4, .guard⟩ (by simp) rfl) rfl ?_; have e0 := hF.was 0 (by kernel_rfl) rfl; have hgoal := hR.go hst HQ8 5 rfl; clear hF hpre hl hR; go_simp; exact ⟨_, rfl, hgoal _ _ (Below.refl _ _) rfl⟩
              | 6, ho =>
                simp at ho; subst ho; refine step_gd hF hR.2 HQ8 (j := 4) (b := true) rfl rfl (by kernel_rfl) (hpre ⟨4, .guard⟩ (by simp) rfl) rfl ?_; have e109 := hF.gv hR.2 HQ8 5 rfl (hpre ⟨5, .data⟩ (by simp) rfl) rfl; have hgoal := hR.go hst HQ8 6 rfl; clear hF hpre hl hR; go_simp; exact ⟨_, rfl, hgoal _ _ (Below.refl _ _) rfl⟩
              | 7, ho =>
                simp at ho; subst ho; refine step_gd hF hR.2 HQ8 (j := 4) (b := true) rfl rfl (by kernel_rfl) (hpre ⟨4, .guard⟩ (by simp) rfl) rfl ?_; have e110 := hF.gv hR.2 HQ8 6 rfl (hpre ⟨6, .data⟩ (by simp) rfl) rfl; have hgoal := hR.go hst HQ8 7 rfl; clear hF hpre hl hR; go_simp; exact ⟨_, rfl, hgoal _ _ (Below.refl _ _) rfl⟩
              | 8, ho =>
                simp at ho; subst ho; refine step_gd hF hR.2 HQ8 (j := 4) (b := true) rfl rfl (by kernel_rfl) (hpre ⟨4, .guard⟩ (by simp) rfl) rfl ?_; have e111 := hF.gv hR.2 HQ8 7 rfl (hpre ⟨7, .data⟩ (by simp) rfl) rfl; have hgoal := hR.go hst HQ8 8 rfl; clear hF hpre hl hR; go_simp; exact ⟨_, rfl, hgoal _ _ (Below.refl _ _) rfl⟩
              | 9, ho =>
                simp at ho; subst ho; refine step_gd hF hR.2 HQ8 (j := 4) (b := true) rfl rfl (by kernel_rfl) (hpre ⟨4, .guard⟩ (by simp) rfl) rfl ?_; have e112 := hF.gv hR.2 HQ8 8 rfl (hpre ⟨8, .data⟩ (by simp) rfl) rfl; have hgoal := hR.go hst HQ8 9 rfl; have q0 := cell_keep hR.1 c6; clear hF hpre hl hR; go_simp; exact ⟨_, rfl, hgoal _ _ (Below.refl _ _) rfl⟩
              | 10, ho =>
                simp at ho; subst ho; refine step_gd hF hR.2 HQ8 (j := 4) (b := true) rfl rfl (by kernel_rfl) (hpre ⟨4, .guard⟩ (by simp) rfl) rfl ?_; have e113 := hF.gv hR.2 HQ8 9 rfl (hpre ⟨9, .data⟩ (by simp) rfl) rfl; have hgoal := hR.go hst HQ8 10 rfl; clear hF hpre hl hR; go_simp; exact ⟨_, rfl, hgoal _ _ (Below.refl _ _) rfl⟩
              | 11, ho =>
                simp at ho; subst ho; refine step_plain rfl ?_; have e108 := hF.gv hR.2 HQ8 4 rfl (hpre ⟨4, .data⟩ (by simp) rfl) rfl; have e114 := hF.gv hR.2 HQ8 10 rfl (hpre ⟨10, .data⟩ (by simp) rfl) rfl; have hgoal := hR.go hst HQ8 11 rfl; clear hF hpre hl hR; go_simp; exact ⟨_, rfl, hgoal _ _ (Below.refl _ _) rfl⟩
              | 12, ho =>
                simp at ho; subst ho; refine step_plain rfl ?_; have e115 := hF.gv hR.2 HQ8 11 rfl (hpre ⟨11, .data⟩ (by simp) rfl) rfl; have hgoal := hR.go hst HQ8 12 rfl; clear hF hpre hl hR; go_simp; exact ⟨_, rfl, hgoal _ _ (Below.refl _ _) rfl⟩
              | 13, ho =>
                simp at ho; subst ho; refine step_gd hF hR.2 HQ8 (j := 12) (b := true) rfl rfl (by kernel_rfl) (hpre ⟨12, .guard⟩ (by simp) rfl) rfl ?_; have e0 := hF.was 0 (by kernel_rfl) rfl; have hgoal := hR.go hst HQ8 13 rfl; clear hF hpre hl hR; go_simp; exact ⟨_, rfl, hgoal _ _ (Below.refl _ _) rfl⟩
              | 14, ho =>
                simp at ho; subst ho; refine step_gd hF hR.2 HQ8 (j := 12) (b := true) rfl rfl (by kernel_rfl) (hpre ⟨12, .guard⟩ (by simp) rfl) rfl ?_; have e117 := hF.gv hR.2 HQ8 13 rfl (hpre ⟨13, .data⟩ (by simp) rfl) rfl; have hgoal := hR.go hst HQ8 14 rfl; clear hF hpre hl hR; go_simp; exact ⟨_, rfl, hgoal _ _ (Below.refl _ _) rfl⟩
              | 15, ho =>
                simp at ho; subst ho; refine step_gd hF hR.2 HQ8 (j := 12) (b := true) rfl rfl (by kernel_rfl) (hpre ⟨12, .guard⟩ (by simp) rfl) rfl ?_; have e118 := hF.gv hR.2 HQ8 14 rfl (hpre ⟨14, .data⟩ (by simp) rfl) rfl; have hgoal := hR.go hst HQ8 15 rfl; clear hF hpre hl hR; go_simp; exact ⟨_, rfl, hgoal _ _ (Below.refl _ _) rfl⟩
              | 16, ho =>
                simp at ho; subst ho; refine step_gd hF hR.2 HQ8 (j := 12) (b := true) rfl rfl (by kernel_rfl) (hpre ⟨12, .guard⟩ (by simp) rfl) rfl ?_; have e119 := hF.gv hR.2 HQ8 15 rfl (hpre ⟨15, .data⟩ (by simp) rfl) rfl; have hgoal := hR.go hst HQ8 16 rfl; clear hF hpre hl hR; go_simp; exact ⟨_, rfl, hgoal _ _ (Below.refl _ _) rfl⟩
              | 17, ho =>
                simp at ho; subst ho; refine step_gd hF hR.2 HQ8 (j := 12) (b := true) rfl rfl (by kernel_rfl) (hpre ⟨12, .guard⟩ (by simp) rfl) rfl ?_; have e120 := hF.gv hR.2 HQ8 16 rfl (hpre ⟨16, .data⟩ (by simp) rfl) rfl; have hgoal := hR.go hst HQ8 17 rfl; have q0 := cell_keep hR.1 c5; clear hF hpre hl hR; go_simp; exact ⟨_, rfl, hgoal _ _ (Below.refl _ _) rfl⟩
              | 18, ho =>
                simp at ho; subst ho; refine step_gd hF hR.2 HQ8 (j := 12) (b := true) rfl rfl (by kernel_rfl) (hpre ⟨12, .guard⟩ (by simp) rfl) rfl ?_; have e121 := hF.gv hR.2 HQ8 17 rfl (hpre ⟨17, .data⟩ (by simp) rfl) rfl; have hgoal := hR.go hst HQ8 18 rfl; clear hF hpre hl hR; go_simp; exact ⟨_, rfl, hgoal _ _ (Below.refl _ _) rfl⟩
              | 19, ho =>
                simp at ho; subst ho; refine step_plain rfl ?_; have e116 := hF.gv hR.2 HQ8 12 rfl (hpre ⟨12, .data⟩ (by simp) rfl) rfl; have e122 := hF.gv hR.2 HQ8 18 rfl (hpre ⟨18, .data⟩ (by simp) rfl) rfl; have hgoal := hR.go hst HQ8 19 rfl; clear hF hpre hl hR; go_simp; exact ⟨_, rfl, hgoal _ _ (Below.refl _ _) rfl⟩
              | 20, ho =>
                simp at ho; subst ho; refine step_plain rfl ?_; have e123 := hF.gv hR.2 HQ8 19 rfl (hpre ⟨19, .data⟩ (by simp) rfl) rfl; have hgoal := hR.go hst HQ8 20 rfl; clear hF hpre hl hR; go_simp; exact ⟨_, rfl, hgoal _ _ (Below.refl _ _) rfl⟩
              | 21, ho =>
                simp at ho; subst ho; refine step_sk hF hR.2 HQ8 (j := 20) (b := true) rfl rfl (by kernel_rfl) (hpre ⟨20, .guard⟩ (by simp) rfl) rfl (by simp) ?_
                exact ⟨fun _ _ => trivial, hR.go hst HQ8 21 rfl _ _ (Below.refl _ _) rfl⟩
              | 22, ho =>
                simp at ho; subst ho; refine step_plain rfl ?_; have e124 := hF.gv hR.2 HQ8 20 rfl (hpre ⟨20, .data⟩ (by simp) rfl) rfl; have e125 := hF.gv hR.2 HQ8 21 rfl (hpre ⟨21, .data⟩ (by simp) rfl) rfl; have hgoal := hR.go hst HQ8 22 rfl; clear hF hpre hl hR; go_simp; exact ⟨_, rfl, hgoal _ _ (Below.refl _ _) rfl⟩
              | 23, ho =>
                simp at ho; subst ho; refine step_plain rfl ?_; have e126 := hF.gv hR.2 HQ8 22 rfl (hpre ⟨22, .data⟩ (by simp) rfl) rfl; have hgoal := hR.go hst HQ8 23 rfl; clear hF hpre hl hR; go_simp; exact ⟨_, rfl, hgoal _ _ (Below.refl _ _) rfl⟩
              | 24, ho =>
                simp at ho; subst ho; refine step_sk hF hR.2 HQ8 (j := 23) (b := true) rfl rfl (by kernel_rfl) (hpre ⟨23, .guard⟩ (by simp) rfl) rfl (by simp) ?_
                exact ⟨fun _ _ => trivial, hR.go hst HQ8 24 rfl _ _ (Below.refl _ _) rfl⟩
              | 25, ho =>
                simp at ho; subst ho; refine step_sk hF hR.2 HQ8 (j := 23) (b := true) rfl rfl (by kernel_rfl) (hpre ⟨23, .guard⟩ (by simp) rfl) rfl (by simp) ?_
                exact ⟨fun _ _ => trivial, hR.go hst HQ8 25 rfl _ _ (Below.refl _ _) rfl⟩
              | 26, ho =>
                simp at ho; subst ho; refine step_sk hF hR.2 HQ8 (j := 23) (b := true) rfl rfl (by kernel_rfl) (hpre ⟨23, .guard⟩ (by simp) rfl) rfl (by simp) ?_
                exact ⟨fun _ _ => trivial, hR.go hst HQ8 26 rfl _ _ (Below.refl _ _) rfl⟩
              | 27, ho =>
                simp at ho; subst ho; refine step_sk hF hR.2 HQ8 (j := 23) (b := true) rfl rfl (by kernel_rfl) (hpre ⟨23, .guard⟩ (by simp) rfl) rfl (by simp) ?_
                exact ⟨fun _ _ => trivial, hR.go hst HQ8 27 rfl _ _ (Below.refl _ _) rfl⟩
              | 28, ho =>
                simp at ho; subst ho; refine step_sk hF hR.2 HQ8 (j := 23) (b := true) rfl rfl (by kernel_rfl) (hpre ⟨23, .guard⟩ (by simp) rfl) rfl (by simp) ?_
                exact ⟨fun _ _ => trivial, hR.go hst HQ8 28 rfl _ _ (Below.refl _ _) rfl⟩
              | 29, ho =>
                simp at ho; subst ho; refine step_sk hF hR.2 HQ8 (j := 23) (b := true) rfl rfl (by kernel_rfl) (hpre ⟨23, .guard⟩ (by simp) rfl) rfl (by simp) ?_
                exact ⟨fun _ _ => trivial, hR.go hst HQ8 29 rfl _ _ (Below.refl _ _) rfl⟩
              | 30, ho =>
                simp at ho; subst ho; refine step_sk hF hR.2 HQ8 (j := 23) (b := true) rfl rfl (by kernel_rfl) (hpre ⟨23, .guard⟩ (by simp) rfl) rfl (by simp) ?_
                exact ⟨fun _ _ => trivial, hR.go hst HQ8 30 rfl _ _ (Below.refl _ _) rfl⟩
              | 31, ho =>
                simp at ho; subst ho; refine step_sk hF hR.2 HQ8 (j := 23) (b := true) rfl rfl (by kernel_rfl) (hpre ⟨23, .guard⟩ (by simp) rfl) rfl (by simp) ?_
                exact ⟨fun _ _ => trivial, hR.go hst HQ8 31 rfl _ _ (Below.refl _ _) rfl⟩
              | 32, ho =>
                simp at ho; subst ho; refine step_sk hF hR.2 HQ8 (j := 23) (b := true) rfl rfl (by kernel_rfl) (hpre ⟨23, .guard⟩ (by simp) rfl) rfl (by simp) ?_
                exact ⟨fun _ _ => trivial, hR.go hst HQ8 32 rfl _ _ (Below.refl _ _) rfl⟩
              | 33, ho =>
                simp at ho; subst ho; refine step_sk hF hR.2 HQ8 (j := 23) (b := true) rfl rfl (by kernel_rfl) (hpre ⟨23, .guard⟩ (by simp) rfl) rfl (by simp) ?_
                exact ⟨fun _ _ => trivial, hR.go hst HQ8 33 rfl _ _ (Below.refl _ _) rfl⟩
              | 34, ho =>
                simp at ho; subst ho; refine step_plain rfl ?_; have e127 := hF.gv hR.2 HQ8 23 rfl (hpre ⟨23, .data⟩ (by simp) rfl) rfl; have e137 := hF.gv hR.2 HQ8 33 rfl (hpre ⟨33, .data⟩ (by simp) rfl) rfl; have hgoal := hR.go hst HQ8 34 rfl; clear hF hpre hl hR; go_simp; exact ⟨_, rfl, hgoal _ _ (Below.refl _ _) rfl⟩
              | 35, ho =>
                simp at ho; subst ho; refine step_plain rfl ?_; have e138 := hF.gv hR.2 HQ8 34 rfl (hpre ⟨34, .data⟩ (by simp) rfl) rfl; have hgoal := hR.go hst HQ8 35 rfl; clear hF hpre hl hR; go_simp; exact ⟨_, rfl, hgoal _ _ (Below.refl _ _) rfl⟩
              | i + 36, ho => simp at ho
            case hend8 =>
              intro val L b' x hF hall hR
              have e := hF.all (by kernel_rfl) hall
              have k835 := QG.val HQ8 rfl (hR.2 35 (hall 35 (by decide)))
              have hB8 := Lib.hid hR.1
              clear hF hall hR hst HQ8 U82
              subst e
              simp [final, dstOf, List.range, List.range.loop]
              rw [k835]
              go_wp2
              go_ret
              exact ⟨rfl, HB1.out.trans (hB8.out.mono HB1.out.size)⟩
      · have z2a : (wt == 0) = false := by simpa using g2
        rw [show posB (fun l u => carB X Y V l l y1 y2 u) cable charge ⟨len, wt, since, cyc, cut, true⟩ 4 n = false by unfold posB; simp [g5, g1, g2]]
        have G1 := Lib.hid (show wB 1 100000 [n] = true by rw [wB_one]; simpa using g1)
        have hW1 : WN (w.alloc (.cells #[.int .i64 4, .int .i64 n] 82)) g cable AX nx cx AY ny cy AV nv cv charge ⟨len, wt, since, cyc, cut, true⟩ y1 y2 := h.stay ((Below.refl _ _).alloc (Nat.le_refl _) _)
        have hB1 : Below w.heap.size w (w.alloc (.cells #[.int .i64 4, .int .i64 n] 82)) := (Below.refl _ _).alloc (Nat.le_refl _) _
        have l0 : (w.alloc (.cells #[.int .i64 4, .int .i64 n] 82)).cell? ⟨w.heap.size, 0, none⟩ = some (.int .i64 4) := by rw [cell_newest]; rfl
        have l1 : (w.alloc (.cells #[.int .i64 4, .int .i64 n] 82)).cell? ⟨w.heap.size, 1, none⟩ = some (.int .i64 n) := by rw [cell_newest]; rfl
        have c0 := cellOf (o := 0) hW1 rfl
        have c4 := cellOf (o := 4) hW1 rfl
        have c5 := cellOf (o := 5) hW1 rfl
        have c6 := cellOf (o := 6) hW1 rfl
        have c7 := cellOf (o := 7) hW1 rfl
        have c12 := cellOf (o := 12) hW1 rfl
        have hg := hW1.lt
        have HB1 := Lib.hid hB1
        clear hW1 hB1 h ht
        go_enter Try.func110, Try.ntmps110
        go_upto_region 9 with (fail)
        generalize w.alloc _ = w1 at *
        obtain ⟨QA9, hQA9⟩ : ∃ q9 : Nat → Value → World → Prop, q9 = QG [some (.pointer (some ⟨g, 0, none⟩)), some (.pointer (some ⟨g, 0, none⟩)), some (.pointer (some ⟨g, 12, none⟩)), some (.bool true), some (.bool true), some (.pointer (some ⟨g, 0, none⟩)), some (.pointer (some ⟨g, 0, none⟩)), some (.pointer (some ⟨g, 5, none⟩)), some (.pointer (some ⟨g, 7, none⟩)), some (.int .i64 since), some (.pointer (some ⟨g, 0, none⟩)), some (.pointer (some ⟨g, 0, none⟩)), some (.pointer (some ⟨g, 0, none⟩)), some (.pointer (some ⟨g, 4, none⟩)), some (.int .i64 charge), some (.bool true), some (.bool true), some (.bool true)] (fun _ _ _ => True) := ⟨_, rfl⟩
        have hst : Stays QA9 := by rw [hQA9]; exact QG.stays (fun _ _ _ _ _ _ => trivial)
        have HQA9 := Lib.hid hQA9
        clear hQA9
        refine wpIn_wide.1 (region_inv2 (n := 9) (by kernel_rfl) (RQ QA9 w1) (by kernel_rfl) rfl (RQ.start _ _ _) ?hstepA9 ?hendA9)
        case hstepA9 =>
          intro i' o ho val L b' x9 hF hR hpre hl
          match i', ho with
          | 0, ho =>
            simp at ho; subst ho; refine step_plain rfl ?_; have e0 := hF.was 0 (by kernel_rfl) rfl; have hgoal := hR.go hst HQA9 0 rfl; clear hF hpre hl hR; go_simp; exact ⟨_, rfl, hgoal _ _ (Below.refl _ _) rfl⟩
          | 1, ho =>
            simp at ho; subst ho; refine step_plain rfl ?_; have e87 := hF.gv hR.2 HQA9 0 rfl (hpre ⟨0, .data⟩ (by simp) rfl) rfl; have hgoal := hR.go hst HQA9 1 rfl; clear hF hpre hl hR; go_simp; exact ⟨_, rfl, hgoal _ _ (Below.refl _ _) rfl⟩
          | 2, ho =>
            simp at ho; subst ho; refine step_plain rfl ?_; have e88 := hF.gv hR.2 HQA9 1 rfl (hpre ⟨1, .data⟩ (by simp) rfl) rfl; have hgoal := hR.go hst HQA9 2 rfl; clear hF hpre hl hR; go_simp; exact ⟨_, rfl, hgoal _ _ (Below.refl _ _) rfl⟩
          | 3, ho =>
            simp at ho; subst ho; refine step_plain rfl ?_; have e89 := hF.gv hR.2 HQA9 2 rfl (hpre ⟨2, .data⟩ (by simp) rfl) rfl; have hgoal := hR.go hst HQA9 3 rfl; have q0 := cell_keep hR.1 c12; clear hF hpre hl hR; go_simp; exact ⟨_, rfl, hgoal _ _ (Below.refl _ _) rfl⟩
          | 4, ho =>
            simp at ho; subst ho; refine step_plain rfl ?_; have e90 := hF.gv hR.2 HQA9 3 rfl (hpre ⟨3, .data⟩ (by simp) rfl) rfl; have hgoal := hR.go hst HQA9 4 rfl; clear hF hpre hl hR; go_simp; exact ⟨_, rfl, hgoal _ _ (Below.refl _ _) rfl⟩
          | 5, ho =>
            simp at ho; subst ho; refine step_gd hF hR.2 HQA9 (j := 4) (b := true) rfl rfl (by kernel_rfl) (hpre ⟨4, .guard⟩ (by simp) rfl) rfl ?_; have e0 := hF.was 0 (by kernel_rfl) rfl; have hgoal := hR.go hst HQA9 5 rfl; clear hF hpre hl hR; go_simp; exact ⟨_, rfl, hgoal _ _ (Below.refl _ _) rfl⟩
          | 6, ho =>
            simp at ho; subst ho; refine step_gd hF hR.2 HQA9 (j := 4) (b := true) rfl rfl (by kernel_rfl) (hpre ⟨4, .guard⟩ (by simp) rfl) rfl ?_; have e92 := hF.gv hR.2 HQA9 5 rfl (hpre ⟨5, .data⟩ (by simp) rfl) rfl; have hgoal := hR.go hst HQA9 6 rfl; clear hF hpre hl hR; go_simp; exact ⟨_, rfl, hgoal _ _ (Below.refl _ _) rfl⟩
          | 7, ho =>
            simp at ho; subst ho; refine step_gd hF hR.2 HQA9 (j := 4) (b := true) rfl rfl (by kernel_rfl) (hpre ⟨4, .guard⟩ (by simp) rfl) rfl ?_; have e93 := hF.gv hR.2 HQA9 6 rfl (hpre ⟨6, .data⟩ (by simp) rfl) rfl; have hgoal := hR.go hst HQA9 7 rfl; clear hF hpre hl hR; go_simp; exact ⟨_, rfl, hgoal _ _ (Below.refl _ _) rfl⟩
          | 8, ho =>
            simp at ho; subst ho; refine step_gd hF hR.2 HQA9 (j := 4) (b := true) rfl rfl (by kernel_rfl) (hpre ⟨4, .guard⟩ (by simp) rfl) rfl ?_; have e94 := hF.gv hR.2 HQA9 7 rfl (hpre ⟨7, .data⟩ (by simp) rfl) rfl; have hgoal := hR.go hst HQA9 8 rfl; clear hF hpre hl hR; go_simp; exact ⟨_, rfl, hgoal _ _ (Below.refl _ _) rfl⟩
          | 9, ho =>
            simp at ho; subst ho; refine step_gd hF hR.2 HQA9 (j := 4) (b := true) rfl rfl (by kernel_rfl) (hpre ⟨4, .guard⟩ (by simp) rfl) rfl ?_; have e95 := hF.gv hR.2 HQA9 8 rfl (hpre ⟨8, .data⟩ (by simp) rfl) rfl; have hgoal := hR.go hst HQA9 9 rfl; have q0 := cell_keep hR.1 c7; clear hF hpre hl hR; go_simp; exact ⟨_, rfl, hgoal _ _ (Below.refl _ _) rfl⟩
          | 10, ho =>
            simp at ho; subst ho; refine step_gd hF hR.2 HQA9 (j := 4) (b := true) rfl rfl (by kernel_rfl) (hpre ⟨4, .guard⟩ (by simp) rfl) rfl ?_; have e0 := hF.was 0 (by kernel_rfl) rfl; have hgoal := hR.go hst HQA9 10 rfl; clear hF hpre hl hR; go_simp; exact ⟨_, rfl, hgoal _ _ (Below.refl _ _) rfl⟩
          | 11, ho =>
            simp at ho; subst ho; refine step_gd hF hR.2 HQA9 (j := 4) (b := true) rfl rfl (by kernel_rfl) (hpre ⟨4, .guard⟩ (by simp) rfl) rfl ?_; have e97 := hF.gv hR.2 HQA9 10 rfl (hpre ⟨10, .data⟩ (by simp) rfl) rfl; have hgoal := hR.go hst HQA9 11 rfl; clear hF hpre hl hR; go_simp; exact ⟨_, rfl, hgoal _ _ (Below.refl _ _) rfl⟩
          | 12, ho =>
            simp at ho; subst ho; refine step_gd hF hR.2 HQA9 (j := 4) (b := true) rfl rfl (by kernel_rfl) (hpre ⟨4, .guard⟩ (by simp) rfl) rfl ?_; have e98 := hF.gv hR.2 HQA9 11 rfl (hpre ⟨11, .data⟩ (by simp) rfl) rfl; have hgoal := hR.go hst HQA9 12 rfl; clear hF hpre hl hR; go_simp; exact ⟨_, rfl, hgoal _ _ (Below.refl _ _) rfl⟩
          | 13, ho =>
            simp at ho; subst ho; refine step_gd hF hR.2 HQA9 (j := 4) (b := true) rfl rfl (by kernel_rfl) (hpre ⟨4, .guard⟩ (by simp) rfl) rfl ?_; have e99 := hF.gv hR.2 HQA9 12 rfl (hpre ⟨12, .data⟩ (by simp) rfl) rfl; have hgoal := hR.go hst HQA9 13 rfl; clear hF hpre hl hR; go_simp; exact ⟨_, rfl, hgoal _ _ (Below.refl _ _) rfl⟩
          | 14, ho =>
            simp at ho; subst ho; refine step_gd hF hR.2 HQA9 (j := 4) (b := true) rfl rfl (by kernel_rfl) (hpre ⟨4, .guard⟩ (by simp) rfl) rfl ?_; have e100 := hF.gv hR.2 HQA9 13 rfl (hpre ⟨13, .data⟩ (by simp) rfl) rfl; have hgoal := hR.go hst HQA9 14 rfl; have q0 := cell_keep hR.1 c4; clear hF hpre hl hR; go_simp; exact ⟨_, rfl, hgoal _ _ (Below.refl _ _) rfl⟩
          | 15, ho =>
            simp at ho; subst ho; refine step_gd hF hR.2 HQA9 (j := 4) (b := true) rfl rfl (by kernel_rfl) (hpre ⟨4, .guard⟩ (by simp) rfl) rfl ?_; have e96 := hF.gv hR.2 HQA9 9 rfl (hpre ⟨9, .data⟩ (by simp) rfl) rfl; have e101 := hF.gv hR.2 HQA9 14 rfl (hpre ⟨14, .data⟩ (by simp) rfl) rfl; have hgoal := hR.go hst HQA9 15 rfl; clear hF hpre hl hR; go_simp; exact ⟨_, rfl, hgoal _ _ (Below.refl _ _) rfl⟩
          | 16, ho =>
            simp at ho; subst ho; refine step_plain rfl ?_; have e91 := hF.gv hR.2 HQA9 4 rfl (hpre ⟨4, .data⟩ (by simp) rfl) rfl; have e102 := hF.gv hR.2 HQA9 15 rfl (hpre ⟨15, .data⟩ (by simp) rfl) rfl; have hgoal := hR.go hst HQA9 16 rfl; clear hF hpre hl hR; go_simp; exact ⟨_, rfl, hgoal _ _ (Below.refl _ _) rfl⟩
          | 17, ho =>
            simp at ho; subst ho; refine step_plain rfl ?_; have e103 := hF.gv hR.2 HQA9 16 rfl (hpre ⟨16, .data⟩ (by simp) rfl) rfl; have hgoal := hR.go hst HQA9 17 rfl; clear hF hpre hl hR; go_simp; exact ⟨_, rfl, hgoal _ _ (Below.refl _ _) rfl⟩
          | i + 18, ho => simp at ho
        case hendA9 =>
          intro val L b' x9 hF hall hR
          have e := hF.all (by kernel_rfl) hall
          have kA917 := QG.val HQA9 rfl (hR.2 17 (hall 17 (by decide)))
          have hBA9 := Lib.hid hR.1
          clear hF hall hR hst HQA9 
          subst e
          simp [final, dstOf, List.range, List.range.loop]
          rw [kA917]
          have l1 := cell_keep hBA9.out l1
          have c0 := cell_keep hBA9.out c0
          have c5 := cell_keep hBA9.out c5
          have c6 := cell_keep hBA9.out c6
          have hg : g < x9.heap.size := Nat.lt_of_lt_of_le hg hBA9.out.size
          have HB1 := Lib.hid (HB1.out.trans (hBA9.out.mono HB1.out.size))
          go_upto_region 10 with (fail)
          obtain ⟨Q10, hQ10⟩ : ∃ q9 : Nat → Value → World → Prop, q9 = QG [some (.pointer (some ⟨w.heap.size, 1, none⟩)), some (.int .i64 n), none, some (.bool true), some (.bool true), some (.pointer (some ⟨g, 0, none⟩)), some (.pointer (some ⟨g, 0, none⟩)), some (.pointer (some ⟨g, 5, none⟩)), some (.pointer (some ⟨g, 6, none⟩)), some (.int .i64 wt), some (.bool false), some (.bool false), some (.bool false), some (undef), some (undef), some (undef), some (undef), some (undef), some (undef), some (.bool false), some (.bool false), some (undef), some (.bool false), some (.bool false), some (undef), some (undef), some (undef), some (undef), some (undef), some (undef), some (undef), some (undef), some (undef), some (undef), some (.bool false), some (.bool false)] (fun j0' v0' w0' => (j0' = 2 → QI [n] v0' w0')) := ⟨_, rfl⟩
          have hst : Stays Q10 := by rw [hQ10]; exact QG.stays (fun j v W W' h hb => fun e => (h e).stay hb)
          have U102 := Lib.hid (show ∀ v0' w0', Q10 2 v0' w0' ↔ QI [n] v0' w0' from fun v0' w0' => by rw [hQ10]; exact ⟨fun h => h rfl, fun h => fun _ => h⟩)
          have HQ10 := Lib.hid hQ10
          clear hQ10
          refine wpIn_wide.1 (region_inv2 (n := 9) (by kernel_rfl) (RQ Q10 x9) (by kernel_rfl) rfl (RQ.start _ _ _) ?hstep10 ?hend10)
          case hstep10 =>
            intro i' o ho val L b' x hF hR hpre hl
            match i', ho with
            | 0, ho =>
              simp at ho; subst ho; refine step_plain rfl ?_; have e3 := hF.was 3 (by kernel_rfl) rfl; have hgoal := hR.go hst HQ10 0 rfl; clear hF hpre hl hR; go_simp; exact ⟨_, rfl, hgoal _ _ (Below.refl _ _) rfl⟩
            | 1, ho =>
              simp at ho; subst ho; refine step_plain rfl ?_; have e104 := hF.gv hR.2 HQ10 0 rfl (hpre ⟨0, .data⟩ (by simp) rfl) rfl; have hgoal := hR.go hst HQ10 1 rfl; have q0 := cell_keep hR.1 l1; clear hF hpre hl hR; go_simp; exact ⟨_, rfl, hgoal _ _ (Below.refl _ _) rfl⟩
            | 2, ho =>
              simp at ho; subst ho; refine step_plain rfl ?_; have e105 := hF.gv hR.2 HQ10 1 rfl (hpre ⟨1, .data⟩ (by simp) rfl) rfl
              have hgoal : ∀ v0' w0', Below x.heap.size x w0' → QI [n] v0' w0' → RQ Q10 x9 (upd val 2 v0') (L.setIfInBounds 2 true) w0' := fun v0' w0' hb hq => hR.step hst hb ((U102.out _ _).2 hq)
              have hM := Lib.hid hR.1
              clear hF hpre hl hR; go_simp; exact ⟨_, rfl, hgoal _ _ ((Below.refl _ _).alloc (Nat.le_refl _) _) ⟨_, _, rfl, Nat.le_refl _, (RI.new1 rfl).more (by simp)⟩⟩
            | 3, ho =>
              simp at ho; subst ho; refine step_plain rfl ?_; have e106 := hF.gave 2 rfl (hpre ⟨2, .data⟩ (by simp) rfl) rfl
              have v2 := (U102.out _ _).1 (hR.2 2 (hpre ⟨2, .data⟩ (by simp) rfl))
              have hgoal := hR.go hst HQ10 3 rfl
              have hM := Lib.hid hR.1
              clear hF hpre hl hR
              obtain ⟨A9, c9, h9, _, hr9⟩ := v2
              rw [h9] at e106
              go_simp
              refine ⟨trivial, ?_⟩
              refine CallsIn.mono (callsIn_wide.2 (within_any 1 (100000) _ 1 _ _ [n] _ rfl (le_maxLen (by omega)) hr9)) ?_
              rintro e w9 ⟨rfl, rfl⟩
              exact ⟨_, rfl, hgoal _ _ (Below.refl _ _) (by rw [G1.out])⟩
            | 4, ho =>
              simp at ho; subst ho; refine step_plain rfl ?_; have e107 := hF.gv hR.2 HQ10 3 rfl (hpre ⟨3, .data⟩ (by simp) rfl) rfl; have hgoal := hR.go hst HQ10 4 rfl; clear hF hpre hl hR; go_simp; exact ⟨_, rfl, hgoal _ _ (Below.refl _ _) rfl⟩
            | 5, ho =>
              simp at ho; subst ho; refine step_gd hF hR.2 HQ10 (j := 4) (b := true) rfl rfl (by kernel_rfl) (hpre ⟨4, .guard⟩ (by simp) rfl) rfl ?_; have e0 := hF.was 0 (by kernel_rfl) rfl; have hgoal := hR.go hst HQ10 5 rfl; clear hF hpre hl hR; go_simp; exact ⟨_, rfl, hgoal _ _ (Below.refl _ _) rfl⟩
            | 6, ho =>
              simp at ho; subst ho; refine step_gd hF hR.2 HQ10 (j := 4) (b := true) rfl rfl (by kernel_rfl) (hpre ⟨4, .guard⟩ (by simp) rfl) rfl ?_; have e109 := hF.gv hR.2 HQ10 5 rfl (hpre ⟨5, .data⟩ (by simp) rfl) rfl; have hgoal := hR.go hst HQ10 6 rfl; clear hF hpre hl hR; go_simp; exact ⟨_, rfl, hgoal _ _ (Below.refl _ _) rfl⟩
            | 7, ho =>
              simp at ho; subst ho; refine step_gd hF hR.2 HQ10 (j := 4) (b := true) rfl rfl (by kernel_rfl) (hpre ⟨4, .guard⟩ (by simp) rfl) rfl ?_; have e110 := hF.gv hR.2 HQ10 6 rfl (hpre ⟨6, .data⟩ (by simp) rfl) rfl; have hgoal := hR.go hst HQ10 7 rfl; clear hF hpre hl hR; go_simp; exact ⟨_, rfl, hgoal _ _ (Below.refl _ _) rfl⟩
            | 8, ho =>
              simp at ho; subst ho; refine step_gd hF hR.2 HQ10 (j := 4) (b := true) rfl rfl (by kernel_rfl) (hpre ⟨4, .guard⟩ (by simp) rfl) rfl ?_; have e111 := hF.gv hR.2 HQ10 7 rfl (hpre ⟨7, .data⟩ (by simp) rfl) rfl; have hgoal := hR.go hst HQ10 8 rfl; clear hF hpre hl hR; go_simp; exact ⟨_, rfl, hgoal _ _ (Below.refl _ _) rfl⟩
            | 9, ho =>
              simp at ho; subst ho; refine step_gd hF hR.2 HQ10 (j := 4) (b := true) rfl rfl (by kernel_rfl) (hpre ⟨4, .guard⟩ (by simp) rfl) rfl ?_; have e112 := hF.gv hR.2 HQ10 8 rfl (hpre ⟨8, .data⟩ (by simp) rfl) rfl; have hgoal := hR.go hst HQ10 9 rfl; have q0 := cell_keep hR.1 c6; clear hF hpre hl hR; go_simp; exact ⟨_, rfl, hgoal _ _ (Below.refl _ _) rfl⟩
            | 10, ho =>
              simp at ho; subst ho; refine step_gd hF hR.2 HQ10 (j := 4) (b := true) rfl rfl (by kernel_rfl) (hpre ⟨4, .guard⟩ (by simp) rfl) rfl ?_; have e113 := hF.gv hR.2 HQ10 9 rfl (hpre ⟨9, .data⟩ (by simp) rfl) rfl; have hgoal := hR.go hst HQ10 10 rfl; clear hF hpre hl hR; go_simp; exact ⟨_, rfl, hgoal _ _ (Below.refl _ _) rfl⟩
            | 11, ho =>
              simp at ho; subst ho; refine step_plain rfl ?_; have e108 := hF.gv hR.2 HQ10 4 rfl (hpre ⟨4, .data⟩ (by simp) rfl) rfl; have e114 := hF.gv hR.2 HQ10 10 rfl (hpre ⟨10, .data⟩ (by simp) rfl) rfl; have hgoal := hR.go hst HQ10 11 rfl; clear hF hpre hl hR; go_simp; exact ⟨_, rfl, hgoal _ _ (Below.refl _ _) rfl⟩
            | 12, ho =>
              simp at ho; subst ho; refine step_plain rfl ?_; have e115 := hF.gv hR.2 HQ10 11 rfl (hpre ⟨11, .data⟩ (by simp) rfl) rfl; have hgoal := hR.go hst HQ10 12 rfl; clear hF hpre hl hR; go_simp; exact ⟨_, rfl, hgoal _ _ (Below.refl _ _) rfl⟩
            | 13, ho =>
              simp at ho; subst ho; refine step_sk hF hR.2 HQ10 (j := 12) (b := true) rfl rfl (by kernel_rfl) (hpre ⟨12, .guard⟩ (by simp) rfl) rfl (by simp) ?_
              exact ⟨fun _ _ => trivial, hR.go hst HQ10 13 rfl _ _ (Below.refl _ _) rfl⟩
            | 14, ho =>
              simp at ho; subst ho; refine step_sk hF hR.2 HQ10 (j := 12) (b := true) rfl rfl (by kernel_rfl) (hpre ⟨12, .guard⟩ (by simp) rfl) rfl (by simp) ?_
              exact ⟨fun _ _ => trivial, hR.go hst HQ10 14 rfl _ _ (Below.refl _ _) rfl⟩
            | 15, ho =>
              simp at ho; subst ho; refine step_sk hF hR.2 HQ10 (j := 12) (b := true) rfl rfl (by kernel_rfl) (hpre ⟨12, .guard⟩ (by simp) rfl) rfl (by simp) ?_
              exact ⟨fun _ _ => trivial, hR.go hst HQ10 15 rfl _ _ (Below.refl _ _) rfl⟩
            | 16, ho =>
              simp at ho; subst ho; refine step_sk hF hR.2 HQ10 (j := 12) (b := true) rfl rfl (by kernel_rfl) (hpre ⟨12, .guard⟩ (by simp) rfl) rfl (by simp) ?_
              exact ⟨fun _ _ => trivial, hR.go hst HQ10 16 rfl _ _ (Below.refl _ _) rfl⟩
            | 17, ho =>
              simp at ho; subst ho; refine step_sk hF hR.2 HQ10 (j := 12) (b := true) rfl rfl (by kernel_rfl) (hpre ⟨12, .guard⟩ (by simp) rfl) rfl (by simp) ?_
              exact ⟨fun _ _ => trivial, hR.go hst HQ10 17 rfl _ _ (Below.refl _ _) rfl⟩
            | 18, ho =>
              simp at ho; subst ho; refine step_sk hF hR.2 HQ10 (j := 12) (b := true) rfl rfl (by kernel_rfl) (hpre ⟨12, .guard⟩ (by simp) rfl) rfl (by simp) ?_
              exact ⟨fun _ _ => trivial, hR.go hst HQ10 18 rfl _ _ (Below.refl _ _) rfl⟩
            | 19, ho =>
              simp at ho; subst ho; refine step_plain rfl ?_; have e116 := hF.gv hR.2 HQ10 12 rfl (hpre ⟨12, .data⟩ (by simp) rfl) rfl; have e122 := hF.gv hR.2 HQ10 18 rfl (hpre ⟨18, .data⟩ (by simp) rfl) rfl; have hgoal := hR.go hst HQ10 19 rfl; clear hF hpre hl hR; go_simp; exact ⟨_, rfl, hgoal _ _ (Below.refl _ _) rfl⟩
            | 20, ho =>
              simp at ho; subst ho; refine step_plain rfl ?_; have e123 := hF.gv hR.2 HQ10 19 rfl (hpre ⟨19, .data⟩ (by simp) rfl) rfl; have hgoal := hR.go hst HQ10 20 rfl; clear hF hpre hl hR; go_simp; exact ⟨_, rfl, hgoal _ _ (Below.refl _ _) rfl⟩
            | 21, ho =>
              simp at ho; subst ho; refine step_sk hF hR.2 HQ10 (j := 20) (b := true) rfl rfl (by kernel_rfl) (hpre ⟨20, .guard⟩ (by simp) rfl) rfl (by simp) ?_
              exact ⟨fun _ _ => trivial, hR.go hst HQ10 21 rfl _ _ (Below.refl _ _) rfl⟩
            | 22, ho =>
              simp at ho; subst ho; refine step_plain rfl ?_; have e124 := hF.gv hR.2 HQ10 20 rfl (hpre ⟨20, .data⟩ (by simp) rfl) rfl; have e125 := hF.gv hR.2 HQ10 21 rfl (hpre ⟨21, .data⟩ (by simp) rfl) rfl; have hgoal := hR.go hst HQ10 22 rfl; clear hF hpre hl hR; go_simp; exact ⟨_, rfl, hgoal _ _ (Below.refl _ _) rfl⟩
            | 23, ho =>
              simp at ho; subst ho; refine step_plain rfl ?_; have e126 := hF.gv hR.2 HQ10 22 rfl (hpre ⟨22, .data⟩ (by simp) rfl) rfl; have hgoal := hR.go hst HQ10 23 rfl; clear hF hpre hl hR; go_simp; exact ⟨_, rfl, hgoal _ _ (Below.refl _ _) rfl⟩
            | 24, ho =>
              simp at ho; subst ho; refine step_sk hF hR.2 HQ10 (j := 23) (b := true) rfl rfl (by kernel_rfl) (hpre ⟨23, .guard⟩ (by simp) rfl) rfl (by simp) ?_
              exact ⟨fun _ _ => trivial, hR.go hst HQ10 24 rfl _ _ (Below.refl _ _) rfl⟩
            | 25, ho =>
              simp at ho; subst ho; refine step_sk hF hR.2 HQ10 (j := 23) (b := true) rfl rfl (by kernel_rfl) (hpre ⟨23, .guard⟩ (by simp) rfl) rfl (by simp) ?_
              exact ⟨fun _ _ => trivial, hR.go hst HQ10 25 rfl _ _ (Below.refl _ _) rfl⟩
            | 26, ho =>
              simp at ho; subst ho; refine step_sk hF hR.2 HQ10 (j := 23) (b := true) rfl rfl (by kernel_rfl) (hpre ⟨23, .guard⟩ (by simp) rfl) rfl (by simp) ?_
              exact ⟨fun _ _ => trivial, hR.go hst HQ10 26 rfl _ _ (Below.refl _ _) rfl⟩
            | 27, ho =>
              simp at ho; subst ho; refine step_sk hF hR.2 HQ10 (j := 23) (b := true) rfl rfl (by kernel_rfl) (hpre ⟨23, .guard⟩ (by simp) rfl) rfl (by simp) ?_
              exact ⟨fun _ _ => trivial, hR.go hst HQ10 27 rfl _ _ (Below.refl _ _) rfl⟩
            | 28, ho =>
              simp at ho; subst ho; refine step_sk hF hR.2 HQ10 (j := 23) (b := true) rfl rfl (by kernel_rfl) (hpre ⟨23, .guard⟩ (by simp) rfl) rfl (by simp) ?_
              exact ⟨fun _ _ => trivial, hR.go hst HQ10 28 rfl _ _ (Below.refl _ _) rfl⟩
            | 29, ho =>
              simp at ho; subst ho; refine step_sk hF hR.2 HQ10 (j := 23) (b := true) rfl rfl (by kernel_rfl) (hpre ⟨23, .guard⟩ (by simp) rfl) rfl (by simp) ?_
              exact ⟨fun _ _ => trivial, hR.go hst HQ10 29 rfl _ _ (Below.refl _ _) rfl⟩
            | 30, ho =>
              simp at ho; subst ho; refine step_sk hF hR.2 HQ10 (j := 23) (b := true) rfl rfl (by kernel_rfl) (hpre ⟨23, .guard⟩ (by simp) rfl) rfl (by simp) ?_
              exact ⟨fun _ _ => trivial, hR.go hst HQ10 30 rfl _ _ (Below.refl _ _) rfl⟩
            | 31, ho =>
              simp at ho; subst ho; refine step_sk hF hR.2 HQ10 (j := 23) (b := true) rfl rfl (by kernel_rfl) (hpre ⟨23, .guard⟩ (by simp) rfl) rfl (by simp) ?_
              exact ⟨fun _ _ => trivial, hR.go hst HQ10 31 rfl _ _ (Below.refl _ _) rfl⟩
            | 32, ho =>
              simp at ho; subst ho; refine step_sk hF hR.2 HQ10 (j := 23) (b := true) rfl rfl (by kernel_rfl) (hpre ⟨23, .guard⟩ (by simp) rfl) rfl (by simp) ?_
              exact ⟨fun _ _ => trivial, hR.go hst HQ10 32 rfl _ _ (Below.refl _ _) rfl⟩
            | 33, ho =>
              simp at ho; subst ho; refine step_sk hF hR.2 HQ10 (j := 23) (b := true) rfl rfl (by kernel_rfl) (hpre ⟨23, .guard⟩ (by simp) rfl) rfl (by simp) ?_
              exact ⟨fun _ _ => trivial, hR.go hst HQ10 33 rfl _ _ (Below.refl _ _) rfl⟩
            | 34, ho =>
              simp at ho; subst ho; refine step_plain rfl ?_; have e127 := hF.gv hR.2 HQ10 23 rfl (hpre ⟨23, .data⟩ (by simp) rfl) rfl; have e137 := hF.gv hR.2 HQ10 33 rfl (hpre ⟨33, .data⟩ (by simp) rfl) rfl; have hgoal := hR.go hst HQ10 34 rfl; clear hF hpre hl hR; go_simp; exact ⟨_, rfl, hgoal _ _ (Below.refl _ _) rfl⟩
            | 35, ho =>
              simp at ho; subst ho; refine step_plain rfl ?_; have e138 := hF.gv hR.2 HQ10 34 rfl (hpre ⟨34, .data⟩ (by simp) rfl) rfl; have hgoal := hR.go hst HQ10 35 rfl; clear hF hpre hl hR; go_simp; exact ⟨_, rfl, hgoal _ _ (Below.refl _ _) rfl⟩
            | i + 36, ho => simp at ho
          case hend10 =>
            intro val L b' x hF hall hR
            have e := hF.all (by kernel_rfl) hall
            have k1035 := QG.val HQ10 rfl (hR.2 35 (hall 35 (by decide)))
            have hB10 := Lib.hid hR.1
            clear hF hall hR hst HQ10 U102
            subst e
            simp [final, dstOf, List.range, List.range.loop]
            rw [k1035]
            go_wp2
            go_ret
            exact ⟨rfl, HB1.out.trans (hB10.out.mono HB1.out.size)⟩
    · rw [show posB (fun l u => carB X Y V l l y1 y2 u) cable charge ⟨len, wt, since, cyc, cut, true⟩ 4 n = false by unfold posB; simp [g5, show ¬ (1 ≤ n ∧ n ≤ 100000) from g1]]
      have G1 := Lib.hid (show wB 1 100000 [n] = false by rw [wB_one]; simpa using g1)
      have hW1 : WN (w.alloc (.cells #[.int .i64 4, .int .i64 n] 82)) g cable AX nx cx AY ny cy AV nv cv charge ⟨len, wt, since, cyc, cut, true⟩ y1 y2 := h.stay ((Below.refl _ _).alloc (Nat.le_refl _) _)
      have hB1 : Below w.heap.size w (w.alloc (.cells #[.int .i64 4, .int .i64 n] 82)) := (Below.refl _ _).alloc (Nat.le_refl _) _
      have l0 : (w.alloc (.cells #[.int .i64 4, .int .i64 n] 82)).cell? ⟨w.heap.size, 0, none⟩ = some (.int .i64 4) := by rw [cell_newest]; rfl
      have l1 : (w.alloc (.cells #[.int .i64 4, .int .i64 n] 82)).cell? ⟨w.heap.size, 1, none⟩ = some (.int .i64 n) := by rw [cell_newest]; rfl
      have c0 := cellOf (o := 0) hW1 rfl
      have c4 := cellOf (o := 4) hW1 rfl
      have c5 := cellOf (o := 5) hW1 rfl
      have c6 := cellOf (o := 6) hW1 rfl
      have c7 := cellOf (o := 7) hW1 rfl
      have c12 := cellOf (o := 12) hW1 rfl
      have hg := hW1.lt
      have HB1 := Lib.hid hB1
      clear hW1 hB1 h ht
      go_enter Try.func110, Try.ntmps110
      go_upto_region 9 with (fail)
      generalize w.alloc _ = w1 at *
      obtain ⟨QA11, hQA11⟩ : ∃ q9 : Nat → Value → World → Prop, q9 = QG [some (.pointer (some ⟨g, 0, none⟩)), some (.pointer (some ⟨g, 0, none⟩)), some (.pointer (some ⟨g, 12, none⟩)), some (.bool true), some (.bool true), some (.pointer (some ⟨g, 0, none⟩)), some (.pointer (some ⟨g, 0, none⟩)), some (.pointer (some ⟨g, 5, none⟩)), some (.pointer (some ⟨g, 7, none⟩)), some (.int .i64 since), some (.pointer (some ⟨g, 0, none⟩)), some (.pointer (some ⟨g, 0, none⟩)), some (.pointer (some ⟨g, 0, none⟩)), some (.pointer (some ⟨g, 4, none⟩)), some (.int .i64 charge), some (.bool true), some (.bool true), some (.bool true)] (fun _ _ _ => True) := ⟨_, rfl⟩
      have hst : Stays QA11 := by rw [hQA11]; exact QG.stays (fun _ _ _ _ _ _ => trivial)
      have HQA11 := Lib.hid hQA11
      clear hQA11
      refine wpIn_wide.1 (region_inv2 (n := 9) (by kernel_rfl) (RQ QA11 w1) (by kernel_rfl) rfl (RQ.start _ _ _) ?hstepA11 ?hendA11)
      case hstepA11 =>
        intro i' o ho val L b' x9 hF hR hpre hl
        match i', ho with
        | 0, ho =>
          simp at ho; subst ho; refine step_plain rfl ?_; have e0 := hF.was 0 (by kernel_rfl) rfl; have hgoal := hR.go hst HQA11 0 rfl; clear hF hpre hl hR; go_simp; exact ⟨_, rfl, hgoal _ _ (Below.refl _ _) rfl⟩
        | 1, ho =>
          simp at ho; subst ho; refine step_plain rfl ?_; have e87 := hF.gv hR.2 HQA11 0 rfl (hpre ⟨0, .data⟩ (by simp) rfl) rfl; have hgoal := hR.go hst HQA11 1 rfl; clear hF hpre hl hR; go_simp; exact ⟨_, rfl, hgoal _ _ (Below.refl _ _) rfl⟩
        | 2, ho =>
          simp at ho; subst ho; refine step_plain rfl ?_; have e88 := hF.gv hR.2 HQA11 1 rfl (hpre ⟨1, .data⟩ (by simp) rfl) rfl; have hgoal := hR.go hst HQA11 2 rfl; clear hF hpre hl hR; go_simp; exact ⟨_, rfl, hgoal _ _ (Below.refl _ _) rfl⟩
        | 3, ho =>
          simp at ho; subst ho; refine step_plain rfl ?_; have e89 := hF.gv hR.2 HQA11 2 rfl (hpre ⟨2, .data⟩ (by simp) rfl) rfl; have hgoal := hR.go hst HQA11 3 rfl; have q0 := cell_keep hR.1 c12; clear hF hpre hl hR; go_simp; exact ⟨_, rfl, hgoal _ _ (Below.refl _ _) rfl⟩
        | 4, ho =>
          simp at ho; subst ho; refine step_plain rfl ?_; have e90 := hF.gv hR.2 HQA11 3 rfl (hpre ⟨3, .data⟩ (by simp) rfl) rfl; have hgoal := hR.go hst HQA11 4 rfl; clear hF hpre hl hR; go_simp; exact ⟨_, rfl, hgoal _ _ (Below.refl _ _) rfl⟩
        | 5, ho =>
          simp at ho; subst ho; refine step_gd hF hR.2 HQA11 (j := 4) (b := true) rfl rfl (by kernel_rfl) (hpre ⟨4, .guard⟩ (by simp) rfl) rfl ?_; have e0 := hF.was 0 (by kernel_rfl) rfl; have hgoal := hR.go hst HQA11 5 rfl; clear hF hpre hl hR; go_simp; exact ⟨_, rfl, hgoal _ _ (Below.refl _ _) rfl⟩
        | 6, ho =>
          simp at ho; subst ho; refine step_gd hF hR.2 HQA11 (j := 4) (b := true) rfl rfl (by kernel_rfl) (hpre ⟨4, .guard⟩ (by simp) rfl) rfl ?_; have e92 := hF.gv hR.2 HQA11 5 rfl (hpre ⟨5, .data⟩ (by simp) rfl) rfl; have hgoal := hR.go hst HQA11 6 rfl; clear hF hpre hl hR; go_simp; exact ⟨_, rfl, hgoal _ _ (Below.refl _ _) rfl⟩
        | 7, ho =>
          simp at ho; subst ho; refine step_gd hF hR.2 HQA11 (j := 4) (b := true) rfl rfl (by kernel_rfl) (hpre ⟨4, .guard⟩ (by simp) rfl) rfl ?_; have e93 := hF.gv hR.2 HQA11 6 rfl (hpre ⟨6, .data⟩ (by simp) rfl) rfl; have hgoal := hR.go hst HQA11 7 rfl; clear hF hpre hl hR; go_simp; exact ⟨_, rfl, hgoal _ _ (Below.refl _ _) rfl⟩
        | 8, ho =>
          simp at ho; subst ho; refine step_gd hF hR.2 HQA11 (j := 4) (b := true) rfl rfl (by kernel_rfl) (hpre ⟨4, .guard⟩ (by simp) rfl) rfl ?_; have e94 := hF.gv hR.2 HQA11 7 rfl (hpre ⟨7, .data⟩ (by simp) rfl) rfl; have hgoal := hR.go hst HQA11 8 rfl; clear hF hpre hl hR; go_simp; exact ⟨_, rfl, hgoal _ _ (Below.refl _ _) rfl⟩
        | 9, ho =>
          simp at ho; subst ho; refine step_gd hF hR.2 HQA11 (j := 4) (b := true) rfl rfl (by kernel_rfl) (hpre ⟨4, .guard⟩ (by simp) rfl) rfl ?_; have e95 := hF.gv hR.2 HQA11 8 rfl (hpre ⟨8, .data⟩ (by simp) rfl) rfl; have hgoal := hR.go hst HQA11 9 rfl; have q0 := cell_keep hR.1 c7; clear hF hpre hl hR; go_simp; exact ⟨_, rfl, hgoal _ _ (Below.refl _ _) rfl⟩
        | 10, ho =>
          simp at ho; subst ho; refine step_gd hF hR.2 HQA11 (j := 4) (b := true) rfl rfl (by kernel_rfl) (hpre ⟨4, .guard⟩ (by simp) rfl) rfl ?_; have e0 := hF.was 0 (by kernel_rfl) rfl; have hgoal := hR.go hst HQA11 10 rfl; clear hF hpre hl hR; go_simp; exact ⟨_, rfl, hgoal _ _ (Below.refl _ _) rfl⟩
        | 11, ho =>
          simp at ho; subst ho; refine step_gd hF hR.2 HQA11 (j := 4) (b := true) rfl rfl (by kernel_rfl) (hpre ⟨4, .guard⟩ (by simp) rfl) rfl ?_; have e97 := hF.gv hR.2 HQA11 10 rfl (hpre ⟨10, .data⟩ (by simp) rfl) rfl; have hgoal := hR.go hst HQA11 11 rfl; clear hF hpre hl hR; go_simp; exact ⟨_, rfl, hgoal _ _ (Below.refl _ _) rfl⟩
        | 12, ho =>
          simp at ho; subst ho; refine step_gd hF hR.2 HQA11 (j := 4) (b := true) rfl rfl (by kernel_rfl) (hpre ⟨4, .guard⟩ (by simp) rfl) rfl ?_; have e98 := hF.gv hR.2 HQA11 11 rfl (hpre ⟨11, .data⟩ (by simp) rfl) rfl; have hgoal := hR.go hst HQA11 12 rfl; clear hF hpre hl hR; go_simp; exact ⟨_, rfl, hgoal _ _ (Below.refl _ _) rfl⟩
        | 13, ho =>
          simp at ho; subst ho; refine step_gd hF hR.2 HQA11 (j := 4) (b := true) rfl rfl (by kernel_rfl) (hpre ⟨4, .guard⟩ (by simp) rfl) rfl ?_; have e99 := hF.gv hR.2 HQA11 12 rfl (hpre ⟨12, .data⟩ (by simp) rfl) rfl; have hgoal := hR.go hst HQA11 13 rfl; clear hF hpre hl hR; go_simp; exact ⟨_, rfl, hgoal _ _ (Below.refl _ _) rfl⟩
        | 14, ho =>
          simp at ho; subst ho; refine step_gd hF hR.2 HQA11 (j := 4) (b := true) rfl rfl (by kernel_rfl) (hpre ⟨4, .guard⟩ (by simp) rfl) rfl ?_; have e100 := hF.gv hR.2 HQA11 13 rfl (hpre ⟨13, .data⟩ (by simp) rfl) rfl; have hgoal := hR.go hst HQA11 14 rfl; have q0 := cell_keep hR.1 c4; clear hF hpre hl hR; go_simp; exact ⟨_, rfl, hgoal _ _ (Below.refl _ _) rfl⟩
        | 15, ho =>
          simp at ho; subst ho; refine step_gd hF hR.2 HQA11 (j := 4) (b := true) rfl rfl (by kernel_rfl) (hpre ⟨4, .guard⟩ (by simp) rfl) rfl ?_; have e96 := hF.gv hR.2 HQA11 9 rfl (hpre ⟨9, .data⟩ (by simp) rfl) rfl; have e101 := hF.gv hR.2 HQA11 14 rfl (hpre ⟨14, .data⟩ (by simp) rfl) rfl; have hgoal := hR.go hst HQA11 15 rfl; clear hF hpre hl hR; go_simp; exact ⟨_, rfl, hgoal _ _ (Below.refl _ _) rfl⟩
        | 16, ho =>
          simp at ho; subst ho; refine step_plain rfl ?_; have e91 := hF.gv hR.2 HQA11 4 rfl (hpre ⟨4, .data⟩ (by simp) rfl) rfl; have e102 := hF.gv hR.2 HQA11 15 rfl (hpre ⟨15, .data⟩ (by simp) rfl) rfl; have hgoal := hR.go hst HQA11 16 rfl; clear hF hpre hl hR; go_simp; exact ⟨_, rfl, hgoal _ _ (Below.refl _ _) rfl⟩
        | 17, ho =>
          simp at ho; subst ho; refine step_plain rfl ?_; have e103 := hF.gv hR.2 HQA11 16 rfl (hpre ⟨16, .data⟩ (by simp) rfl) rfl; have hgoal := hR.go hst HQA11 17 rfl; clear hF hpre hl hR; go_simp; exact ⟨_, rfl, hgoal _ _ (Below.refl _ _) rfl⟩
        | i + 18, ho => simp at ho
      case hendA11 =>
        intro val L b' x9 hF hall hR
        have e := hF.all (by kernel_rfl) hall
        have kA1117 := QG.val HQA11 rfl (hR.2 17 (hall 17 (by decide)))
        have hBA11 := Lib.hid hR.1
        clear hF hall hR hst HQA11 
        subst e
        simp [final, dstOf, List.range, List.range.loop]
        rw [kA1117]
        have l1 := cell_keep hBA11.out l1
        have c0 := cell_keep hBA11.out c0
        have c5 := cell_keep hBA11.out c5
        have c6 := cell_keep hBA11.out c6
        have hg : g < x9.heap.size := Nat.lt_of_lt_of_le hg hBA11.out.size
        have HB1 := Lib.hid (HB1.out.trans (hBA11.out.mono HB1.out.size))
        go_upto_region 10 with (fail)
        obtain ⟨Q12, hQ12⟩ : ∃ q9 : Nat → Value → World → Prop, q9 = QG [some (.pointer (some ⟨w.heap.size, 1, none⟩)), some (.int .i64 n), none, some (.bool false), some (.bool false), some (undef), some (undef), some (undef), some (undef), some (undef), some (undef), some (.bool false), some (.bool false), some (undef), some (undef), some (undef), some (undef), some (undef), some (undef), some (.bool false), some (.bool false), some (undef), some (.bool false), some (.bool false), some (undef), some (undef), some (undef), some (undef), some (undef), some (undef), some (undef), some (undef), some (undef), some (undef), some (.bool false), some (.bool false)] (fun j0' v0' w0' => (j0' = 2 → QI [n] v0' w0')) := ⟨_, rfl⟩
        have hst : Stays Q12 := by rw [hQ12]; exact QG.stays (fun j v W W' h hb => fun e => (h e).stay hb)
        have U122 := Lib.hid (show ∀ v0' w0', Q12 2 v0' w0' ↔ QI [n] v0' w0' from fun v0' w0' => by rw [hQ12]; exact ⟨fun h => h rfl, fun h => fun _ => h⟩)
        have HQ12 := Lib.hid hQ12
        clear hQ12
        refine wpIn_wide.1 (region_inv2 (n := 9) (by kernel_rfl) (RQ Q12 x9) (by kernel_rfl) rfl (RQ.start _ _ _) ?hstep12 ?hend12)
        case hstep12 =>
          intro i' o ho val L b' x hF hR hpre hl
          match i', ho with
          | 0, ho =>
            simp at ho; subst ho; refine step_plain rfl ?_; have e3 := hF.was 3 (by kernel_rfl) rfl; have hgoal := hR.go hst HQ12 0 rfl; clear hF hpre hl hR; go_simp; exact ⟨_, rfl, hgoal _ _ (Below.refl _ _) rfl⟩
          | 1, ho =>
            simp at ho; subst ho; refine step_plain rfl ?_; have e104 := hF.gv hR.2 HQ12 0 rfl (hpre ⟨0, .data⟩ (by simp) rfl) rfl; have hgoal := hR.go hst HQ12 1 rfl; have q0 := cell_keep hR.1 l1; clear hF hpre hl hR; go_simp; exact ⟨_, rfl, hgoal _ _ (Below.refl _ _) rfl⟩
          | 2, ho =>
            simp at ho; subst ho; refine step_plain rfl ?_; have e105 := hF.gv hR.2 HQ12 1 rfl (hpre ⟨1, .data⟩ (by simp) rfl) rfl
            have hgoal : ∀ v0' w0', Below x.heap.size x w0' → QI [n] v0' w0' → RQ Q12 x9 (upd val 2 v0') (L.setIfInBounds 2 true) w0' := fun v0' w0' hb hq => hR.step hst hb ((U122.out _ _).2 hq)
            have hM := Lib.hid hR.1
            clear hF hpre hl hR; go_simp; exact ⟨_, rfl, hgoal _ _ ((Below.refl _ _).alloc (Nat.le_refl _) _) ⟨_, _, rfl, Nat.le_refl _, (RI.new1 rfl).more (by simp)⟩⟩
          | 3, ho =>
            simp at ho; subst ho; refine step_plain rfl ?_; have e106 := hF.gave 2 rfl (hpre ⟨2, .data⟩ (by simp) rfl) rfl
            have v2 := (U122.out _ _).1 (hR.2 2 (hpre ⟨2, .data⟩ (by simp) rfl))
            have hgoal := hR.go hst HQ12 3 rfl
            have hM := Lib.hid hR.1
            clear hF hpre hl hR
            obtain ⟨A9, c9, h9, _, hr9⟩ := v2
            rw [h9] at e106
            go_simp
            refine ⟨trivial, ?_⟩
            refine CallsIn.mono (callsIn_wide.2 (within_any 1 (100000) _ 1 _ _ [n] _ rfl (le_maxLen (by omega)) hr9)) ?_
            rintro e w9 ⟨rfl, rfl⟩
            exact ⟨_, rfl, hgoal _ _ (Below.refl _ _) (by rw [G1.out])⟩
          | 4, ho =>
            simp at ho; subst ho; refine step_plain rfl ?_; have e107 := hF.gv hR.2 HQ12 3 rfl (hpre ⟨3, .data⟩ (by simp) rfl) rfl; have hgoal := hR.go hst HQ12 4 rfl; clear hF hpre hl hR; go_simp; exact ⟨_, rfl, hgoal _ _ (Below.refl _ _) rfl⟩
          | 5, ho =>
            simp at ho; subst ho; refine step_sk hF hR.2 HQ12 (j := 4) (b := true) rfl rfl (by kernel_rfl) (hpre ⟨4, .guard⟩ (by simp) rfl) rfl (by simp) ?_
            exact ⟨fun _ _ => trivial, hR.go hst HQ12 5 rfl _ _ (Below.refl _ _) rfl⟩
          | 6, ho =>
            simp at ho; subst ho; refine step_sk hF hR.2 HQ12 (j := 4) (b := true) rfl rfl (by kernel_rfl) (hpre ⟨4, .guard⟩ (by simp) rfl) rfl (by simp) ?_
            exact ⟨fun _ _ => trivial, hR.go hst HQ12 6 rfl _ _ (Below.refl _ _) rfl⟩
          | 7, ho =>
            simp at ho; subst ho; refine step_sk hF hR.2 HQ12 (j := 4) (b := true) rfl rfl (by kernel_rfl) (hpre ⟨4, .guard⟩ (by simp) rfl) rfl (by simp) ?_
            exact ⟨fun _ _ => trivial, hR.go hst HQ12 7 rfl _ _ (Below.refl _ _) rfl⟩
          | 8, ho =>
            simp at ho; subst ho; refine step_sk hF hR.2 HQ12 (j := 4) (b := true) rfl rfl (by kernel_rfl) (hpre ⟨4, .guard⟩ (by simp) rfl) rfl (by simp) ?_
            exact ⟨fun _ _ => trivial, hR.go hst HQ12 8 rfl _ _ (Below.refl _ _) rfl⟩
          | 9, ho =>
            simp at ho; subst ho; refine step_sk hF hR.2 HQ12 (j := 4) (b := true) rfl rfl (by kernel_rfl) (hpre ⟨4, .guard⟩ (by simp) rfl) rfl (by simp) ?_
            exact ⟨fun _ _ => trivial, hR.go hst HQ12 9 rfl _ _ (Below.refl _ _) rfl⟩
          | 10, ho =>
            simp at ho; subst ho; refine step_sk hF hR.2 HQ12 (j := 4) (b := true) rfl rfl (by kernel_rfl) (hpre ⟨4, .guard⟩ (by simp) rfl) rfl (by simp) ?_
            exact ⟨fun _ _ => trivial, hR.go hst HQ12 10 rfl _ _ (Below.refl _ _) rfl⟩
          | 11, ho =>
            simp at ho; subst ho; refine step_plain rfl ?_; have e108 := hF.gv hR.2 HQ12 4 rfl (hpre ⟨4, .data⟩ (by simp) rfl) rfl; have e114 := hF.gv hR.2 HQ12 10 rfl (hpre ⟨10, .data⟩ (by simp) rfl) rfl; have hgoal := hR.go hst HQ12 11 rfl; clear hF hpre hl hR; go_simp; exact ⟨_, rfl, hgoal _ _ (Below.refl _ _) rfl⟩
          | 12, ho =>
            simp at ho; subst ho; refine step_plain rfl ?_; have e115 := hF.gv hR.2 HQ12 11 rfl (hpre ⟨11, .data⟩ (by simp) rfl) rfl; have hgoal := hR.go hst HQ12 12 rfl; clear hF hpre hl hR; go_simp; exact ⟨_, rfl, hgoal _ _ (Below.refl _ _) rfl⟩
          | 13, ho =>
            simp at ho; subst ho; refine step_sk hF hR.2 HQ12 (j := 12) (b := true) rfl rfl (by kernel_rfl) (hpre ⟨12, .guard⟩ (by simp) rfl) rfl (by simp) ?_
            exact ⟨fun _ _ => trivial, hR.go hst HQ12 13 rfl _ _ (Below.refl _ _) rfl⟩
          | 14, ho =>
            simp at ho; subst ho; refine step_sk hF hR.2 HQ12 (j := 12) (b := true) rfl rfl (by kernel_rfl) (hpre ⟨12, .guard⟩ (by simp) rfl) rfl (by simp) ?_
            exact ⟨fun _ _ => trivial, hR.go hst HQ12 14 rfl _ _ (Below.refl _ _) rfl⟩
          | 15, ho =>
            simp at ho; subst ho; refine step_sk hF hR.2 HQ12 (j := 12) (b := true) rfl rfl (by kernel_rfl) (hpre ⟨12, .guard⟩ (by simp) rfl) rfl (by simp) ?_
            exact ⟨fun _ _ => trivial, hR.go hst HQ12 15 rfl _ _ (Below.refl _ _) rfl⟩
          | 16, ho =>
            simp at ho; subst ho; refine step_sk hF hR.2 HQ12 (j := 12) (b := true) rfl rfl (by kernel_rfl) (hpre ⟨12, .guard⟩ (by simp) rfl) rfl (by simp) ?_
            exact ⟨fun _ _ => trivial, hR.go hst HQ12 16 rfl _ _ (Below.refl _ _) rfl⟩
          | 17, ho =>
            simp at ho; subst ho; refine step_sk hF hR.2 HQ12 (j := 12) (b := true) rfl rfl (by kernel_rfl) (hpre ⟨12, .guard⟩ (by simp) rfl) rfl (by simp) ?_
            exact ⟨fun _ _ => trivial, hR.go hst HQ12 17 rfl _ _ (Below.refl _ _) rfl⟩
          | 18, ho =>
            simp at ho; subst ho; refine step_sk hF hR.2 HQ12 (j := 12) (b := true) rfl rfl (by kernel_rfl) (hpre ⟨12, .guard⟩ (by simp) rfl) rfl (by simp) ?_
            exact ⟨fun _ _ => trivial, hR.go hst HQ12 18 rfl _ _ (Below.refl _ _) rfl⟩
          | 19, ho =>
            simp at ho; subst ho; refine step_plain rfl ?_; have e116 := hF.gv hR.2 HQ12 12 rfl (hpre ⟨12, .data⟩ (by simp) rfl) rfl; have e122 := hF.gv hR.2 HQ12 18 rfl (hpre ⟨18, .data⟩ (by simp) rfl) rfl; have hgoal := hR.go hst HQ12 19 rfl; clear hF hpre hl hR; go_simp; exact ⟨_, rfl, hgoal _ _ (Below.refl _ _) rfl⟩
          | 20, ho =>
            simp at ho; subst ho; refine step_plain rfl ?_; have e123 := hF.gv hR.2 HQ12 19 rfl (hpre ⟨19, .data⟩ (by simp) rfl) rfl; have hgoal := hR.go hst HQ12 20 rfl; clear hF hpre hl hR; go_simp; exact ⟨_, rfl, hgoal _ _ (Below.refl _ _) rfl⟩
          | 21, ho =>
            simp at ho; subst ho; refine step_sk hF hR.2 HQ12 (j := 20) (b := true) rfl rfl (by kernel_rfl) (hpre ⟨20, .guard⟩ (by simp) rfl) rfl (by simp) ?_
            exact ⟨fun _ _ => trivial, hR.go hst HQ12 21 rfl _ _ (Below.refl _ _) rfl⟩
          | 22, ho =>
            simp at ho; subst ho; refine step_plain rfl ?_; have e124 := hF.gv hR.2 HQ12 20 rfl (hpre ⟨20, .data⟩ (by simp) rfl) rfl; have e125 := hF.gv hR.2 HQ12 21 rfl (hpre ⟨21, .data⟩ (by simp) rfl) rfl; have hgoal := hR.go hst HQ12 22 rfl; clear hF hpre hl hR; go_simp; exact ⟨_, rfl, hgoal _ _ (Below.refl _ _) rfl⟩
          | 23, ho =>
            simp at ho; subst ho; refine step_plain rfl ?_; have e126 := hF.gv hR.2 HQ12 22 rfl (hpre ⟨22, .data⟩ (by simp) rfl) rfl; have hgoal := hR.go hst HQ12 23 rfl; clear hF hpre hl hR; go_simp; exact ⟨_, rfl, hgoal _ _ (Below.refl _ _) rfl⟩
          | 24, ho =>
            simp at ho; subst ho; refine step_sk hF hR.2 HQ12 (j := 23) (b := true) rfl rfl (by kernel_rfl) (hpre ⟨23, .guard⟩ (by simp) rfl) rfl (by simp) ?_
            exact ⟨fun _ _ => trivial, hR.go hst HQ12 24 rfl _ _ (Below.refl _ _) rfl⟩
          | 25, ho =>
            simp at ho; subst ho; refine step_sk hF hR.2 HQ12 (j := 23) (b := true) rfl rfl (by kernel_rfl) (hpre ⟨23, .guard⟩ (by simp) rfl) rfl (by simp) ?_
            exact ⟨fun _ _ => trivial, hR.go hst HQ12 25 rfl _ _ (Below.refl _ _) rfl⟩
          | 26, ho =>
            simp at ho; subst ho; refine step_sk hF hR.2 HQ12 (j := 23) (b := true) rfl rfl (by kernel_rfl) (hpre ⟨23, .guard⟩ (by simp) rfl) rfl (by simp) ?_
            exact ⟨fun _ _ => trivial, hR.go hst HQ12 26 rfl _ _ (Below.refl _ _) rfl⟩
          | 27, ho =>
            simp at ho; subst ho; refine step_sk hF hR.2 HQ12 (j := 23) (b := true) rfl rfl (by kernel_rfl) (hpre ⟨23, .guard⟩ (by simp) rfl) rfl (by simp) ?_
            exact ⟨fun _ _ => trivial, hR.go hst HQ12 27 rfl _ _ (Below.refl _ _) rfl⟩
          | 28, ho =>
            simp at ho; subst ho; refine step_sk hF hR.2 HQ12 (j := 23) (b := true) rfl rfl (by kernel_rfl) (hpre ⟨23, .guard⟩ (by simp) rfl) rfl (by simp) ?_
            exact ⟨fun _ _ => trivial, hR.go hst HQ12 28 rfl _ _ (Below.refl _ _) rfl⟩
          | 29, ho =>
            simp at ho; subst ho; refine step_sk hF hR.2 HQ12 (j := 23) (b := true) rfl rfl (by kernel_rfl) (hpre ⟨23, .guard⟩ (by simp) rfl) rfl (by simp) ?_
            exact ⟨fun _ _ => trivial, hR.go hst HQ12 29 rfl _ _ (Below.refl _ _) rfl⟩
          | 30, ho =>
            simp at ho; subst ho; refine step_sk hF hR.2 HQ12 (j := 23) (b := true) rfl rfl (by kernel_rfl) (hpre ⟨23, .guard⟩ (by simp) rfl) rfl (by simp) ?_
            exact ⟨fun _ _ => trivial, hR.go hst HQ12 30 rfl _ _ (Below.refl _ _) rfl⟩
          | 31, ho =>
            simp at ho; subst ho; refine step_sk hF hR.2 HQ12 (j := 23) (b := true) rfl rfl (by kernel_rfl) (hpre ⟨23, .guard⟩ (by simp) rfl) rfl (by simp) ?_
            exact ⟨fun _ _ => trivial, hR.go hst HQ12 31 rfl _ _ (Below.refl _ _) rfl⟩
          | 32, ho =>
            simp at ho; subst ho; refine step_sk hF hR.2 HQ12 (j := 23) (b := true) rfl rfl (by kernel_rfl) (hpre ⟨23, .guard⟩ (by simp) rfl) rfl (by simp) ?_
            exact ⟨fun _ _ => trivial, hR.go hst HQ12 32 rfl _ _ (Below.refl _ _) rfl⟩
          | 33, ho =>
            simp at ho; subst ho; refine step_sk hF hR.2 HQ12 (j := 23) (b := true) rfl rfl (by kernel_rfl) (hpre ⟨23, .guard⟩ (by simp) rfl) rfl (by simp) ?_
            exact ⟨fun _ _ => trivial, hR.go hst HQ12 33 rfl _ _ (Below.refl _ _) rfl⟩
          | 34, ho =>
            simp at ho; subst ho; refine step_plain rfl ?_; have e127 := hF.gv hR.2 HQ12 23 rfl (hpre ⟨23, .data⟩ (by simp) rfl) rfl; have e137 := hF.gv hR.2 HQ12 33 rfl (hpre ⟨33, .data⟩ (by simp) rfl) rfl; have hgoal := hR.go hst HQ12 34 rfl; clear hF hpre hl hR; go_simp; exact ⟨_, rfl, hgoal _ _ (Below.refl _ _) rfl⟩
          | 35, ho =>
            simp at ho; subst ho; refine step_plain rfl ?_; have e138 := hF.gv hR.2 HQ12 34 rfl (hpre ⟨34, .data⟩ (by simp) rfl) rfl; have hgoal := hR.go hst HQ12 35 rfl; clear hF hpre hl hR; go_simp; exact ⟨_, rfl, hgoal _ _ (Below.refl _ _) rfl⟩
          | i + 36, ho => simp at ho
        case hend12 =>
          intro val L b' x hF hall hR
          have e := hF.all (by kernel_rfl) hall
          have k1235 := QG.val HQ12 rfl (hR.2 35 (hall 35 (by decide)))
          have hB12 := Lib.hid hR.1
          clear hF hall hR hst HQ12 U122
          subst e
          simp [final, dstOf, List.range, List.range.loop]
          rw [k1235]
          go_wp2
          go_ret
          exact ⟨rfl, HB1.out.trans (hB12.out.mono HB1.out.size)⟩
  · have g6 : decide (since < charge) = false := by simpa using g5
    by_cases g1 : 1 ≤ n ∧ n ≤ 100000
    · by_cases g2 : wt = 0
      · subst g2
        by_cases g3 : 0 < len
        · rw [show posB (fun l u => carB X Y V l l y1 y2 u) cable charge ⟨len, 0, since, cyc, cut, true⟩ 4 n = false by unfold posB; simp [g5, g1, g3]]
          have G1 := Lib.hid (show wB 1 100000 [n] = true by rw [wB_one]; simpa using g1)
          have hW1 : WN (w.alloc (.cells #[.int .i64 4, .int .i64 n] 82)) g cable AX nx cx AY ny cy AV nv cv charge ⟨len, 0, since, cyc, cut, true⟩ y1 y2 := h.stay ((Below.refl _ _).alloc (Nat.le_refl _) _)
          have hB1 : Below w.heap.size w (w.alloc (.cells #[.int .i64 4, .int .i64 n] 82)) := (Below.refl _ _).alloc (Nat.le_refl _) _
          have l0 : (w.alloc (.cells #[.int .i64 4, .int .i64 n] 82)).cell? ⟨w.heap.size, 0, none⟩ = some (.int .i64 4) := by rw [cell_newest]; rfl
          have l1 : (w.alloc (.cells #[.int .i64 4, .int .i64 n] 82)).cell? ⟨w.heap.size, 1, none⟩ = some (.int .i64 n) := by rw [cell_newest]; rfl
          have c0 := cellOf (o := 0) hW1 rfl
          have c4 := cellOf (o := 4) hW1 rfl
          have c5 := cellOf (o := 5) hW1 rfl
          have c6 := cellOf (o := 6) hW1 rfl
          have c7 := cellOf (o := 7) hW1 rfl
          have c12 := cellOf (o := 12) hW1 rfl
          have hg := hW1.lt
          have HB1 := Lib.hid hB1
          clear hW1 hB1 h ht
          go_enter Try.func110, Try.ntmps110
          go_upto_region 9 with (fail)
          generalize w.alloc _ = w1 at *
          obtain ⟨QA13, hQA13⟩ : ∃ q9 : Nat → Value → World → Prop, q9 = QG [some (.pointer (some ⟨g, 0, none⟩)), some (.pointer (some ⟨g, 0, none⟩)), some (.pointer (some ⟨g, 12, none⟩)), some (.bool true), some (.bool true), some (.pointer (some ⟨g, 0, none⟩)), some (.pointer (some ⟨g, 0, none⟩)), some (.pointer (some ⟨g, 5, none⟩)), some (.pointer (some ⟨g, 7, none⟩)), some (.int .i64 since), some (.pointer (some ⟨g, 0, none⟩)), some (.pointer (some ⟨g, 0, none⟩)), some (.pointer (some ⟨g, 0, none⟩)), some (.pointer (some ⟨g, 4, none⟩)), some (.int .i64 charge), some (.bool false), some (.bool false), some (.bool false)] (fun _ _ _ => True) := ⟨_, rfl⟩
          have hst : Stays QA13 := by rw [hQA13]; exact QG.stays (fun _ _ _ _ _ _ => trivial)
          have HQA13 := Lib.hid hQA13
          clear hQA13
          refine wpIn_wide.1 (region_inv2 (n := 9) (by kernel_rfl) (RQ QA13 w1) (by kernel_rfl) rfl (RQ.start _ _ _) ?hstepA13 ?hendA13)
          case hstepA13 =>
            intro i' o ho val L b' x9 hF hR hpre hl
            match i', ho with
            | 0, ho =>
              simp at ho; subst ho; refine step_plain rfl ?_; have e0 := hF.was 0 (by kernel_rfl) rfl; have hgoal := hR.go hst HQA13 0 rfl; clear hF hpre hl hR; go_simp; exact ⟨_, rfl, hgoal _ _ (Below.refl _ _) rfl⟩
            | 1, ho =>
              simp at ho; subst ho; refine step_plain rfl ?_; have e87 := hF.gv hR.2 HQA13 0 rfl (hpre ⟨0, .data⟩ (by simp) rfl) rfl; have hgoal := hR.go hst HQA13 1 rfl; clear hF hpre hl hR; go_simp; exact ⟨_, rfl, hgoal _ _ (Below.refl _ _) rfl⟩
            | 2, ho =>
              simp at ho; subst ho; refine step_plain rfl ?_; have e88 := hF.gv hR.2 HQA13 1 rfl (hpre ⟨1, .data⟩ (by simp) rfl) rfl; have hgoal := hR.go hst HQA13 2 rfl; clear hF hpre hl hR; go_simp; exact ⟨_, rfl, hgoal _ _ (Below.refl _ _) rfl⟩
            | 3, ho =>
              simp at ho; subst ho; refine step_plain rfl ?_; have e89 := hF.gv hR.2 HQA13 2 rfl (hpre ⟨2, .data⟩ (by simp) rfl) rfl; have hgoal := hR.go hst HQA13 3 rfl; have q0 := cell_keep hR.1 c12; clear hF hpre hl hR; go_simp; exact ⟨_, rfl, hgoal _ _ (Below.refl _ _) rfl⟩
            | 4, ho =>
              simp at ho; subst ho; refine step_plain rfl ?_; have e90 := hF.gv hR.2 HQA13 3 rfl (hpre ⟨3, .data⟩ (by simp) rfl) rfl; have hgoal := hR.go hst HQA13 4 rfl; clear hF hpre hl hR; go_simp; exact ⟨_, rfl, hgoal _ _ (Below.refl _ _) rfl⟩
            | 5, ho =>
              simp at ho; subst ho; refine step_gd hF hR.2 HQA13 (j := 4) (b := true) rfl rfl (by kernel_rfl) (hpre ⟨4, .guard⟩ (by simp) rfl) rfl ?_; have e0 := hF.was 0 (by kernel_rfl) rfl; have hgoal := hR.go hst HQA13 5 rfl; clear hF hpre hl hR; go_simp; exact ⟨_, rfl, hgoal _ _ (Below.refl _ _) rfl⟩
            | 6, ho =>
              simp at ho; subst ho; refine step_gd hF hR.2 HQA13 (j := 4) (b := true) rfl rfl (by kernel_rfl) (hpre ⟨4, .guard⟩ (by simp) rfl) rfl ?_; have e92 := hF.gv hR.2 HQA13 5 rfl (hpre ⟨5, .data⟩ (by simp) rfl) rfl; have hgoal := hR.go hst HQA13 6 rfl; clear hF hpre hl hR; go_simp; exact ⟨_, rfl, hgoal _ _ (Below.refl _ _) rfl⟩
            | 7, ho =>
              simp at ho; subst ho; refine step_gd hF hR.2 HQA13 (j := 4) (b := true) rfl rfl (by kernel_rfl) (hpre ⟨4, .guard⟩ (by simp) rfl) rfl ?_; have e93 := hF.gv hR.2 HQA13 6 rfl (hpre ⟨6, .data⟩ (by simp) rfl) rfl; have hgoal := hR.go hst HQA13 7 rfl; clear hF hpre hl hR; go_simp; exact ⟨_, rfl, hgoal _ _ (Below.refl _ _) rfl⟩
            | 8, ho =>
              simp at ho; subst ho; refine step_gd hF hR.2 HQA13 (j := 4) (b := true) rfl rfl (by kernel_rfl) (hpre ⟨4, .guard⟩ (by simp) rfl) rfl ?_; have e94 := hF.gv hR.2 HQA13 7 rfl (hpre ⟨7, .data⟩ (by simp) rfl) rfl; have hgoal := hR.go hst HQA13 8 rfl; clear hF hpre hl hR; go_simp; exact ⟨_, rfl, hgoal _ _ (Below.refl _ _) rfl⟩
            | 9, ho =>
              simp at ho; subst ho; refine step_gd hF hR.2 HQA13 (j := 4) (b := true) rfl rfl (by kernel_rfl) (hpre ⟨4, .guard⟩ (by simp) rfl) rfl ?_; have e95 := hF.gv hR.2 HQA13 8 rfl (hpre ⟨8, .data⟩ (by simp) rfl) rfl; have hgoal := hR.go hst HQA13 9 rfl; have q0 := cell_keep hR.1 c7; clear hF hpre hl hR; go_simp; exact ⟨_, rfl, hgoal _ _ (Below.refl _ _) rfl⟩
            | 10, ho =>
              simp at ho; subst ho; refine step_gd hF hR.2 HQA13 (j := 4) (b := true) rfl rfl (by kernel_rfl) (hpre ⟨4, .guard⟩ (by simp) rfl) rfl ?_; have e0 := hF.was 0 (by kernel_rfl) rfl; have hgoal := hR.go hst HQA13 10 rfl; clear hF hpre hl hR; go_simp; exact ⟨_, rfl, hgoal _ _ (Below.refl _ _) rfl⟩
            | 11, ho =>
              simp at ho; subst ho; refine step_gd hF hR.2 HQA13 (j := 4) (b := true) rfl rfl (by kernel_rfl) (hpre ⟨4, .guard⟩ (by simp) rfl) rfl ?_; have e97 := hF.gv hR.2 HQA13 10 rfl (hpre ⟨10, .data⟩ (by simp) rfl) rfl; have hgoal := hR.go hst HQA13 11 rfl; clear hF hpre hl hR; go_simp; exact ⟨_, rfl, hgoal _ _ (Below.refl _ _) rfl⟩
            | 12, ho =>
              simp at ho; subst ho; refine step_gd hF hR.2 HQA13 (j := 4) (b := true) rfl rfl (by kernel_rfl) (hpre ⟨4, .guard⟩ (by simp) rfl) rfl ?_; have e98 := hF.gv hR.2 HQA13 11 rfl (hpre ⟨11, .data⟩ (by simp) rfl) rfl; have hgoal := hR.go hst HQA13 12 rfl; clear hF hpre hl hR; go_simp; exact ⟨_, rfl, hgoal _ _ (Below.refl _ _) rfl⟩
            | 13, ho =>
              simp at ho; subst ho; refine step_gd hF hR.2 HQA13 (j := 4) (b := true) rfl rfl (by kernel_rfl) (hpre ⟨4, .guard⟩ (by simp) rfl) rfl ?_; have e99 := hF.gv hR.2 HQA13 12 rfl (hpre ⟨12, .data⟩ (by simp) rfl) rfl; have hgoal := hR.go hst HQA13 13 rfl; clear hF hpre hl hR; go_simp; exact ⟨_, rfl, hgoal _ _ (Below.refl _ _) rfl⟩
            | 14, ho =>
              simp at ho; subst ho; refine step_gd hF hR.2 HQA13 (j := 4) (b := true) rfl rfl (by kernel_rfl) (hpre ⟨4, .guard⟩ (by simp) rfl) rfl ?_; have e100 := hF.gv hR.2 HQA13 13 rfl (hpre ⟨13, .data⟩ (by simp) rfl) rfl; have hgoal := hR.go hst HQA13 14 rfl; have q0 := cell_keep hR.1 c4; clear hF hpre hl hR; go_simp; exact ⟨_, rfl, hgoal _ _ (Below.refl _ _) rfl⟩
            | 15, ho =>
              simp at ho; subst ho; refine step_gd hF hR.2 HQA13 (j := 4) (b := true) rfl rfl (by kernel_rfl) (hpre ⟨4, .guard⟩ (by simp) rfl) rfl ?_; have e96 := hF.gv hR.2 HQA13 9 rfl (hpre ⟨9, .data⟩ (by simp) rfl) rfl; have e101 := hF.gv hR.2 HQA13 14 rfl (hpre ⟨14, .data⟩ (by simp) rfl) rfl; have hgoal := hR.go hst HQA13 15 rfl; clear hF hpre hl hR; go_simp; exact ⟨_, rfl, hgoal _ _ (Below.refl _ _) rfl⟩
            | 16, ho =>
              simp at ho; subst ho; refine step_plain rfl ?_; have e91 := hF.gv hR.2 HQA13 4 rfl (hpre ⟨4, .data⟩ (by simp) rfl) rfl; have e102 := hF.gv hR.2 HQA13 15 rfl (hpre ⟨15, .data⟩ (by simp) rfl) rfl; have hgoal := hR.go hst HQA13 16 rfl; clear hF hpre hl hR; go_simp; exact ⟨_, rfl, hgoal _ _ (Below.refl _ _) rfl⟩
            | 17, ho =>
              simp at ho; subst ho; refine step_plain rfl ?_; have e103 := hF.gv hR.2 HQA13 16 rfl (hpre ⟨16, .data⟩ (by simp) rfl) rfl; have hgoal := hR.go hst HQA13 17 rfl; clear hF hpre hl hR; go_simp; exact ⟨_, rfl, hgoal _ _ (Below.refl _ _) rfl⟩
            | i + 18, ho => simp at ho
          case hendA13 =>
            intro val L b' x9 hF hall hR
            have e := hF.all (by kernel_rfl) hall
            have kA1317 := QG.val HQA13 rfl (hR.2 17 (hall 17 (by decide)))
            have hBA13 := Lib.hid hR.1
            clear hF hall hR hst HQA13 
            subst e
            simp [final, dstOf, List.range, List.range.loop]
            rw [kA1317]
            have l1 := cell_keep hBA13.out l1
            have c0 := cell_keep hBA13.out c0
            have c5 := cell_keep hBA13.out c5
            have c6 := cell_keep hBA13.out c6
            have hg : g < x9.heap.size := Nat.lt_of_lt_of_le hg hBA13.out.size
            have HB1 := Lib.hid (HB1.out.trans (hBA13.out.mono HB1.out.size))
            go_upto_region 10 with (fail)
            obtain ⟨Q14, hQ14⟩ : ∃ q9 : Nat → Value → World → Prop, q9 = QG [some (.pointer (some ⟨w.heap.size, 1, none⟩)), some (.int .i64 n), none, some (.bool true), some (.bool true), some (.pointer (some ⟨g, 0, none⟩)), some (.pointer (some ⟨g, 0, none⟩)), some (.pointer (some ⟨g, 5, none⟩)), some (.pointer (some ⟨g, 6, none⟩)), some (.int .i64 0), some (.bool true), some (.bool true), some (.bool true), some (.pointer (some ⟨g, 0, none⟩)), some (.pointer (some ⟨g, 0, none⟩)), some (.pointer (some ⟨g, 5, none⟩)), some (.pointer (some ⟨g, 5, none⟩)), some (.int .i64 len), some (.bool true), some (.bool true), some (.bool true), some (.bool false), some (.bool false), some (.bool false), some (undef), some (undef), some (undef), some (undef), some (undef), some (undef), some (undef), some (undef), some (undef), some (undef), some (.bool false), some (.bool false)] (fun j0' v0' w0' => (j0' = 2 → QI [n] v0' w0')) := ⟨_, rfl⟩
            have hst : Stays Q14 := by rw [hQ14]; exact QG.stays (fun j v W W' h hb => fun e => (h e).stay hb)
            have U142 := Lib.hid (show ∀ v0' w0', Q14 2 v0' w0' ↔ QI [n] v0' w0' from fun v0' w0' => by rw [hQ14]; exact ⟨fun h => h rfl, fun h => fun _ => h⟩)
            have HQ14 := Lib.hid hQ14
            clear hQ14
            refine wpIn_wide.1 (region_inv2 (n := 9) (by kernel_rfl) (RQ Q14 x9) (by kernel_rfl) rfl (RQ.start _ _ _) ?hstep14 ?hend14)
            case hstep14 =>
              intro i' o ho val L b' x hF hR hpre hl
              match i', ho with
              | 0, ho =>
                simp at ho; subst ho; refine step_plain rfl ?_; have e3 := hF.was 3 (by kernel_rfl) rfl; have hgoal := hR.go hst HQ14 0 rfl; clear hF hpre hl hR; go_simp; exact ⟨_, rfl, hgoal _ _ (Below.refl _ _) rfl⟩
              | 1, ho =>
                simp at ho; subst ho; refine step_plain rfl ?_; have e104 := hF.gv hR.2 HQ14 0 rfl (hpre ⟨0, .data⟩ (by simp) rfl) rfl; have hgoal := hR.go hst HQ14 1 rfl; have q0 := cell_keep hR.1 l1; clear hF hpre hl hR; go_simp; exact ⟨_, rfl, hgoal _ _ (Below.refl _ _) rfl⟩
              | 2, ho =>
                simp at ho; subst ho; refine step_plain rfl ?_; have e105 := hF.gv hR.2 HQ14 1 rfl (hpre ⟨1, .data⟩ (by simp) rfl) rfl
                have hgoal : ∀ v0' w0', Below x.heap.size x w0' → QI [n] v0' w0' → RQ Q14 x9 (upd val 2 v0') (L.setIfInBounds 2 true) w0' := fun v0' w0' hb hq => hR.step hst hb ((U142.out _ _).2 hq)
                have hM := Lib.hid hR.1
                clear hF hpre hl hR; go_simp; exact ⟨_, rfl, hgoal _ _ ((Below.refl _ _).alloc (Nat.le_refl _) _) ⟨_, _, rfl, Nat.le_refl _, (RI.new1 rfl).more (by simp)⟩⟩
              | 3, ho =>
                simp at ho; subst ho; refine step_plain rfl ?_; have e106 := hF.gave 2 rfl (hpre ⟨2, .data⟩ (by simp) rfl) rfl
                have v2 := (U142.out _ _).1 (hR.2 2 (hpre ⟨2, .data⟩ (by simp) rfl))
                have hgoal := hR.go hst HQ14 3 rfl
                have hM := Lib.hid hR.1
                clear hF hpre hl hR
                obtain ⟨A9, c9, h9, _, hr9⟩ := v2
                rw [h9] at e106
                go_simp
                refine ⟨trivial, ?_⟩
                refine CallsIn.mono (callsIn_wide.2 (within_any 1 (100000) _ 1 _ _ [n] _ rfl (le_maxLen (by omega)) hr9)) ?_
                rintro e w9 ⟨rfl, rfl⟩
                exact ⟨_, rfl, hgoal _ _ (Below.refl _ _) (by rw [G1.out])⟩
              | 4, ho =>
                simp at ho; subst ho; refine step_plain rfl ?_; have e107 := hF.gv hR.2 HQ14 3 rfl (hpre ⟨3, .data⟩ (by simp) rfl) rfl; have hgoal := hR.go hst HQ14 4 rfl; clear hF hpre hl hR; go_simp; exact ⟨_, rfl, hgoal _ _ (Below.refl _ _) rfl⟩
              | 5, ho =>
                simp at ho; subst ho; refine step_gd hF hR.2 HQ14 (j := 4) (b := true) rfl rfl (by kernel_rfl) (hpre ⟨4, .guard⟩ (by simp) rfl) rfl ?_; have e0 := hF.was 0 (by kernel_rfl) rfl; have hgoal := hR.go hst HQ14 5 rfl; clear hF hpre hl hR; go_simp; exact ⟨_, rfl, hgoal _ _ (Below.refl _ _) rfl⟩
              | 6, ho =>
                simp at ho; subst ho; refine step_gd hF hR.2 HQ14 (j := 4) (b := true) rfl rfl (by kernel_rfl) (hpre ⟨4, .guard⟩ (by simp) rfl) rfl ?_; have e109 := hF.gv hR.2 HQ14 5 rfl (hpre ⟨5, .data⟩ (by simp) rfl) rfl; have hgoal := hR.go hst HQ14 6 rfl; clear hF hpre hl hR; go_simp; exact ⟨_, rfl, hgoal _ _ (Below.refl _ _) rfl⟩
              | 7, ho =>
                simp at ho; subst ho; refine step_gd hF hR.2 HQ14 (j := 4) (b := true) rfl rfl (by kernel_rfl) (hpre ⟨4, .guard⟩ (by simp) rfl) rfl ?_; have e110 := hF.gv hR.2 HQ14 6 rfl (hpre ⟨6, .data⟩ (by simp) rfl) rfl; have hgoal := hR.go hst HQ14 7 rfl; clear hF hpre hl hR; go_simp; exact ⟨_, rfl, hgoal _ _ (Below.refl _ _) rfl⟩
              | 8, ho =>
                simp at ho; subst ho; refine step_gd hF hR.2 HQ14 (j := 4) (b := true) rfl rfl (by kernel_rfl) (hpre ⟨4, .guard⟩ (by simp) rfl) rfl ?_; have e111 := hF.gv hR.2 HQ14 7 rfl (hpre ⟨7, .data⟩ (by simp) rfl) rfl; have hgoal := hR.go hst HQ14 8 rfl; clear hF hpre hl hR; go_simp; exact ⟨_, rfl, hgoal _ _ (Below.refl _ _) rfl⟩
              | 9, ho =>
                simp at ho; subst ho; refine step_gd hF hR.2 HQ14 (j := 4) (b := true) rfl rfl (by kernel_rfl) (hpre ⟨4, .guard⟩ (by simp) rfl) rfl ?_; have e112 := hF.gv hR.2 HQ14 8 rfl (hpre ⟨8, .data⟩ (by simp) rfl) rfl; have hgoal := hR.go hst HQ14 9 rfl; have q0 := cell_keep hR.1 c6; clear hF hpre hl hR; go_simp; exact ⟨_, rfl, hgoal _ _ (Below.refl _ _) rfl⟩
              | 10, ho =>
                simp at ho; subst ho; refine step_gd hF hR.2 HQ14 (j := 4) (b := true) rfl rfl (by kernel_rfl) (hpre ⟨4, .guard⟩ (by simp) rfl) rfl ?_; have e113 := hF.gv hR.2 HQ14 9 rfl (hpre ⟨9, .data⟩ (by simp) rfl) rfl; have hgoal := hR.go hst HQ14 10 rfl; clear hF hpre hl hR; go_simp; exact ⟨_, rfl, hgoal _ _ (Below.refl _ _) rfl⟩
              | 11, ho =>
                simp at ho; subst ho; refine step_plain rfl ?_; have e108 := hF.gv hR.2 HQ14 4 rfl (hpre ⟨4, .data⟩ (by simp) rfl) rfl; have e114 := hF.gv hR.2 HQ14 10 rfl (hpre ⟨10, .data⟩ (by simp) rfl) rfl; have hgoal := hR.go hst HQ14 11 rfl; clear hF hpre hl hR; go_simp; exact ⟨_, rfl, hgoal _ _ (Below.refl _ _) rfl⟩
              | 12, ho =>
                simp at ho; subst ho; refine step_plain rfl ?_; have e115 := hF.gv hR.2 HQ14 11 rfl (hpre ⟨11, .data⟩ (by simp) rfl) rfl; have hgoal := hR.go hst HQ14 12 rfl; clear hF hpre hl hR; go_simp; exact ⟨_, rfl, hgoal _ _ (Below.refl _ _) rfl⟩
              | 13, ho =>
                simp at ho; subst ho; refine step_gd hF hR.2 HQ14 (j := 12) (b := true) rfl rfl (by kernel_rfl) (hpre ⟨12, .guard⟩ (by simp) rfl) rfl ?_; have e0 := hF.was 0 (by kernel_rfl) rfl; have hgoal := hR.go hst HQ14 13 rfl; clear hF hpre hl hR; go_simp; exact ⟨_, rfl, hgoal _ _ (Below.refl _ _) rfl⟩
              | 14, ho =>
                simp at ho; subst ho; refine step_gd hF hR.2 HQ14 (j := 12) (b := true) rfl rfl (by kernel_rfl) (hpre ⟨12, .guard⟩ (by simp) rfl) rfl ?_; have e117 := hF.gv hR.2 HQ14 13 rfl (hpre ⟨13, .data⟩ (by simp) rfl) rfl; have hgoal := hR.go hst HQ14 14 rfl; clear hF hpre hl hR; go_simp; exact ⟨_, rfl, hgoal _ _ (Below.refl _ _) rfl⟩
              | 15, ho =>
                simp at ho; subst ho; refine step_gd hF hR.2 HQ14 (j := 12) (b := true) rfl rfl (by kernel_rfl) (hpre ⟨12, .guard⟩ (by simp) rfl) rfl ?_; have e118 := hF.gv hR.2 HQ14 14 rfl (hpre ⟨14, .data⟩ (by simp) rfl) rfl; have hgoal := hR.go hst HQ14 15 rfl; clear hF hpre hl hR; go_simp; exact ⟨_, rfl, hgoal _ _ (Below.refl _ _) rfl⟩
              | 16, ho =>
                simp at ho; subst ho; refine step_gd hF hR.2 HQ14 (j := 12) (b := true) rfl rfl (by kernel_rfl) (hpre ⟨12, .guard⟩ (by simp) rfl) rfl ?_; have e119 := hF.gv hR.2 HQ14 15 rfl (hpre ⟨15, .data⟩ (by simp) rfl) rfl; have hgoal := hR.go hst HQ14 16 rfl; clear hF hpre hl hR; go_simp; exact ⟨_, rfl, hgoal _ _ (Below.refl _ _) rfl⟩
              | 17, ho =>
                simp at ho; subst ho; refine step_gd hF hR.2 HQ14 (j := 12) (b := true) rfl rfl (by kernel_rfl) (hpre ⟨12, .guard⟩ (by simp) rfl) rfl ?_; have e120 := hF.gv hR.2 HQ14 16 rfl (hpre ⟨16, .data⟩ (by simp) rfl) rfl; have hgoal := hR.go hst HQ14 17 rfl; have q0 := cell_keep hR.1 c5; clear hF hpre hl hR; go_simp; exact ⟨_, rfl, hgoal _ _ (Below.refl _ _) rfl⟩
              | 18, ho =>
                simp at ho; subst ho; refine step_gd hF hR.2 HQ14 (j := 12) (b := true) rfl rfl (by kernel_rfl) (hpre ⟨12, .guard⟩ (by simp) rfl) rfl ?_; have e121 := hF.gv hR.2 HQ14 17 rfl (hpre ⟨17, .data⟩ (by simp) rfl) rfl; have hgoal := hR.go hst HQ14 18 rfl; clear hF hpre hl hR; go_simp; exact ⟨_, rfl, hgoal _ _ (Below.refl _ _) rfl⟩
              | 19, ho =>
                simp at ho; subst ho; refine step_plain rfl ?_; have e116 := hF.gv hR.2 HQ14 12 rfl (hpre ⟨12, .data⟩ (by simp) rfl) rfl; have e122 := hF.gv hR.2 HQ14 18 rfl (hpre ⟨18, .data⟩ (by simp) rfl) rfl; have hgoal := hR.go hst HQ14 19 rfl; clear hF hpre hl hR; go_simp; exact ⟨_, rfl, hgoal _ _ (Below.refl _ _) rfl⟩
              | 20, ho =>
                simp at ho; subst ho; refine step_plain rfl ?_; have e123 := hF.gv hR.2 HQ14 19 rfl (hpre ⟨19, .data⟩ (by simp) rfl) rfl; have hgoal := hR.go hst HQ14 20 rfl; clear hF hpre hl hR; go_simp; exact ⟨_, rfl, hgoal _ _ (Below.refl _ _) rfl⟩
              | 21, ho =>
                simp at ho; subst ho; refine step_gd hF hR.2 HQ14 (j := 20) (b := true) rfl rfl (by kernel_rfl) (hpre ⟨20, .guard⟩ (by simp) rfl) rfl ?_; have e5 := hF.was 5 (by kernel_rfl) rfl; have hgoal := hR.go hst HQ14 21 rfl; clear hF hpre hl hR; go_simp; exact ⟨_, rfl, hgoal _ _ (Below.refl _ _) rfl⟩
              | 22, ho =>
                simp at ho; subst ho; refine step_plain rfl ?_; have e124 := hF.gv hR.2 HQ14 20 rfl (hpre ⟨20, .data⟩ (by simp) rfl) rfl; have e125 := hF.gv hR.2 HQ14 21 rfl (hpre ⟨21, .data⟩ (by simp) rfl) rfl; have hgoal := hR.go hst HQ14 22 rfl; clear hF hpre hl hR; go_simp; exact ⟨_, rfl, hgoal _ _ (Below.refl _ _) rfl⟩
              | 23, ho =>
                simp at ho; subst ho; refine step_plain rfl ?_; have e126 := hF.gv hR.2 HQ14 22 rfl (hpre ⟨22, .data⟩ (by simp) rfl) rfl; have hgoal := hR.go hst HQ14 23 rfl; clear hF hpre hl hR; go_simp; exact ⟨_, rfl, hgoal _ _ (Below.refl _ _) rfl⟩
              | 24, ho =>
                simp at ho; subst ho; refine step_sk hF hR.2 HQ14 (j := 23) (b := true) rfl rfl (by kernel_rfl) (hpre ⟨23, .guard⟩ (by simp) rfl) rfl (by simp) ?_
                exact ⟨fun _ _ => trivial, hR.go hst HQ14 24 rfl _ _ (Below.refl _ _) rfl⟩
              | 25, ho =>
                simp at ho; subst ho; refine step_sk hF hR.2 HQ14 (j := 23) (b := true) rfl rfl (by kernel_rfl) (hpre ⟨23, .guard⟩ (by simp) rfl) rfl (by simp) ?_
                exact ⟨fun _ _ => trivial, hR.go hst HQ14 25 rfl _ _ (Below.refl _ _) rfl⟩
              | 26, ho =>
                simp at ho; subst ho; refine step_sk hF hR.2 HQ14 (j := 23) (b := true) rfl rfl (by kernel_rfl) (hpre ⟨23, .guard⟩ (by simp) rfl) rfl (by simp) ?_
                exact ⟨fun _ _ => trivial, hR.go hst HQ14 26 rfl _ _ (Below.refl _ _) rfl⟩
              | 27, ho =>
                simp at ho; subst ho; refine step_sk hF hR.2 HQ14 (j := 23) (b := true) rfl rfl (by kernel_rfl) (hpre ⟨23, .guard⟩ (by simp) rfl) rfl (by simp) ?_
                exact ⟨fun _ _ => trivial, hR.go hst HQ14 27 rfl _ _ (Below.refl _ _) rfl⟩
              | 28, ho =>
                simp at ho; subst ho; refine step_sk hF hR.2 HQ14 (j := 23) (b := true) rfl rfl (by kernel_rfl) (hpre ⟨23, .guard⟩ (by simp) rfl) rfl (by simp) ?_
                exact ⟨fun _ _ => trivial, hR.go hst HQ14 28 rfl _ _ (Below.refl _ _) rfl⟩
              | 29, ho =>
                simp at ho; subst ho; refine step_sk hF hR.2 HQ14 (j := 23) (b := true) rfl rfl (by kernel_rfl) (hpre ⟨23, .guard⟩ (by simp) rfl) rfl (by simp) ?_
                exact ⟨fun _ _ => trivial, hR.go hst HQ14 29 rfl _ _ (Below.refl _ _) rfl⟩
              | 30, ho =>
                simp at ho; subst ho; refine step_sk hF hR.2 HQ14 (j := 23) (b := true) rfl rfl (by kernel_rfl) (hpre ⟨23, .guard⟩ (by simp) rfl) rfl (by simp) ?_
                exact ⟨fun _ _ => trivial, hR.go hst HQ14 30 rfl _ _ (Below.refl _ _) rfl⟩
              | 31, ho =>
                simp at ho; subst ho; refine step_sk hF hR.2 HQ14 (j := 23) (b := true) rfl rfl (by kernel_rfl) (hpre ⟨23, .guard⟩ (by simp) rfl) rfl (by simp) ?_
                exact ⟨fun _ _ => trivial, hR.go hst HQ14 31 rfl _ _ (Below.refl _ _) rfl⟩
              | 32, ho =>
                simp at ho; subst ho; refine step_sk hF hR.2 HQ14 (j := 23) (b := true) rfl rfl (by kernel_rfl) (hpre ⟨23, .guard⟩ (by simp) rfl) rfl (by simp) ?_
                exact ⟨fun _ _ => trivial, hR.go hst HQ14 32 rfl _ _ (Below.refl _ _) rfl⟩
              | 33, ho =>
                simp at ho; subst ho; refine step_sk hF hR.2 HQ14 (j := 23) (b := true) rfl rfl (by kernel_rfl) (hpre ⟨23, .guard⟩ (by simp) rfl) rfl (by simp) ?_
                exact ⟨fun _ _ => trivial, hR.go hst HQ14 33 rfl _ _ (Below.refl _ _) rfl⟩
              | 34, ho =>
                simp at ho; subst ho; refine step_plain rfl ?_; have e127 := hF.gv hR.2 HQ14 23 rfl (hpre ⟨23, .data⟩ (by simp) rfl) rfl; have e137 := hF.gv hR.2 HQ14 33 rfl (hpre ⟨33, .data⟩ (by simp) rfl) rfl; have hgoal := hR.go hst HQ14 34 rfl; clear hF hpre hl hR; go_simp; exact ⟨_, rfl, hgoal _ _ (Below.refl _ _) rfl⟩
              | 35, ho =>
                simp at ho; subst ho; refine step_plain rfl ?_; have e138 := hF.gv hR.2 HQ14 34 rfl (hpre ⟨34, .data⟩ (by simp) rfl) rfl; have hgoal := hR.go hst HQ14 35 rfl; clear hF hpre hl hR; go_simp; exact ⟨_, rfl, hgoal _ _ (Below.refl _ _) rfl⟩
              | i + 36, ho => simp at ho
            case hend14 =>
              intro val L b' x hF hall hR
              have e := hF.all (by kernel_rfl) hall
              have k1435 := QG.val HQ14 rfl (hR.2 35 (hall 35 (by decide)))
              have hB14 := Lib.hid hR.1
              clear hF hall hR hst HQ14 U142
              subst e
              simp [final, dstOf, List.range, List.range.loop]
              rw [k1435]
              go_wp2
              go_ret
              exact ⟨rfl, HB1.out.trans (hB14.out.mono HB1.out.size)⟩
        · rw [show posB (fun l u => carB X Y V l l y1 y2 u) cable charge ⟨len, 0, since, cyc, cut, true⟩ 4 n = false by unfold posB; simp [g5, g1, g3]]
          have G1 := Lib.hid (show wB 1 100000 [n] = true by rw [wB_one]; simpa using g1)
          have hW1 : WN (w.alloc (.cells #[.int .i64 4, .int .i64 n] 82)) g cable AX nx cx AY ny cy AV nv cv charge ⟨len, 0, since, cyc, cut, true⟩ y1 y2 := h.stay ((Below.refl _ _).alloc (Nat.le_refl _) _)
          have hB1 : Below w.heap.size w (w.alloc (.cells #[.int .i64 4, .int .i64 n] 82)) := (Below.refl _ _).alloc (Nat.le_refl _) _
          have l0 : (w.alloc (.cells #[.int .i64 4, .int .i64 n] 82)).cell? ⟨w.heap.size, 0, none⟩ = some (.int .i64 4) := by rw [cell_newest]; rfl
          have l1 : (w.alloc (.cells #[.int .i64 4, .int .i64 n] 82)).cell? ⟨w.heap.size, 1, none⟩ = some (.int .i64 n) := by rw [cell_newest]; rfl
          have c0 := cellOf (o := 0) hW1 rfl
          have c4 := cellOf (o := 4) hW1 rfl
          have c5 := cellOf (o := 5) hW1 rfl
          have c6 := cellOf (o := 6) hW1 rfl
          have c7 := cellOf (o := 7) hW1 rfl
          have c12 := cellOf (o := 12) hW1 rfl
          have hg := hW1.lt
          have HB1 := Lib.hid hB1
          clear hW1 hB1 h ht
          go_enter Try.func110, Try.ntmps110
          go_upto_region 9 with (fail)
          generalize w.alloc _ = w1 at *
          obtain ⟨QA15, hQA15⟩ : ∃ q9 : Nat → Value → World → Prop, q9 = QG [some (.pointer (some ⟨g, 0, none⟩)), some (.pointer (some ⟨g, 0, none⟩)), some (.pointer (some ⟨g, 12, none⟩)), some (.bool true), some (.bool true), some (.pointer (some ⟨g, 0, none⟩)), some (.pointer (some ⟨g, 0, none⟩)), some (.pointer (some ⟨g, 5, none⟩)), some (.pointer (some ⟨g, 7, none⟩)), some (.int .i64 since), some (.pointer (some ⟨g, 0, none⟩)), some (.pointer (some ⟨g, 0, none⟩)), some (.pointer (some ⟨g, 0, none⟩)), some (.pointer (some ⟨g, 4, none⟩)), some (.int .i64 charge), some (.bool false), some (.bool false), some (.bool false)] (fun _ _ _ => True) := ⟨_, rfl⟩
          have hst : Stays QA15 := by rw [hQA15]; exact QG.stays (fun _ _ _ _ _ _ => trivial)
          have HQA15 := Lib.hid hQA15
          clear hQA15
          refine wpIn_wide.1 (region_inv2 (n := 9) (by kernel_rfl) (RQ QA15 w1) (by kernel_rfl) rfl (RQ.start _ _ _) ?hstepA15 ?hendA15)
          case hstepA15 =>
            intro i' o ho val L b' x9 hF hR hpre hl
            match i', ho with
            | 0, ho =>
              simp at ho; subst ho; refine step_plain rfl ?_; have e0 := hF.was 0 (by kernel_rfl) rfl; have hgoal := hR.go hst HQA15 0 rfl; clear hF hpre hl hR; go_simp; exact ⟨_, rfl, hgoal _ _ (Below.refl _ _) rfl⟩
            | 1, ho =>
              simp at ho; subst ho; refine step_plain rfl ?_; have e87 := hF.gv hR.2 HQA15 0 rfl (hpre ⟨0, .data⟩ (by simp) rfl) rfl; have hgoal := hR.go hst HQA15 1 rfl; clear hF hpre hl hR; go_simp; exact ⟨_, rfl, hgoal _ _ (Below.refl _ _) rfl⟩
            | 2, ho =>
              simp at ho; subst ho; refine step_plain rfl ?_; have e88 := hF.gv hR.2 HQA15 1 rfl (hpre ⟨1, .data⟩ (by simp) rfl) rfl; have hgoal := hR.go hst HQA15 2 rfl; clear hF hpre hl hR; go_simp; exact ⟨_, rfl, hgoal _ _ (Below.refl _ _) rfl⟩
            | 3, ho =>
              simp at ho; subst ho; refine step_plain rfl ?_; have e89 := hF.gv hR.2 HQA15 2 rfl (hpre ⟨2, .data⟩ (by simp) rfl) rfl; have hgoal := hR.go hst HQA15 3 rfl; have q0 := cell_keep hR.1 c12; clear hF hpre hl hR; go_simp; exact ⟨_, rfl, hgoal _ _ (Below.refl _ _) rfl⟩
            | 4, ho =>
              simp at ho; subst ho; refine step_plain rfl ?_; have e90 := hF.gv hR.2 HQA15 3 rfl (hpre ⟨3, .data⟩ (by simp) rfl) rfl; have hgoal := hR.go hst HQA15 4 rfl; clear hF hpre hl hR; go_simp; exact ⟨_, rfl, hgoal _ _ (Below.refl _ _) rfl⟩
            | 5, ho =>
              simp at ho; subst ho; refine step_gd hF hR.2 HQA15 (j := 4) (b := true) rfl rfl (by kernel_rfl) (hpre ⟨4, .guard⟩ (by simp) rfl) rfl ?_; have e0 := hF.was 0 (by kernel_rfl) rfl; have hgoal := hR.go hst HQA15 5 rfl; clear hF hpre hl hR; go_simp; exact ⟨_, rfl, hgoal _ _ (Below.refl _ _) rfl⟩
            | 6, ho =>
              simp at ho; subst ho; refine step_gd hF hR.2 HQA15 (j := 4) (b := true) rfl rfl (by kernel_rfl) (hpre ⟨4, .guard⟩ (by simp) rfl) rfl ?_; have e92 := hF.gv hR.2 HQA15 5 rfl (hpre ⟨5, .data⟩ (by simp) rfl) rfl; have hgoal := hR.go hst HQA15 6 rfl; clear hF hpre hl hR; go_simp; exact ⟨_, rfl, hgoal _ _ (Below.refl _ _) rfl⟩
            | 7, ho =>
              simp at ho; subst ho; refine step_gd hF hR.2 HQA15 (j := 4) (b := true) rfl rfl (by kernel_rfl) (hpre ⟨4, .guard⟩ (by simp) rfl) rfl ?_; have e93 := hF.gv hR.2 HQA15 6 rfl (hpre ⟨6, .data⟩ (by simp) rfl) rfl; have hgoal := hR.go hst HQA15 7 rfl; clear hF hpre hl hR; go_simp; exact ⟨_, rfl, hgoal _ _ (Below.refl _ _) rfl⟩
            | 8, ho =>
              simp at ho; subst ho; refine step_gd hF hR.2 HQA15 (j := 4) (b := true) rfl rfl (by kernel_rfl) (hpre ⟨4, .guard⟩ (by simp) rfl) rfl ?_; have e94 := hF.gv hR.2 HQA15 7 rfl (hpre ⟨7, .data⟩ (by simp) rfl) rfl; have hgoal := hR.go hst HQA15 8 rfl; clear hF hpre hl hR; go_simp; exact ⟨_, rfl, hgoal _ _ (Below.refl _ _) rfl⟩
            | 9, ho =>
              simp at ho; subst ho; refine step_gd hF hR.2 HQA15 (j := 4) (b := true) rfl rfl (by kernel_rfl) (hpre ⟨4, .guard⟩ (by simp) rfl) rfl ?_; have e95 := hF.gv hR.2 HQA15 8 rfl (hpre ⟨8, .data⟩ (by simp) rfl) rfl; have hgoal := hR.go hst HQA15 9 rfl; have q0 := cell_keep hR.1 c7; clear hF hpre hl hR; go_simp; exact ⟨_, rfl, hgoal _ _ (Below.refl _ _) rfl⟩
            | 10, ho =>
              simp at ho; subst ho; refine step_gd hF hR.2 HQA15 (j := 4) (b := true) rfl rfl (by kernel_rfl) (hpre ⟨4, .guard⟩ (by simp) rfl) rfl ?_; have e0 := hF.was 0 (by kernel_rfl) rfl; have hgoal := hR.go hst HQA15 10 rfl; clear hF hpre hl hR; go_simp; exact ⟨_, rfl, hgoal _ _ (Below.refl _ _) rfl⟩
            | 11, ho =>
              simp at ho; subst ho; refine step_gd hF hR.2 HQA15 (j := 4) (b := true) rfl rfl (by kernel_rfl) (hpre ⟨4, .guard⟩ (by simp) rfl) rfl ?_; have e97 := hF.gv hR.2 HQA15 10 rfl (hpre ⟨10, .data⟩ (by simp) rfl) rfl; have hgoal := hR.go hst HQA15 11 rfl; clear hF hpre hl hR; go_simp; exact ⟨_, rfl, hgoal _ _ (Below.refl _ _) rfl⟩
            | 12, ho =>
              simp at ho; subst ho; refine step_gd hF hR.2 HQA15 (j := 4) (b := true) rfl rfl (by kernel_rfl) (hpre ⟨4, .guard⟩ (by simp) rfl) rfl ?_; have e98 := hF.gv hR.2 HQA15 11 rfl (hpre ⟨11, .data⟩ (by simp) rfl) rfl; have hgoal := hR.go hst HQA15 12 rfl; clear hF hpre hl hR; go_simp; exact ⟨_, rfl, hgoal _ _ (Below.refl _ _) rfl⟩
            | 13, ho =>
              simp at ho; subst ho; refine step_gd hF hR.2 HQA15 (j := 4) (b := true) rfl rfl (by kernel_rfl) (hpre ⟨4, .guard⟩ (by simp) rfl) rfl ?_; have e99 := hF.gv hR.2 HQA15 12 rfl (hpre ⟨12, .data⟩ (by simp) rfl) rfl; have hgoal := hR.go hst HQA15 13 rfl; clear hF hpre hl hR; go_simp; exact ⟨_, rfl, hgoal _ _ (Below.refl _ _) rfl⟩
            | 14, ho =>
              simp at ho; subst ho; refine step_gd hF hR.2 HQA15 (j := 4) (b := true) rfl rfl (by kernel_rfl) (hpre ⟨4, .guard⟩ (by simp) rfl) rfl ?_; have e100 := hF.gv hR.2 HQA15 13 rfl (hpre ⟨13, .data⟩ (by simp) rfl) rfl; have hgoal := hR.go hst HQA15 14 rfl; have q0 := cell_keep hR.1 c4; clear hF hpre hl hR; go_simp; exact ⟨_, rfl, hgoal _ _ (Below.refl _ _) rfl⟩
            | 15, ho =>
              simp at ho; subst ho; refine step_gd hF hR.2 HQA15 (j := 4) (b := true) rfl rfl (by kernel_rfl) (hpre ⟨4, .guard⟩ (by simp) rfl) rfl ?_; have e96 := hF.gv hR.2 HQA15 9 rfl (hpre ⟨9, .data⟩ (by simp) rfl) rfl; have e101 := hF.gv hR.2 HQA15 14 rfl (hpre ⟨14, .data⟩ (by simp) rfl) rfl; have hgoal := hR.go hst HQA15 15 rfl; clear hF hpre hl hR; go_simp; exact ⟨_, rfl, hgoal _ _ (Below.refl _ _) rfl⟩
            | 16, ho =>
              simp at ho; subst ho; refine step_plain rfl ?_; have e91 := hF.gv hR.2 HQA15 4 rfl (hpre ⟨4, .data⟩ (by simp) rfl) rfl; have e102 := hF.gv hR.2 HQA15 15 rfl (hpre ⟨15, .data⟩ (by simp) rfl) rfl; have hgoal := hR.go hst HQA15 16 rfl; clear hF hpre hl hR; go_simp; exact ⟨_, rfl, hgoal _ _ (Below.refl _ _) rfl⟩
            | 17, ho =>
              simp at ho; subst ho; refine step_plain rfl ?_; have e103 := hF.gv hR.2 HQA15 16 rfl (hpre ⟨16, .data⟩ (by simp) rfl) rfl; have hgoal := hR.go hst HQA15 17 rfl; clear hF hpre hl hR; go_simp; exact ⟨_, rfl, hgoal _ _ (Below.refl _ _) rfl⟩
            | i + 18, ho => simp at ho
          case hendA15 =>
            intro val L b' x9 hF hall hR
            have e := hF.all (by kernel_rfl) hall
            have kA1517 := QG.val HQA15 rfl (hR.2 17 (hall 17 (by decide)))
            have hBA15 := Lib.hid hR.1
            clear hF hall hR hst HQA15 
            subst e
            simp [final, dstOf, List.range, List.range.loop]
            rw [kA1517]
            have l1 := cell_keep hBA15.out l1
            have c0 := cell_keep hBA15.out c0
            have c5 := cell_keep hBA15.out c5
            have c6 := cell_keep hBA15.out c6
            have hg : g < x9.heap.size := Nat.lt_of_lt_of_le hg hBA15.out.size
            have HB1 := Lib.hid (HB1.out.trans (hBA15.out.mono HB1.out.size))
            go_upto_region 10 with (fail)
            obtain ⟨Q16, hQ16⟩ : ∃ q9 : Nat → Value → World → Prop, q9 = QG [some (.pointer (some ⟨w.heap.size, 1, none⟩)), some (.int .i64 n), none, some (.bool true), some (.bool true), some (.pointer (some ⟨g, 0, none⟩)), some (.pointer (some ⟨g, 0, none⟩)), some (.pointer (some ⟨g, 5, none⟩)), some (.pointer (some ⟨g, 6, none⟩)), some (.int .i64 0), some (.bool true), some (.bool true), some (.bool true), some (.pointer (some ⟨g, 0, none⟩)), some (.pointer (some ⟨g, 0, none⟩)), some (.pointer (some ⟨g, 5, none⟩)), some (.pointer (some ⟨g, 5, none⟩)), some (.int .i64 len), some (.bool false), some (.bool false), some (.bool false), some (undef), some (.bool false), some (.bool false), some (undef), some (undef), some (undef), some (undef), some (undef), some (undef), some (undef), some (undef), some (undef), some (undef), some (.bool false), some (.bool false)] (fun j0' v0' w0' => (j0' = 2 → QI [n] v0' w0')) := ⟨_, rfl⟩
            have hst : Stays Q16 := by rw [hQ16]; exact QG.stays (fun j v W W' h hb => fun e => (h e).stay hb)
            have U162 := Lib.hid (show ∀ v0' w0', Q16 2 v0' w0' ↔ QI [n] v0' w0' from fun v0' w0' => by rw [hQ16]; exact ⟨fun h => h rfl, fun h => fun _ => h⟩)
            have HQ16 := Lib.hid hQ16
            clear hQ16
            refine wpIn_wide.1 (region_inv2 (n := 9) (by kernel_rfl) (RQ Q16 x9) (by kernel_rfl) rfl (RQ.start _ _ _) ?hstep16 ?hend16)
            case hstep16 =>
              intro i' o ho val L b' x hF hR hpre hl
              match i', ho with
              | 0, ho =>
                simp at ho; subst ho; refine step_plain rfl ?_; have e3 := hF.was 3 (by kernel_rfl) rfl; have hgoal := hR.go hst HQ16 0 rfl; clear hF hpre hl hR; go_simp; exact ⟨_, rfl, hgoal _ _ (Below.refl _ _) rfl⟩
              | 1, ho =>
                simp at ho; subst ho; refine step_plain rfl ?_; have e104 := hF.gv hR.2 HQ16 0 rfl (hpre ⟨0, .data⟩ (by simp) rfl) rfl; have hgoal := hR.go hst HQ16 1 rfl; have q0 := cell_keep hR.1 l1; clear hF hpre hl hR; go_simp; exact ⟨_, rfl, hgoal _ _ (Below.refl _ _) rfl⟩
              | 2, ho =>
                simp at ho; subst ho; refine step_plain rfl ?_; have e105 := hF.gv hR.2 HQ16 1 rfl (hpre ⟨1, .data⟩ (by simp) rfl) rfl
                have hgoal : ∀ v0' w0', Below x.heap.size x w0' → QI [n] v0' w0' → RQ Q16 x9 (upd val 2 v0') (L.setIfInBounds 2 true) w0' := fun v0' w0' hb hq => hR.step hst hb ((U162.out _ _).2 hq)
                have hM := Lib.hid hR.1
                clear hF hpre hl hR; go_simp; exact ⟨_, rfl, hgoal _ _ ((Below.refl _ _).alloc (Nat.le_refl _) _) ⟨_, _, rfl, Nat.le_refl _, (RI.new1 rfl).more (by simp)⟩⟩
              | 3, ho =>
                simp at ho; subst ho; refine step_plain rfl ?_; have e106 := hF.gave 2 rfl (hpre ⟨2, .data⟩ (by simp) rfl) rfl
                have v2 := (U162.out _ _).1 (hR.2 2 (hpre ⟨2, .data⟩ (by simp) rfl))
                have hgoal := hR.go hst HQ16 3 rfl
                have hM := Lib.hid hR.1
                clear hF hpre hl hR
                obtain ⟨A9, c9, h9, _, hr9⟩ := v2
                rw [h9] at e106
                go_simp
                refine ⟨trivial, ?_⟩
                refine CallsIn.mono (callsIn_wide.2 (within_any 1 (100000) _ 1 _ _ [n] _ rfl (le_maxLen (by omega)) hr9)) ?_
                rintro e w9 ⟨rfl, rfl⟩
                exact ⟨_, rfl, hgoal _ _ (Below.refl _ _) (by rw [G1.out])⟩
              | 4, ho =>
                simp at ho; subst ho; refine step_plain rfl ?_; have e107 := hF.gv hR.2 HQ16 3 rfl (hpre ⟨3, .data⟩ (by simp) rfl) rfl; have hgoal := hR.go hst HQ16 4 rfl; clear hF hpre hl hR; go_simp; exact ⟨_, rfl, hgoal _ _ (Below.refl _ _) rfl⟩
              | 5, ho =>
                simp at ho; subst ho; refine step_gd hF hR.2 HQ16 (j := 4) (b := true) rfl rfl (by kernel_rfl) (hpre ⟨4, .guard⟩ (by simp) rfl) rfl ?_; have e0 := hF.was 0 (by kernel_rfl) rfl; have hgoal := hR.go hst HQ16 5 rfl; clear hF hpre hl hR; go_simp; exact ⟨_, rfl, hgoal _ _ (Below.refl _ _) rfl⟩
              | 6, ho =>
                simp at ho; subst ho; refine step_gd hF hR.2 HQ16 (j := 4) (b := true) rfl rfl (by kernel_rfl) (hpre ⟨4, .guard⟩ (by simp) rfl) rfl ?_; have e109 := hF.gv hR.2 HQ16 5 rfl (hpre ⟨5, .data⟩ (by simp) rfl) rfl; have hgoal := hR.go hst HQ16 6 rfl; clear hF hpre hl hR; go_simp; exact ⟨_, rfl, hgoal _ _ (Below.refl _ _) rfl⟩
              | 7, ho =>
                simp at ho; subst ho; refine step_gd hF hR.2 HQ16 (j := 4) (b := true) rfl rfl (by kernel_rfl) (hpre ⟨4, .guard⟩ (by simp) rfl) rfl ?_; have e110 := hF.gv hR.2 HQ16 6 rfl (hpre ⟨6, .data⟩ (by simp) rfl) rfl; have hgoal := hR.go hst HQ16 7 rfl; clear hF hpre hl hR; go_simp; exact ⟨_, rfl, hgoal _ _ (Below.refl _ _) rfl⟩
              | 8, ho =>
                simp at ho; subst ho; refine step_gd hF hR.2 HQ16 (j := 4) (b := true) rfl rfl (by kernel_rfl) (hpre ⟨4, .guard⟩ (by simp) rfl) rfl ?_; have e111 := hF.gv hR.2 HQ16 7 rfl (hpre ⟨7, .data⟩ (by simp) rfl) rfl; have hgoal := hR.go hst HQ16 8 rfl; clear hF hpre hl hR; go_simp; exact ⟨_, rfl, hgoal _ _ (Below.refl _ _) rfl⟩
              | 9, ho =>
                simp at ho; subst ho; refine step_gd hF hR.2 HQ16 (j := 4) (b := true) rfl rfl (by kernel_rfl) (hpre ⟨4, .guard⟩ (by simp) rfl) rfl ?_; have e112 := hF.gv hR.2 HQ16 8 rfl (hpre ⟨8, .data⟩ (by simp) rfl) rfl; have hgoal := hR.go hst HQ16 9 rfl; have q0 := cell_keep hR.1 c6; clear hF hpre hl hR; go_simp; exact ⟨_, rfl, hgoal _ _ (Below.refl _ _) rfl⟩
              | 10, ho =>
                simp at ho; subst ho; refine step_gd hF hR.2 HQ16 (j := 4) (b := true) rfl rfl (by kernel_rfl) (hpre ⟨4, .guard⟩ (by simp) rfl) rfl ?_; have e113 := hF.gv hR.2 HQ16 9 rfl (hpre ⟨9, .data⟩ (by simp) rfl) rfl; have hgoal := hR.go hst HQ16 10 rfl; clear hF hpre hl hR; go_simp; exact ⟨_, rfl, hgoal _ _ (Below.refl _ _) rfl⟩
              | 11, ho =>
                simp at ho; subst ho; refine step_plain rfl ?_; have e108 := hF.gv hR.2 HQ16 4 rfl (hpre ⟨4, .data⟩ (by simp) rfl) rfl; have e114 := hF.gv hR.2 HQ16 10 rfl (hpre ⟨10, .data⟩ (by simp) rfl) rfl; have hgoal := hR.go hst HQ16 11 rfl; clear hF hpre hl hR; go_simp; exact ⟨_, rfl, hgoal _ _ (Below.refl _ _) rfl⟩
              | 12, ho =>
                simp at ho; subst ho; refine step_plain rfl ?_; have e115 := hF.gv hR.2 HQ16 11 rfl (hpre ⟨11, .data⟩ (by simp) rfl) rfl; have hgoal := hR.go hst HQ16 12 rfl; clear hF hpre hl hR; go_simp; exact ⟨_, rfl, hgoal _ _ (Below.refl _ _) rfl⟩
              | 13, ho =>
                simp at ho; subst ho; refine step_gd hF hR.2 HQ16 (j := 12) (b := true) rfl rfl (by kernel_rfl) (hpre ⟨12, .guard⟩ (by simp) rfl) rfl ?_; have e0 := hF.was 0 (by kernel_rfl) rfl; have hgoal := hR.go hst HQ16 13 rfl; clear hF hpre hl hR; go_simp; exact ⟨_, rfl, hgoal _ _ (Below.refl _ _) rfl⟩
              | 14, ho =>
                simp at ho; subst ho; refine step_gd hF hR.2 HQ16 (j := 12) (b := true) rfl rfl (by kernel_rfl) (hpre ⟨12, .guard⟩ (by simp) rfl) rfl ?_; have e117 := hF.gv hR.2 HQ16 13 rfl (hpre ⟨13, .data⟩ (by simp) rfl) rfl; have hgoal := hR.go hst HQ16 14 rfl; clear hF hpre hl hR; go_simp; exact ⟨_, rfl, hgoal _ _ (Below.refl _ _) rfl⟩
              | 15, ho =>
                simp at ho; subst ho; refine step_gd hF hR.2 HQ16 (j := 12) (b := true) rfl rfl (by kernel_rfl) (hpre ⟨12, .guard⟩ (by simp) rfl) rfl ?_; have e118 := hF.gv hR.2 HQ16 14 rfl (hpre ⟨14, .data⟩ (by simp) rfl) rfl; have hgoal := hR.go hst HQ16 15 rfl; clear hF hpre hl hR; go_simp; exact ⟨_, rfl, hgoal _ _ (Below.refl _ _) rfl⟩
              | 16, ho =>
                simp at ho; subst ho; refine step_gd hF hR.2 HQ16 (j := 12) (b := true) rfl rfl (by kernel_rfl) (hpre ⟨12, .guard⟩ (by simp) rfl) rfl ?_; have e119 := hF.gv hR.2 HQ16 15 rfl (hpre ⟨15, .data⟩ (by simp) rfl) rfl; have hgoal := hR.go hst HQ16 16 rfl; clear hF hpre hl hR; go_simp; exact ⟨_, rfl, hgoal _ _ (Below.refl _ _) rfl⟩
              | 17, ho =>
                simp at ho; subst ho; refine step_gd hF hR.2 HQ16 (j := 12) (b := true) rfl rfl (by kernel_rfl) (hpre ⟨12, .guard⟩ (by simp) rfl) rfl ?_; have e120 := hF.gv hR.2 HQ16 16 rfl (hpre ⟨16, .data⟩ (by simp) rfl) rfl; have hgoal := hR.go hst HQ16 17 rfl; have q0 := cell_keep hR.1 c5; clear hF hpre hl hR; go_simp; exact ⟨_, rfl, hgoal _ _ (Below.refl _ _) rfl⟩
              | 18, ho =>
                simp at ho; subst ho; refine step_gd hF hR.2 HQ16 (j := 12) (b := true) rfl rfl (by kernel_rfl) (hpre ⟨12, .guard⟩ (by simp) rfl) rfl ?_; have e121 := hF.gv hR.2 HQ16 17 rfl (hpre ⟨17, .data⟩ (by simp) rfl) rfl; have hgoal := hR.go hst HQ16 18 rfl; clear hF hpre hl hR; go_simp; exact ⟨_, rfl, hgoal _ _ (Below.refl _ _) rfl⟩
              | 19, ho =>
                simp at ho; subst ho; refine step_plain rfl ?_; have e116 := hF.gv hR.2 HQ16 12 rfl (hpre ⟨12, .data⟩ (by simp) rfl) rfl; have e122 := hF.gv hR.2 HQ16 18 rfl (hpre ⟨18, .data⟩ (by simp) rfl) rfl; have hgoal := hR.go hst HQ16 19 rfl; clear hF hpre hl hR; go_simp; exact ⟨_, rfl, hgoal _ _ (Below.refl _ _) rfl⟩
              | 20, ho =>
                simp at ho; subst ho; refine step_plain rfl ?_; have e123 := hF.gv hR.2 HQ16 19 rfl (hpre ⟨19, .data⟩ (by simp) rfl) rfl; have hgoal := hR.go hst HQ16 20 rfl; clear hF hpre hl hR; go_simp; exact ⟨_, rfl, hgoal _ _ (Below.refl _ _) rfl⟩
              | 21, ho =>
                simp at ho; subst ho; refine step_sk hF hR.2 HQ16 (j := 20) (b := true) rfl rfl (by kernel_rfl) (hpre ⟨20, .guard⟩ (by simp) rfl) rfl (by simp) ?_
                exact ⟨fun _ _ => trivial, hR.go hst HQ16 21 rfl _ _ (Below.refl _ _) rfl⟩
              | 22, ho =>
                simp at ho; subst ho; refine step_plain rfl ?_; have e124 := hF.gv hR.2 HQ16 20 rfl (hpre ⟨20, .data⟩ (by simp) rfl) rfl; have e125 := hF.gv hR.2 HQ16 21 rfl (hpre ⟨21, .data⟩ (by simp) rfl) rfl; have hgoal := hR.go hst HQ16 22 rfl; clear hF hpre hl hR; go_simp; exact ⟨_, rfl, hgoal _ _ (Below.refl _ _) rfl⟩
              | 23, ho =>
                simp at ho; subst ho; refine step_plain rfl ?_; have e126 := hF.gv hR.2 HQ16 22 rfl (hpre ⟨22, .data⟩ (by simp) rfl) rfl; have hgoal := hR.go hst HQ16 23 rfl; clear hF hpre hl hR; go_simp; exact ⟨_, rfl, hgoal _ _ (Below.refl _ _) rfl⟩
              | 24, ho =>
                simp at ho; subst ho; refine step_sk hF hR.2 HQ16 (j := 23) (b := true) rfl rfl (by kernel_rfl) (hpre ⟨23, .guard⟩ (by simp) rfl) rfl (by simp) ?_
                exact ⟨fun _ _ => trivial, hR.go hst HQ16 24 rfl _ _ (Below.refl _ _) rfl⟩
              | 25, ho =>
                simp at ho; subst ho; refine step_sk hF hR.2 HQ16 (j := 23) (b := true) rfl rfl (by kernel_rfl) (hpre ⟨23, .guard⟩ (by simp) rfl) rfl (by simp) ?_
                exact ⟨fun _ _ => trivial, hR.go hst HQ16 25 rfl _ _ (Below.refl _ _) rfl⟩
              | 26, ho =>
                simp at ho; subst ho; refine step_sk hF hR.2 HQ16 (j := 23) (b := true) rfl rfl (by kernel_rfl) (hpre ⟨23, .guard⟩ (by simp) rfl) rfl (by simp) ?_
                exact ⟨fun _ _ => trivial, hR.go hst HQ16 26 rfl _ _ (Below.refl _ _) rfl⟩
              | 27, ho =>
                simp at ho; subst ho; refine step_sk hF hR.2 HQ16 (j := 23) (b := true) rfl rfl (by kernel_rfl) (hpre ⟨23, .guard⟩ (by simp) rfl) rfl (by simp) ?_
                exact ⟨fun _ _ => trivial, hR.go hst HQ16 27 rfl _ _ (Below.refl _ _) rfl⟩
              | 28, ho =>
                simp at ho; subst ho; refine step_sk hF hR.2 HQ16 (j := 23) (b := true) rfl rfl (by kernel_rfl) (hpre ⟨23, .guard⟩ (by simp) rfl) rfl (by simp) ?_
                exact ⟨fun _ _ => trivial, hR.go hst HQ16 28 rfl _ _ (Below.refl _ _) rfl⟩
              | 29, ho =>
                simp at ho; subst ho; refine step_sk hF hR.2 HQ16 (j := 23) (b := true) rfl rfl (by kernel_rfl) (hpre ⟨23, .guard⟩ (by simp) rfl) rfl (by simp) ?_
                exact ⟨fun _ _ => trivial, hR.go hst HQ16 29 rfl _ _ (Below.refl _ _) rfl⟩
              | 30, ho =>
                simp at ho; subst ho; refine step_sk hF hR.2 HQ16 (j := 23) (b := true) rfl rfl (by kernel_rfl) (hpre ⟨23, .guard⟩ (by simp) rfl) rfl (by simp) ?_
                exact ⟨fun _ _ => trivial, hR.go hst HQ16 30 rfl _ _ (Below.refl _ _) rfl⟩
              | 31, ho =>
                simp at ho; subst ho; refine step_sk hF hR.2 HQ16 (j := 23) (b := true) rfl rfl (by kernel_rfl) (hpre ⟨23, .guard⟩ (by simp) rfl) rfl (by simp) ?_
                exact ⟨fun _ _ => trivial, hR.go hst HQ16 31 rfl _ _ (Below.refl _ _) rfl⟩
              | 32, ho =>
                simp at ho; subst ho; refine step_sk hF hR.2 HQ16 (j := 23) (b := true) rfl rfl (by kernel_rfl) (hpre ⟨23, .guard⟩ (by simp) rfl) rfl (by simp) ?_
                exact ⟨fun _ _ => trivial, hR.go hst HQ16 32 rfl _ _ (Below.refl _ _) rfl⟩
              | 33, ho =>
                simp at ho; subst ho; refine step_sk hF hR.2 HQ16 (j := 23) (b := true) rfl rfl (by kernel_rfl) (hpre ⟨23, .guard⟩ (by simp) rfl) rfl (by simp) ?_
                exact ⟨fun _ _ => trivial, hR.go hst HQ16 33 rfl _ _ (Below.refl _ _) rfl⟩
              | 34, ho =>
                simp at ho; subst ho; refine step_plain rfl ?_; have e127 := hF.gv hR.2 HQ16 23 rfl (hpre ⟨23, .data⟩ (by simp) rfl) rfl; have e137 := hF.gv hR.2 HQ16 33 rfl (hpre ⟨33, .data⟩ (by simp) rfl) rfl; have hgoal := hR.go hst HQ16 34 rfl; clear hF hpre hl hR; go_simp; exact ⟨_, rfl, hgoal _ _ (Below.refl _ _) rfl⟩
              | 35, ho =>
                simp at ho; subst ho; refine step_plain rfl ?_; have e138 := hF.gv hR.2 HQ16 34 rfl (hpre ⟨34, .data⟩ (by simp) rfl) rfl; have hgoal := hR.go hst HQ16 35 rfl; clear hF hpre hl hR; go_simp; exact ⟨_, rfl, hgoal _ _ (Below.refl _ _) rfl⟩
              | i + 36, ho => simp at ho
            case hend16 =>
              intro val L b' x hF hall hR
              have e := hF.all (by kernel_rfl) hall
              have k1635 := QG.val HQ16 rfl (hR.2 35 (hall 35 (by decide)))
              have hB16 := Lib.hid hR.1
              clear hF hall hR hst HQ16 U162
              subst e
              simp [final, dstOf, List.range, List.range.loop]
              rw [k1635]
              go_wp2
              go_ret
              exact ⟨rfl, HB1.out.trans (hB16.out.mono HB1.out.size)⟩
      · have z2a : (wt == 0) = false := by simpa using g2
        rw [show posB (fun l u => carB X Y V l l y1 y2 u) cable charge ⟨len, wt, since, cyc, cut, true⟩ 4 n = false by unfold posB; simp [g5, g1, g2]]
        have G1 := Lib.hid (show wB 1 100000 [n] = true by rw [wB_one]; simpa using g1)
        have hW1 : WN (w.alloc (.cells #[.int .i64 4, .int .i64 n] 82)) g cable AX nx cx AY ny cy AV nv cv charge ⟨len, wt, since, cyc, cut, true⟩ y1 y2 := h.stay ((Below.refl _ _).alloc (Nat.le_refl _) _)
        have hB1 : Below w.heap.size w (w.alloc (.cells #[.int .i64 4, .int .i64 n] 82)) := (Below.refl _ _).alloc (Nat.le_refl _) _
        have l0 : (w.alloc (.cells #[.int .i64 4, .int .i64 n] 82)).cell? ⟨w.heap.size, 0, none⟩ = some (.int .i64 4) := by rw [cell_newest]; rfl
        have l1 : (w.alloc (.cells #[.int .i64 4, .int .i64 n] 82)).cell? ⟨w.heap.size, 1, none⟩ = some (.int .i64 n) := by rw [cell_newest]; rfl
        have c0 := cellOf (o := 0) hW1 rfl
        have c4 := cellOf (o := 4) hW1 rfl
        have c5 := cellOf (o := 5) hW1 rfl
        have c6 := cellOf (o := 6) hW1 rfl
        have c7 := cellOf (o := 7) hW1 rfl
        have c12 := cellOf (o := 12) hW1 rfl
        have hg := hW1.lt
        have HB1 := Lib.hid hB1
        clear hW1 hB1 h ht
        go_enter Try.func110, Try.ntmps110
        go_upto_region 9 with (fail)
        generalize w.alloc _ = w1 at *
        obtain ⟨QA17, hQA17⟩ : ∃ q9 : Nat → Value → World → Prop, q9 = QG [some (.pointer (some ⟨g, 0, none⟩)), some (.pointer (some ⟨g, 0, none⟩)), some (.pointer (some ⟨g, 12, none⟩)), some (.bool true), some (.bool true), some (.pointer (some ⟨g, 0, none⟩)), some (.pointer (some ⟨g, 0, none⟩)), some (.pointer (some ⟨g, 5, none⟩)), some (.pointer (some ⟨g, 7, none⟩)), some (.int .i64 since), some (.pointer (some ⟨g, 0, none⟩)), some (.pointer (some ⟨g, 0, none⟩)), some (.pointer (some ⟨g, 0, none⟩)), some (.pointer (some ⟨g, 4, none⟩)), some (.int .i64 charge), some (.bool false), some (.bool false), some (.bool false)] (fun _ _ _ => True) := ⟨_, rfl⟩
        have hst : Stays QA17 := by rw [hQA17]; exact QG.stays (fun _ _ _ _ _ _ => trivial)
        have HQA17 := Lib.hid hQA17
        clear hQA17
        refine wpIn_wide.1 (region_inv2 (n := 9) (by kernel_rfl) (RQ QA17 w1) (by kernel_rfl) rfl (RQ.start _ _ _) ?hstepA17 ?hendA17)
        case hstepA17 =>
          intro i' o ho val L b' x9 hF hR hpre hl
          match i', ho with
          | 0, ho =>
            simp at ho; subst ho; refine step_plain rfl ?_; have e0 := hF.was 0 (by kernel_rfl) rfl; have hgoal := hR.go hst HQA17 0 rfl; clear hF hpre hl hR; go_simp; exact ⟨_, rfl, hgoal _ _ (Below.refl _ _) rfl⟩
          | 1, ho =>
            simp at ho; subst ho; refine step_plain rfl ?_; have e87 := hF.gv hR.2 HQA17 0 rfl (hpre ⟨0, .data⟩ (by simp) rfl) rfl; have hgoal := hR.go hst HQA17 1 rfl; clear hF hpre hl hR; go_simp; exact ⟨_, rfl, hgoal _ _ (Below.refl _ _) rfl⟩
          | 2, ho =>
            simp at ho; subst ho; refine step_plain rfl ?_; have e88 := hF.gv hR.2 HQA17 1 rfl (hpre ⟨1, .data⟩ (by simp) rfl) rfl; have hgoal := hR.go hst HQA17 2 rfl; clear hF hpre hl hR; go_simp; exact ⟨_, rfl, hgoal _ _ (Below.refl _ _) rfl⟩
          | 3, ho =>
            simp at ho; subst ho; refine step_plain rfl ?_; have e89 := hF.gv hR.2 HQA17 2 rfl (hpre ⟨2, .data⟩ (by simp) rfl) rfl; have hgoal := hR.go hst HQA17 3 rfl; have q0 := cell_keep hR.1 c12; clear hF hpre hl hR; go_simp; exact ⟨_, rfl, hgoal _ _ (Below.refl _ _) rfl⟩
          | 4, ho =>
            simp at ho; subst ho; refine step_plain rfl ?_; have e90 := hF.gv hR.2 HQA17 3 rfl (hpre ⟨3, .data⟩ (by simp) rfl) rfl; have hgoal := hR.go hst HQA17 4 rfl; clear hF hpre hl hR; go_simp; exact ⟨_, rfl, hgoal _ _ (Below.refl _ _) rfl⟩
          | 5, ho =>
            simp at ho; subst ho; refine step_gd hF hR.2 HQA17 (j := 4) (b := true) rfl rfl (by kernel_rfl) (hpre ⟨4, .guard⟩ (by simp) rfl) rfl ?_; have e0 := hF.was 0 (by kernel_rfl) rfl; have hgoal := hR.go hst HQA17 5 rfl; clear hF hpre hl hR; go_simp; exact ⟨_, rfl, hgoal _ _ (Below.refl _ _) rfl⟩
          | 6, ho =>
            simp at ho; subst ho; refine step_gd hF hR.2 HQA17 (j := 4) (b := true) rfl rfl (by kernel_rfl) (hpre ⟨4, .guard⟩ (by simp) rfl) rfl ?_; have e92 := hF.gv hR.2 HQA17 5 rfl (hpre ⟨5, .data⟩ (by simp) rfl) rfl; have hgoal := hR.go hst HQA17 6 rfl; clear hF hpre hl hR; go_simp; exact ⟨_, rfl, hgoal _ _ (Below.refl _ _) rfl⟩
          | 7, ho =>
            simp at ho; subst ho; refine step_gd hF hR.2 HQA17 (j := 4) (b := true) rfl rfl (by kernel_rfl) (hpre ⟨4, .guard⟩ (by simp) rfl) rfl ?_; have e93 := hF.gv hR.2 HQA17 6 rfl (hpre ⟨6, .data⟩ (by simp) rfl) rfl; have hgoal := hR.go hst HQA17 7 rfl; clear hF hpre hl hR; go_simp; exact ⟨_, rfl, hgoal _ _ (Below.refl _ _) rfl⟩
          | 8, ho =>
            simp at ho; subst ho; refine step_gd hF hR.2 HQA17 (j := 4) (b := true) rfl rfl (by kernel_rfl) (hpre ⟨4, .guard⟩ (by simp) rfl) rfl ?_; have e94 := hF.gv hR.2 HQA17 7 rfl (hpre ⟨7, .data⟩ (by simp) rfl) rfl; have hgoal := hR.go hst HQA17 8 rfl; clear hF hpre hl hR; go_simp; exact ⟨_, rfl, hgoal _ _ (Below.refl _ _) rfl⟩
          | 9, ho =>
            simp at ho; subst ho; refine step_gd hF hR.2 HQA17 (j := 4) (b := true) rfl rfl (by kernel_rfl) (hpre ⟨4, .guard⟩ (by simp) rfl) rfl ?_; have e95 := hF.gv hR.2 HQA17 8 rfl (hpre ⟨8, .data⟩ (by simp) rfl) rfl; have hgoal := hR.go hst HQA17 9 rfl; have q0 := cell_keep hR.1 c7; clear hF hpre hl hR; go_simp; exact ⟨_, rfl, hgoal _ _ (Below.refl _ _) rfl⟩
          | 10, ho =>
            simp at ho; subst ho; refine step_gd hF hR.2 HQA17 (j := 4) (b := true) rfl rfl (by kernel_rfl) (hpre ⟨4, .guard⟩ (by simp) rfl) rfl ?_; have e0 := hF.was 0 (by kernel_rfl) rfl; have hgoal := hR.go hst HQA17 10 rfl; clear hF hpre hl hR; go_simp; exact ⟨_, rfl, hgoal _ _ (Below.refl _ _) rfl⟩
          | 11, ho =>
            simp at ho; subst ho; refine step_gd hF hR.2 HQA17 (j := 4) (b := true) rfl rfl (by kernel_rfl) (hpre ⟨4, .guard⟩ (by simp) rfl) rfl ?_; have e97 := hF.gv hR.2 HQA17 10 rfl (hpre ⟨10, .data⟩ (by simp) rfl) rfl; have hgoal := hR.go hst HQA17 11 rfl; clear hF hpre hl hR; go_simp; exact ⟨_, rfl, hgoal _ _ (Below.refl _ _) rfl⟩
          | 12, ho =>
            simp at ho; subst ho; refine step_gd hF hR.2 HQA17 (j := 4) (b := true) rfl rfl (by kernel_rfl) (hpre ⟨4, .guard⟩ (by simp) rfl) rfl ?_; have e98 := hF.gv hR.2 HQA17 11 rfl (hpre ⟨11, .data⟩ (by simp) rfl) rfl; have hgoal := hR.go hst HQA17 12 rfl; clear hF hpre hl hR; go_simp; exact ⟨_, rfl, hgoal _ _ (Below.refl _ _) rfl⟩
          | 13, ho =>
            simp at ho; subst ho; refine step_gd hF hR.2 HQA17 (j := 4) (b := true) rfl rfl (by kernel_rfl) (hpre ⟨4, .guard⟩ (by simp) rfl) rfl ?_; have e99 := hF.gv hR.2 HQA17 12 rfl (hpre ⟨12, .data⟩ (by simp) rfl) rfl; have hgoal := hR.go hst HQA17 13 rfl; clear hF hpre hl hR; go_simp; exact ⟨_, rfl, hgoal _ _ (Below.refl _ _) rfl⟩
          | 14, ho =>
            simp at ho; subst ho; refine step_gd hF hR.2 HQA17 (j := 4) (b := true) rfl rfl (by kernel_rfl) (hpre ⟨4, .guard⟩ (by simp) rfl) rfl ?_; have e100 := hF.gv hR.2 HQA17 13 rfl (hpre ⟨13, .data⟩ (by simp) rfl) rfl; have hgoal := hR.go hst HQA17 14 rfl; have q0 := cell_keep hR.1 c4; clear hF hpre hl hR; go_simp; exact ⟨_, rfl, hgoal _ _ (Below.refl _ _) rfl⟩
          | 15, ho =>
            simp at ho; subst ho; refine step_gd hF hR.2 HQA17 (j := 4) (b := true) rfl rfl (by kernel_rfl) (hpre ⟨4, .guard⟩ (by simp) rfl) rfl ?_; have e96 := hF.gv hR.2 HQA17 9 rfl (hpre ⟨9, .data⟩ (by simp) rfl) rfl; have e101 := hF.gv hR.2 HQA17 14 rfl (hpre ⟨14, .data⟩ (by simp) rfl) rfl; have hgoal := hR.go hst HQA17 15 rfl; clear hF hpre hl hR; go_simp; exact ⟨_, rfl, hgoal _ _ (Below.refl _ _) rfl⟩
          | 16, ho =>
            simp at ho; subst ho; refine step_plain rfl ?_; have e91 := hF.gv hR.2 HQA17 4 rfl (hpre ⟨4, .data⟩ (by simp) rfl) rfl; have e102 := hF.gv hR.2 HQA17 15 rfl (hpre ⟨15, .data⟩ (by simp) rfl) rfl; have hgoal := hR.go hst HQA17 16 rfl; clear hF hpre hl hR; go_simp; exact ⟨_, rfl, hgoal _ _ (Below.refl _ _) rfl⟩
          | 17, ho =>
            simp at ho; subst ho; refine step_plain rfl ?_; have e103 := hF.gv hR.2 HQA17 16 rfl (hpre ⟨16, .data⟩ (by simp) rfl) rfl; have hgoal := hR.go hst HQA17 17 rfl; clear hF hpre hl hR; go_simp; exact ⟨_, rfl, hgoal _ _ (Below.refl _ _) rfl⟩
          | i + 18, ho => simp at ho
        case hendA17 =>
          intro val L b' x9 hF hall hR
          have e := hF.all (by kernel_rfl) hall
          have kA1717 := QG.val HQA17 rfl (hR.2 17 (hall 17 (by decide)))
          have hBA17 := Lib.hid hR.1
          clear hF hall hR hst HQA17 
          subst e
          simp [final, dstOf, List.range, List.range.loop]
          rw [kA1717]
          have l1 := cell_keep hBA17.out l1
          have c0 := cell_keep hBA17.out c0
          have c5 := cell_keep hBA17.out c5
          have c6 := cell_keep hBA17.out c6
          have hg : g < x9.heap.size := Nat.lt_of_lt_of_le hg hBA17.out.size
          have HB1 := Lib.hid (HB1.out.trans (hBA17.out.mono HB1.out.size))
          go_upto_region 10 with (fail)
          obtain ⟨Q18, hQ18⟩ : ∃ q9 : Nat → Value → World → Prop, q9 = QG [some (.pointer (some ⟨w.heap.size, 1, none⟩)), some (.int .i64 n), none, some (.bool true), some (.bool true), some (.pointer (some ⟨g, 0, none⟩)), some (.pointer (some ⟨g, 0, none⟩)), some (.pointer (some ⟨g, 5, none⟩)), some (.pointer (some ⟨g, 6, none⟩)), some (.int .i64 wt), some (.bool false), some (.bool false), some (.bool false), some (undef), some (undef), some (undef), some (undef), some (undef), some (undef), some (.bool false), some (.bool false), some (undef), some (.bool false), some (.bool false), some (undef), some (undef), some (undef), some (undef), some (undef), some (undef), some (undef), some (undef), some (undef), some (undef), some (.bool false), some (.bool false)] (fun j0' v0' w0' => (j0' = 2 → QI [n] v0' w0')) := ⟨_, rfl⟩
          have hst : Stays Q18 := by rw [hQ18]; exact QG.stays (fun j v W W' h hb => fun e => (h e).stay hb)
          have U182 := Lib.hid (show ∀ v0' w0', Q18 2 v0' w0' ↔ QI [n] v0' w0' from fun v0' w0' => by rw [hQ18]; exact ⟨fun h => h rfl, fun h => fun _ => h⟩)
          have HQ18 := Lib.hid hQ18
          clear hQ18
          refine wpIn_wide.1 (region_inv2 (n := 9) (by kernel_rfl) (RQ Q18 x9) (by kernel_rfl) rfl (RQ.start _ _ _) ?hstep18 ?hend18)
          case hstep18 =>
            intro i' o ho val L b' x hF hR hpre hl
            match i', ho with
            | 0, ho =>
              simp at ho; subst ho; refine step_plain rfl ?_; have e3 := hF.was 3 (by kernel_rfl) rfl; have hgoal := hR.go hst HQ18 0 rfl; clear hF hpre hl hR; go_simp; exact ⟨_, rfl, hgoal _ _ (Below.refl _ _) rfl⟩
            | 1, ho =>
              simp at ho; subst ho; refine step_plain rfl ?_; have e104 := hF.gv hR.2 HQ18 0 rfl (hpre ⟨0, .data⟩ (by simp) rfl) rfl; have hgoal := hR.go hst HQ18 1 rfl; have q0 := cell_keep hR.1 l1; clear hF hpre hl hR; go_simp; exact ⟨_, rfl, hgoal _ _ (Below.refl _ _) rfl⟩
            | 2, ho =>
              simp at ho; subst ho; refine step_plain rfl ?_; have e105 := hF.gv hR.2 HQ18 1 rfl (hpre ⟨1, .data⟩ (by simp) rfl) rfl
              have hgoal : ∀ v0' w0', Below x.heap.size x w0' → QI [n] v0' w0' → RQ Q18 x9 (upd val 2 v0') (L.setIfInBounds 2 true) w0' := fun v0' w0' hb hq => hR.step hst hb ((U182.out _ _).2 hq)
              have hM := Lib.hid hR.1
              clear hF hpre hl hR; go_simp; exact ⟨_, rfl, hgoal _ _ ((Below.refl _ _).alloc (Nat.le_refl _) _) ⟨_, _, rfl, Nat.le_refl _, (RI.new1 rfl).more (by simp)⟩⟩
            | 3, ho =>
              simp at ho; subst ho; refine step_plain rfl ?_; have e106 := hF.gave 2 rfl (hpre ⟨2, .data⟩ (by simp) rfl) rfl
              have v2 := (U182.out _ _).1 (hR.2 2 (hpre ⟨2, .data⟩ (by simp) rfl))
              have hgoal := hR.go hst HQ18 3 rfl
              have hM := Lib.hid hR.1
              clear hF hpre hl hR
              obtain ⟨A9, c9, h9, _, hr9⟩ := v2
              rw [h9] at e106
              go_simp
              refine ⟨trivial, ?_⟩
              refine CallsIn.mono (callsIn_wide.2 (within_any 1 (100000) _ 1 _ _ [n] _ rfl (le_maxLen (by omega)) hr9)) ?_
              rintro e w9 ⟨rfl, rfl⟩
              exact ⟨_, rfl, hgoal _ _ (Below.refl _ _) (by rw [G1.out])⟩
            | 4, ho =>
              simp at ho; subst ho; refine step_plain rfl ?_; have e107 := hF.gv hR.2 HQ18 3 rfl (hpre ⟨3, .data⟩ (by simp) rfl) rfl; have hgoal := hR.go hst HQ18 4 rfl; clear hF hpre hl hR; go_simp; exact ⟨_, rfl, hgoal _ _ (Below.refl _ _) rfl⟩
            | 5, ho =>
              simp at ho; subst ho; refine step_gd hF hR.2 HQ18 (j := 4) (b := true) rfl rfl (by kernel_rfl) (hpre ⟨4, .guard⟩ (by simp) rfl) rfl ?_; have e0 := hF.was 0 (by kernel_rfl) rfl; have hgoal := hR.go hst HQ18 5 rfl; clear hF hpre hl hR; go_simp; exact ⟨_, rfl, hgoal _ _ (Below.refl _ _) rfl⟩
            | 6, ho =>
              simp at ho; subst ho; refine step_gd hF hR.2 HQ18 (j := 4) (b := true) rfl rfl (by kernel_rfl) (hpre ⟨4, .guard⟩ (by simp) rfl) rfl ?_; have e109 := hF.gv hR.2 HQ18 5 rfl (hpre ⟨5, .data⟩ (by simp) rfl) rfl; have hgoal := hR.go hst HQ18 6 rfl; clear hF hpre hl hR; go_simp; exact ⟨_, rfl, hgoal _ _ (Below.refl _ _) rfl⟩
            | 7, ho =>
              simp at ho; subst ho; refine step_gd hF hR.2 HQ18 (j := 4) (b := true) rfl rfl (by kernel_rfl) (hpre ⟨4, .guard⟩ (by simp) rfl) rfl ?_; have e110 := hF.gv hR.2 HQ18 6 rfl (hpre ⟨6, .data⟩ (by simp) rfl) rfl; have hgoal := hR.go hst HQ18 7 rfl; clear hF hpre hl hR; go_simp; exact ⟨_, rfl, hgoal _ _ (Below.refl _ _) rfl⟩
            | 8, ho =>
              simp at ho; subst ho; refine step_gd hF hR.2 HQ18 (j := 4) (b := true) rfl rfl (by kernel_rfl) (hpre ⟨4, .guard⟩ (by simp) rfl) rfl ?_; have e111 := hF.gv hR.2 HQ18 7 rfl (hpre ⟨7, .data⟩ (by simp) rfl) rfl; have hgoal := hR.go hst HQ18 8 rfl; clear hF hpre hl hR; go_simp; exact ⟨_, rfl, hgoal _ _ (Below.refl _ _) rfl⟩
            | 9, ho =>
              simp at ho; subst ho; refine step_gd hF hR.2 HQ18 (j := 4) (b := true) rfl rfl (by kernel_rfl) (hpre ⟨4, .guard⟩ (by simp) rfl) rfl ?_; have e112 := hF.gv hR.2 HQ18 8 rfl (hpre ⟨8, .data⟩ (by simp) rfl) rfl; have hgoal := hR.go hst HQ18 9 rfl; have q0 := cell_keep hR.1 c6; clear hF hpre hl hR; go_simp; exact ⟨_, rfl, hgoal _ _ (Below.refl _ _) rfl⟩
            | 10, ho =>
              simp at ho; subst ho; refine step_gd hF hR.2 HQ18 (j := 4) (b := true) rfl rfl (by kernel_rfl) (hpre ⟨4, .guard⟩ (by simp) rfl) rfl ?_; have e113 := hF.gv hR.2 HQ18 9 rfl (hpre ⟨9, .data⟩ (by simp) rfl) rfl; have hgoal := hR.go hst HQ18 10 rfl; clear hF hpre hl hR; go_simp; exact ⟨_, rfl, hgoal _ _ (Below.refl _ _) rfl⟩
            | 11, ho =>
              simp at ho; subst ho; refine step_plain rfl ?_; have e108 := hF.gv hR.2 HQ18 4 rfl (hpre ⟨4, .data⟩ (by simp) rfl) rfl; have e114 := hF.gv hR.2 HQ18 10 rfl (hpre ⟨10, .data⟩ (by simp) rfl) rfl; have hgoal := hR.go hst HQ18 11 rfl; clear hF hpre hl hR; go_simp; exact ⟨_, rfl, hgoal _ _ (Below.refl _ _) rfl⟩
            | 12, ho =>
              simp at ho; subst ho; refine step_plain rfl ?_; have e115 := hF.gv hR.2 HQ18 11 rfl (hpre ⟨11, .data⟩ (by simp) rfl) rfl; have hgoal := hR.go hst HQ18 12 rfl; clear hF hpre hl hR; go_simp; exact ⟨_, rfl, hgoal _ _ (Below.refl _ _) rfl⟩
            | 13, ho =>
              simp at ho; subst ho; refine step_sk hF hR.2 HQ18 (j := 12) (b := true) rfl rfl (by kernel_rfl) (hpre ⟨12, .guard⟩ (by simp) rfl) rfl (by simp) ?_
              exact ⟨fun _ _ => trivial, hR.go hst HQ18 13 rfl _ _ (Below.refl _ _) rfl⟩
            | 14, ho =>
              simp at ho; subst ho; refine step_sk hF hR.2 HQ18 (j := 12) (b := true) rfl rfl (by kernel_rfl) (hpre ⟨12, .guard⟩ (by simp) rfl) rfl (by simp) ?_
              exact ⟨fun _ _ => trivial, hR.go hst HQ18 14 rfl _ _ (Below.refl _ _) rfl⟩
            | 15, ho =>
              simp at ho; subst ho; refine step_sk hF hR.2 HQ18 (j := 12) (b := true) rfl rfl (by kernel_rfl) (hpre ⟨12, .guard⟩ (by simp) rfl) rfl (by simp) ?_
              exact ⟨fun _ _ => trivial, hR.go hst HQ18 15 rfl _ _ (Below.refl _ _) rfl⟩
            | 16, ho =>
              simp at ho; subst ho; refine step_sk hF hR.2 HQ18 (j := 12) (b := true) rfl rfl (by kernel_rfl) (hpre ⟨12, .guard⟩ (by simp) rfl) rfl (by simp) ?_
              exact ⟨fun _ _ => trivial, hR.go hst HQ18 16 rfl _ _ (Below.refl _ _) rfl⟩
            | 17, ho =>
              simp at ho; subst ho; refine step_sk hF hR.2 HQ18 (j := 12) (b := true) rfl rfl (by kernel_rfl) (hpre ⟨12, .guard⟩ (by simp) rfl) rfl (by simp) ?_
              exact ⟨fun _ _ => trivial, hR.go hst HQ18 17 rfl _ _ (Below.refl _ _) rfl⟩
            | 18, ho =>
              simp at ho; subst ho; refine step_sk hF hR.2 HQ18 (j := 12) (b := true) rfl rfl (by kernel_rfl) (hpre ⟨12, .guard⟩ (by simp) rfl) rfl (by simp) ?_
              exact ⟨fun _ _ => trivial, hR.go hst HQ18 18 rfl _ _ (Below.refl _ _) rfl⟩
            | 19, ho =>
              simp at ho; subst ho; refine step_plain rfl ?_; have e116 := hF.gv hR.2 HQ18 12 rfl (hpre ⟨12, .data⟩ (by simp) rfl) rfl; have e122 := hF.gv hR.2 HQ18 18 rfl (hpre ⟨18, .data⟩ (by simp) rfl) rfl; have hgoal := hR.go hst HQ18 19 rfl; clear hF hpre hl hR; go_simp; exact ⟨_, rfl, hgoal _ _ (Below.refl _ _) rfl⟩
            | 20, ho =>
              simp at ho; subst ho; refine step_plain rfl ?_; have e123 := hF.gv hR.2 HQ18 19 rfl (hpre ⟨19, .data⟩ (by simp) rfl) rfl; have hgoal := hR.go hst HQ18 20 rfl; clear hF hpre hl hR; go_simp; exact ⟨_, rfl, hgoal _ _ (Below.refl _ _) rfl⟩
            | 21, ho =>
              simp at ho; subst ho; refine step_sk hF hR.2 HQ18 (j := 20) (b := true) rfl rfl (by kernel_rfl) (hpre ⟨20, .guard⟩ (by simp) rfl) rfl (by simp) ?_
              exact ⟨fun _ _ => trivial, hR.go hst HQ18 21 rfl _ _ (Below.refl _ _) rfl⟩
            | 22, ho =>
              simp at ho; subst ho; refine step_plain rfl ?_; have e124 := hF.gv hR.2 HQ18 20 rfl (hpre ⟨20, .data⟩ (by simp) rfl) rfl; have e125 := hF.gv hR.2 HQ18 21 rfl (hpre ⟨21, .data⟩ (by simp) rfl) rfl; have hgoal := hR.go hst HQ18 22 rfl; clear hF hpre hl hR; go_simp; exact ⟨_, rfl, hgoal _ _ (Below.refl _ _) rfl⟩
            | 23, ho =>
              simp at ho; subst ho; refine step_plain rfl ?_; have e126 := hF.gv hR.2 HQ18 22 rfl (hpre ⟨22, .data⟩ (by simp) rfl) rfl; have hgoal := hR.go hst HQ18 23 rfl; clear hF hpre hl hR; go_simp; exact ⟨_, rfl, hgoal _ _ (Below.refl _ _) rfl⟩
            | 24, ho =>
              simp at ho; subst ho; refine step_sk hF hR.2 HQ18 (j := 23) (b := true) rfl rfl (by kernel_rfl) (hpre ⟨23, .guard⟩ (by simp) rfl) rfl (by simp) ?_
              exact ⟨fun _ _ => trivial, hR.go hst HQ18 24 rfl _ _ (Below.refl _ _) rfl⟩
            | 25, ho =>
              simp at ho; subst ho; refine step_sk hF hR.2 HQ18 (j := 23) (b := true) rfl rfl (by kernel_rfl) (hpre ⟨23, .guard⟩ (by simp) rfl) rfl (by simp) ?_
              exact ⟨fun _ _ => trivial, hR.go hst HQ18 25 rfl _ _ (Below.refl _ _) rfl⟩
            | 26, ho =>
              simp at ho; subst ho; refine step_sk hF hR.2 HQ18 (j := 23) (b := true) rfl rfl (by kernel_rfl) (hpre ⟨23, .guard⟩ (by simp) rfl) rfl (by simp) ?_
              exact ⟨fun _ _ => trivial, hR.go hst HQ18 26 rfl _ _ (Below.refl _ _) rfl⟩
            | 27, ho =>
              simp at ho; subst ho; refine step_sk hF hR.2 HQ18 (j := 23) (b := true) rfl rfl (by kernel_rfl) (hpre ⟨23, .guard⟩ (by simp) rfl) rfl (by simp) ?_
              exact ⟨fun _ _ => trivial, hR.go hst HQ18 27 rfl _ _ (Below.refl _ _) rfl⟩
            | 28, ho =>
              simp at ho; subst ho; refine step_sk hF hR.2 HQ18 (j := 23) (b := true) rfl rfl (by kernel_rfl) (hpre ⟨23, .guard⟩ (by simp) rfl) rfl (by simp) ?_
              exact ⟨fun _ _ => trivial, hR.go hst HQ18 28 rfl _ _ (Below.refl _ _) rfl⟩
            | 29, ho =>
              simp at ho; subst ho; refine step_sk hF hR.2 HQ18 (j := 23) (b := true) rfl rfl (by kernel_rfl) (hpre ⟨23, .guard⟩ (by simp) rfl) rfl (by simp) ?_
              exact ⟨fun _ _ => trivial, hR.go hst HQ18 29 rfl _ _ (Below.refl _ _) rfl⟩
            | 30, ho =>
              simp at ho; subst ho; refine step_sk hF hR.2 HQ18 (j := 23) (b := true) rfl rfl (by kernel_rfl) (hpre ⟨23, .guard⟩ (by simp) rfl) rfl (by simp) ?_
              exact ⟨fun _ _ => trivial, hR.go hst HQ18 30 rfl _ _ (Below.refl _ _) rfl⟩
            | 31, ho =>
              simp at ho; subst ho; refine step_sk hF hR.2 HQ18 (j := 23) (b := true) rfl rfl (by kernel_rfl) (hpre ⟨23, .guard⟩ (by simp) rfl) rfl (by simp) ?_
              exact ⟨fun _ _ => trivial, hR.go hst HQ18 31 rfl _ _ (Below.refl _ _) rfl⟩
            | 32, ho =>
              simp at ho; subst ho; refine step_sk hF hR.2 HQ18 (j := 23) (b := true) rfl rfl (by kernel_rfl) (hpre ⟨23, .guard⟩ (by simp) rfl) rfl (by simp) ?_
              exact ⟨fun _ _ => trivial, hR.go hst HQ18 32 rfl _ _ (Below.refl _ _) rfl⟩
            | 33, ho =>
              simp at ho; subst ho; refine step_sk hF hR.2 HQ18 (j := 23) (b := true) rfl rfl (by kernel_rfl) (hpre ⟨23, .guard⟩ (by simp) rfl) rfl (by simp) ?_
              exact ⟨fun _ _ => trivial, hR.go hst HQ18 33 rfl _ _ (Below.refl _ _) rfl⟩
            | 34, ho =>
              simp at ho; subst ho; refine step_plain rfl ?_; have e127 := hF.gv hR.2 HQ18 23 rfl (hpre ⟨23, .data⟩ (by simp) rfl) rfl; have e137 := hF.gv hR.2 HQ18 33 rfl (hpre ⟨33, .data⟩ (by simp) rfl) rfl; have hgoal := hR.go hst HQ18 34 rfl; clear hF hpre hl hR; go_simp; exact ⟨_, rfl, hgoal _ _ (Below.refl _ _) rfl⟩
            | 35, ho =>
              simp at ho; subst ho; refine step_plain rfl ?_; have e138 := hF.gv hR.2 HQ18 34 rfl (hpre ⟨34, .data⟩ (by simp) rfl) rfl; have hgoal := hR.go hst HQ18 35 rfl; clear hF hpre hl hR; go_simp; exact ⟨_, rfl, hgoal _ _ (Below.refl _ _) rfl⟩
            | i + 36, ho => simp at ho
          case hend18 =>
            intro val L b' x hF hall hR
            have e := hF.all (by kernel_rfl) hall
            have k1835 := QG.val HQ18 rfl (hR.2 35 (hall 35 (by decide)))
            have hB18 := Lib.hid hR.1
            clear hF hall hR hst HQ18 U182
            subst e
            simp [final, dstOf, List.range, List.range.loop]
            rw [k1835]
            go_wp2
            go_ret
            exact ⟨rfl, HB1.out.trans (hB18.out.mono HB1.out.size)⟩
    · rw [show posB (fun l u => carB X Y V l l y1 y2 u) cable charge ⟨len, wt, since, cyc, cut, true⟩ 4 n = false by unfold posB; simp [g5, show ¬ (1 ≤ n ∧ n ≤ 100000) from g1]]
      have G1 := Lib.hid (show wB 1 100000 [n] = false by rw [wB_one]; simpa using g1)
      have hW1 : WN (w.alloc (.cells #[.int .i64 4, .int .i64 n] 82)) g cable AX nx cx AY ny cy AV nv cv charge ⟨len, wt, since, cyc, cut, true⟩ y1 y2 := h.stay ((Below.refl _ _).alloc (Nat.le_refl _) _)
      have hB1 : Below w.heap.size w (w.alloc (.cells #[.int .i64 4, .int .i64 n] 82)) := (Below.refl _ _).alloc (Nat.le_refl _) _
      have l0 : (w.alloc (.cells #[.int .i64 4, .int .i64 n] 82)).cell? ⟨w.heap.size, 0, none⟩ = some (.int .i64 4) := by rw [cell_newest]; rfl
      have l1 : (w.alloc (.cells #[.int .i64 4, .int .i64 n] 82)).cell? ⟨w.heap.size, 1, none⟩ = some (.int .i64 n) := by rw [cell_newest]; rfl
      have c0 := cellOf (o := 0) hW1 rfl
      have c4 := cellOf (o := 4) hW1 rfl
      have c5 := cellOf (o := 5) hW1 rfl
      have c6 := cellOf (o := 6) hW1 rfl
      have c7 := cellOf (o := 7) hW1 rfl
      have c12 := cellOf (o := 12) hW1 rfl
      have hg := hW1.lt
      have HB1 := Lib.hid hB1
      clear hW1 hB1 h ht
      go_enter Try.func110, Try.ntmps110
      go_upto_region 9 with (fail)
      generalize w.alloc _ = w1 at *
      obtain ⟨QA19, hQA19⟩ : ∃ q9 : Nat → Value → World → Prop, q9 = QG [some (.pointer (some ⟨g, 0, none⟩)), some (.pointer (some ⟨g, 0, none⟩)), some (.pointer (some ⟨g, 12, none⟩)), some (.bool true), some (.bool true), some (.pointer (some ⟨g, 0, none⟩)), some (.pointer (some ⟨g, 0, none⟩)), some (.pointer (some ⟨g, 5, none⟩)), some (.pointer (some ⟨g, 7, none⟩)), some (.int .i64 since), some (.pointer (some ⟨g, 0, none⟩)), some (.pointer (some ⟨g, 0, none⟩)), some (.pointer (some ⟨g, 0, none⟩)), some (.pointer (some ⟨g, 4, none⟩)), some (.int .i64 charge), some (.bool false), some (.bool false), some (.bool false)] (fun _ _ _ => True) := ⟨_, rfl⟩
      have hst : Stays QA19 := by rw [hQA19]; exact QG.stays (fun _ _ _ _ _ _ => trivial)
      have HQA19 := Lib.hid hQA19
      clear hQA19
      refine wpIn_wide.1 (region_inv2 (n := 9) (by kernel_rfl) (RQ QA19 w1) (by kernel_rfl) rfl (RQ.start _ _ _) ?hstepA19 ?hendA19)
      case hstepA19 =>
        intro i' o ho val L b' x9 hF hR hpre hl
        match i', ho with
        | 0, ho =>
          simp at ho; subst ho; refine step_plain rfl ?_; have e0 := hF.was 0 (by kernel_rfl) rfl; have hgoal := hR.go hst HQA19 0 rfl; clear hF hpre hl hR; go_simp; exact ⟨_, rfl, hgoal _ _ (Below.refl _ _) rfl⟩
        | 1, ho =>
          simp at ho; subst ho; refine step_plain rfl ?_; have e87 := hF.gv hR.2 HQA19 0 rfl (hpre ⟨0, .data⟩ (by simp) rfl) rfl; have hgoal := hR.go hst HQA19 1 rfl; clear hF hpre hl hR; go_simp; exact ⟨_, rfl, hgoal _ _ (Below.refl _ _) rfl⟩
        | 2, ho =>
          simp at ho; subst ho; refine step_plain rfl ?_; have e88 := hF.gv hR.2 HQA19 1 rfl (hpre ⟨1, .data⟩ (by simp) rfl) rfl; have hgoal := hR.go hst HQA19 2 rfl; clear hF hpre hl hR; go_simp; exact ⟨_, rfl, hgoal _ _ (Below.refl _ _) rfl⟩
        | 3, ho =>
          simp at ho; subst ho; refine step_plain rfl ?_; have e89 := hF.gv hR.2 HQA19 2 rfl (hpre ⟨2, .data⟩ (by simp) rfl) rfl; have hgoal := hR.go hst HQA19 3 rfl; have q0 := cell_keep hR.1 c12; clear hF hpre hl hR; go_simp; exact ⟨_, rfl, hgoal _ _ (Below.refl _ _) rfl⟩
        | 4, ho =>
          simp at ho; subst ho; refine step_plain rfl ?_; have e90 := hF.gv hR.2 HQA19 3 rfl (hpre ⟨3, .data⟩ (by simp) rfl) rfl; have hgoal := hR.go hst HQA19 4 rfl; clear hF hpre hl hR; go_simp; exact ⟨_, rfl, hgoal _ _ (Below.refl _ _) rfl⟩
        | 5, ho =>
          simp at ho; subst ho; refine step_gd hF hR.2 HQA19 (j := 4) (b := true) rfl rfl (by kernel_rfl) (hpre ⟨4, .guard⟩ (by simp) rfl) rfl ?_; have e0 := hF.was 0 (by kernel_rfl) rfl; have hgoal := hR.go hst HQA19 5 rfl; clear hF hpre hl hR; go_simp; exact ⟨_, rfl, hgoal _ _ (Below.refl _ _) rfl⟩
        | 6, ho =>
          simp at ho; subst ho; refine step_gd hF hR.2 HQA19 (j := 4) (b := true) rfl rfl (by kernel_rfl) (hpre ⟨4, .guard⟩ (by simp) rfl) rfl ?_; have e92 := hF.gv hR.2 HQA19 5 rfl (hpre ⟨5, .data⟩ (by simp) rfl) rfl; have hgoal := hR.go hst HQA19 6 rfl; clear hF hpre hl hR; go_simp; exact ⟨_, rfl, hgoal _ _ (Below.refl _ _) rfl⟩
        | 7, ho =>
          simp at ho; subst ho; refine step_gd hF hR.2 HQA19 (j := 4) (b := true) rfl rfl (by kernel_rfl) (hpre ⟨4, .guard⟩ (by simp) rfl) rfl ?_; have e93 := hF.gv hR.2 HQA19 6 rfl (hpre ⟨6, .data⟩ (by simp) rfl) rfl; have hgoal := hR.go hst HQA19 7 rfl; clear hF hpre hl hR; go_simp; exact ⟨_, rfl, hgoal _ _ (Below.refl _ _) rfl⟩
        | 8, ho =>
          simp at ho; subst ho; refine step_gd hF hR.2 HQA19 (j := 4) (b := true) rfl rfl (by kernel_rfl) (hpre ⟨4, .guard⟩ (by simp) rfl) rfl ?_; have e94 := hF.gv hR.2 HQA19 7 rfl (hpre ⟨7, .data⟩ (by simp) rfl) rfl; have hgoal := hR.go hst HQA19 8 rfl; clear hF hpre hl hR; go_simp; exact ⟨_, rfl, hgoal _ _ (Below.refl _ _) rfl⟩
        | 9, ho =>
          simp at ho; subst ho; refine step_gd hF hR.2 HQA19 (j := 4) (b := true) rfl rfl (by kernel_rfl) (hpre ⟨4, .guard⟩ (by simp) rfl) rfl ?_; have e95 := hF.gv hR.2 HQA19 8 rfl (hpre ⟨8, .data⟩ (by simp) rfl) rfl; have hgoal := hR.go hst HQA19 9 rfl; have q0 := cell_keep hR.1 c7; clear hF hpre hl hR; go_simp; exact ⟨_, rfl, hgoal _ _ (Below.refl _ _) rfl⟩
        | 10, ho =>
          simp at ho; subst ho; refine step_gd hF hR.2 HQA19 (j := 4) (b := true) rfl rfl (by kernel_rfl) (hpre ⟨4, .guard⟩ (by simp) rfl) rfl ?_; have e0 := hF.was 0 (by kernel_rfl) rfl; have hgoal := hR.go hst HQA19 10 rfl; clear hF hpre hl hR; go_simp; exact ⟨_, rfl, hgoal _ _ (Below.refl _ _) rfl⟩
        | 11, ho =>
          simp at ho; subst ho; refine step_gd hF hR.2 HQA19 (j := 4) (b := true) rfl rfl (by kernel_rfl) (hpre ⟨4, .guard⟩ (by simp) rfl) rfl ?_; have e97 := hF.gv hR.2 HQA19 10 rfl (hpre ⟨10, .data⟩ (by simp) rfl) rfl; have hgoal := hR.go hst HQA19 11 rfl; clear hF hpre hl hR; go_simp; exact ⟨_, rfl, hgoal _ _ (Below.refl _ _) rfl⟩
        | 12, ho =>
          simp at ho; subst ho; refine step_gd hF hR.2 HQA19 (j := 4) (b := true) rfl rfl (by kernel_rfl) (hpre ⟨4, .guard⟩ (by simp) rfl) rfl ?_; have e98 := hF.gv hR.2 HQA19 11 rfl (hpre ⟨11, .data⟩ (by simp) rfl) rfl; have hgoal := hR.go hst HQA19 12 rfl; clear hF hpre hl hR; go_simp; exact ⟨_, rfl, hgoal _ _ (Below.refl _ _) rfl⟩
        | 13, ho =>
          simp at ho; subst ho; refine step_gd hF hR.2 HQA19 (j := 4) (b := true) rfl rfl (by kernel_rfl) (hpre ⟨4, .guard⟩ (by simp) rfl) rfl ?_; have e99 := hF.gv hR.2 HQA19 12 rfl (hpre ⟨12, .data⟩ (by simp) rfl) rfl; have hgoal := hR.go hst HQA19 13 rfl; clear hF hpre hl hR; go_simp; exact ⟨_, rfl, hgoal _ _ (Below.refl _ _) rfl⟩
        | 14, ho =>
          simp at ho; subst ho; refine step_gd hF hR.2 HQA19 (j := 4) (b := true) rfl rfl (by kernel_rfl) (hpre ⟨4, .guard⟩ (by simp) rfl) rfl ?_; have e100 := hF.gv hR.2 HQA19 13 rfl (hpre ⟨13, .data⟩ (by simp) rfl) rfl; have hgoal := hR.go hst HQA19 14 rfl; have q0 := cell_keep hR.1 c4; clear hF hpre hl hR; go_simp; exact ⟨_, rfl, hgoal _ _ (Below.refl _ _) rfl⟩
        | 15, ho =>
          simp at ho; subst ho; refine step_gd hF hR.2 HQA19 (j := 4) (b := true) rfl rfl (by kernel_rfl) (hpre ⟨4, .guard⟩ (by simp) rfl) rfl ?_; have e96 := hF.gv hR.2 HQA19 9 rfl (hpre ⟨9, .data⟩ (by simp) rfl) rfl; have e101 := hF.gv hR.2 HQA19 14 rfl (hpre ⟨14, .data⟩ (by simp) rfl) rfl; have hgoal := hR.go hst HQA19 15 rfl; clear hF hpre hl hR; go_simp; exact ⟨_, rfl, hgoal _ _ (Below.refl _ _) rfl⟩
        | 16, ho =>
          simp at ho; subst ho; refine step_plain rfl ?_; have e91 := hF.gv hR.2 HQA19 4 rfl (hpre ⟨4, .data⟩ (by simp) rfl) rfl; have e102 := hF.gv hR.2 HQA19 15 rfl (hpre ⟨15, .data⟩ (by simp) rfl) rfl; have hgoal := hR.go hst HQA19 16 rfl; clear hF hpre hl hR; go_simp; exact ⟨_, rfl, hgoal _ _ (Below.refl _ _) rfl⟩
        | 17, ho =>
          simp at ho; subst ho; refine step_plain rfl ?_; have e103 := hF.gv hR.2 HQA19 16 rfl (hpre ⟨16, .data⟩ (by simp) rfl) rfl; have hgoal := hR.go hst HQA19 17 rfl; clear hF hpre hl hR; go_simp; exact ⟨_, rfl, hgoal _ _ (Below.refl _ _) rfl⟩
        | i + 18, ho => simp at ho
      case hendA19 =>
        intro val L b' x9 hF hall hR
        have e := hF.all (by kernel_rfl) hall
        have kA1917 := QG.val HQA19 rfl (hR.2 17 (hall 17 (by decide)))
        have hBA19 := Lib.hid hR.1
        clear hF hall hR hst HQA19 
        subst e
        simp [final, dstOf, List.range, List.range.loop]
        rw [kA1917]
        have l1 := cell_keep hBA19.out l1
        have c0 := cell_keep hBA19.out c0
        have c5 := cell_keep hBA19.out c5
        have c6 := cell_keep hBA19.out c6
        have hg : g < x9.heap.size := Nat.lt_of_lt_of_le hg hBA19.out.size
        have HB1 := Lib.hid (HB1.out.trans (hBA19.out.mono HB1.out.size))
        go_upto_region 10 with (fail)
        obtain ⟨Q20, hQ20⟩ : ∃ q9 : Nat → Value → World → Prop, q9 = QG [some (.pointer (some ⟨w.heap.size, 1, none⟩)), some (.int .i64 n), none, some (.bool false), some (.bool false), some (undef), some (undef), some (undef), some (undef), some (undef), some (undef), some (.bool false), some (.bool false), some (undef), some (undef), some (undef), some (undef), some (undef), some (undef), some (.bool false), some (.bool false), some (undef), some (.bool false), some (.bool false), some (undef), some (undef), some (undef), some (undef), some (undef), some (undef), some (undef), some (undef), some (undef), some (undef), some (.bool false), some (.bool false)] (fun j0' v0' w0' => (j0' = 2 → QI [n] v0' w0')) := ⟨_, rfl⟩
        have hst : Stays Q20 := by rw [hQ20]; exact QG.stays (fun j v W W' h hb => fun e => (h e).stay hb)
        have U202 := Lib.hid (show ∀ v0' w0', Q20 2 v0' w0' ↔ QI [n] v0' w0' from fun v0' w0' => by rw [hQ20]; exact ⟨fun h => h rfl, fun h => fun _ => h⟩)
        have HQ20 := Lib.hid hQ20
        clear hQ20
        refine wpIn_wide.1 (region_inv2 (n := 9) (by kernel_rfl) (RQ Q20 x9) (by kernel_rfl) rfl (RQ.start _ _ _) ?hstep20 ?hend20)
        case hstep20 =>
          intro i' o ho val L b' x hF hR hpre hl
          match i', ho with
          | 0, ho =>
            simp at ho; subst ho; refine step_plain rfl ?_; have e3 := hF.was 3 (by kernel_rfl) rfl; have hgoal := hR.go hst HQ20 0 rfl; clear hF hpre hl hR; go_simp; exact ⟨_, rfl, hgoal _ _ (Below.refl _ _) rfl⟩
          | 1, ho =>
            simp at ho; subst ho; refine step_plain rfl ?_; have e104 := hF.gv hR.2 HQ20 0 rfl (hpre ⟨0, .data⟩ (by simp) rfl) rfl; have hgoal := hR.go hst HQ20 1 rfl; have q0 := cell_keep hR.1 l1; clear hF hpre hl hR; go_simp; exact ⟨_, rfl, hgoal _ _ (Below.refl _ _) rfl⟩
          | 2, ho =>
            simp at ho; subst ho; refine step_plain rfl ?_; have e105 := hF.gv hR.2 HQ20 1 rfl (hpre ⟨1, .data⟩ (by simp) rfl) rfl
            have hgoal : ∀ v0' w0', Below x.heap.size x w0' → QI [n] v0' w0' → RQ Q20 x9 (upd val 2 v0') (L.setIfInBounds 2 true) w0' := fun v0' w0' hb hq => hR.step hst hb ((U202.out _ _).2 hq)
            have hM := Lib.hid hR.1
            clear hF hpre hl hR; go_simp; exact ⟨_, rfl, hgoal _ _ ((Below.refl _ _).alloc (Nat.le_refl _) _) ⟨_, _, rfl, Nat.le_refl _, (RI.new1 rfl).more (by simp)⟩⟩
          | 3, ho =>
            simp at ho; subst ho; refine step_plain rfl ?_; have e106 := hF.gave 2 rfl (hpre ⟨2, .data⟩ (by simp) rfl) rfl
            have v2 := (U202.out _ _).1 (hR.2 2 (hpre ⟨2, .data⟩ (by simp) rfl))
            have hgoal := hR.go hst HQ20 3 rfl
            have hM := Lib.hid hR.1
            clear hF hpre hl hR
            obtain ⟨A9, c9, h9, _, hr9⟩ := v2
            rw [h9] at e106
            go_simp
            refine ⟨trivial, ?_⟩
            refine CallsIn.mono (callsIn_wide.2 (within_any 1 (100000) _ 1 _ _ [n] _ rfl (le_maxLen (by omega)) hr9)) ?_
            rintro e w9 ⟨rfl, rfl⟩
            exact ⟨_, rfl, hgoal _ _ (Below.refl _ _) (by rw [G1.out])⟩
          | 4, ho =>
            simp at ho; subst ho; refine step_plain rfl ?_; have e107 := hF.gv hR.2 HQ20 3 rfl (hpre ⟨3, .data⟩ (by simp) rfl) rfl; have hgoal := hR.go hst HQ20 4 rfl; clear hF hpre hl hR; go_simp; exact ⟨_, rfl, hgoal _ _ (Below.refl _ _) rfl⟩
          | 5, ho =>
            simp at ho; subst ho; refine step_sk hF hR.2 HQ20 (j := 4) (b := true) rfl rfl (by kernel_rfl) (hpre ⟨4, .guard⟩ (by simp) rfl) rfl (by simp) ?_
            exact ⟨fun _ _ => trivial, hR.go hst HQ20 5 rfl _ _ (Below.refl _ _) rfl⟩
          | 6, ho =>
            simp at ho; subst ho; refine step_sk hF hR.2 HQ20 (j := 4) (b := true) rfl rfl (by kernel_rfl) (hpre ⟨4, .guard⟩ (by simp) rfl) rfl (by simp) ?_
            exact ⟨fun _ _ => trivial, hR.go hst HQ20 6 rfl _ _ (Below.refl _ _) rfl⟩
          | 7, ho =>
            simp at ho; subst ho; refine step_sk hF hR.2 HQ20 (j := 4) (b := true) rfl rfl (by kernel_rfl) (hpre ⟨4, .guard⟩ (by simp) rfl) rfl (by simp) ?_
            exact ⟨fun _ _ => trivial, hR.go hst HQ20 7 rfl _ _ (Below.refl _ _) rfl⟩
          | 8, ho =>
            simp at ho; subst ho; refine step_sk hF hR.2 HQ20 (j := 4) (b := true) rfl rfl (by kernel_rfl) (hpre ⟨4, .guard⟩ (by simp) rfl) rfl (by simp) ?_
            exact ⟨fun _ _ => trivial, hR.go hst HQ20 8 rfl _ _ (Below.refl _ _) rfl⟩
          | 9, ho =>
            simp at ho; subst ho; refine step_sk hF hR.2 HQ20 (j := 4) (b := true) rfl rfl (by kernel_rfl) (hpre ⟨4, .guard⟩ (by simp) rfl) rfl (by simp) ?_
            exact ⟨fun _ _ => trivial, hR.go hst HQ20 9 rfl _ _ (Below.refl _ _) rfl⟩
          | 10, ho =>
            simp at ho; subst ho; refine step_sk hF hR.2 HQ20 (j := 4) (b := true) rfl rfl (by kernel_rfl) (hpre ⟨4, .guard⟩ (by simp) rfl) rfl (by simp) ?_
            exact ⟨fun _ _ => trivial, hR.go hst HQ20 10 rfl _ _ (Below.refl _ _) rfl⟩
          | 11, ho =>
            simp at ho; subst ho; refine step_plain rfl ?_; have e108 := hF.gv hR.2 HQ20 4 rfl (hpre ⟨4, .data⟩ (by simp) rfl) rfl; have e114 := hF.gv hR.2 HQ20 10 rfl (hpre ⟨10, .data⟩ (by simp) rfl) rfl; have hgoal := hR.go hst HQ20 11 rfl; clear hF hpre hl hR; go_simp; exact ⟨_, rfl, hgoal _ _ (Below.refl _ _) rfl⟩
          | 12, ho =>
            simp at ho; subst ho; refine step_plain rfl ?_; have e115 := hF.gv hR.2 HQ20 11 rfl (hpre ⟨11, .data⟩ (by simp) rfl) rfl; have hgoal := hR.go hst HQ20 12 rfl; clear hF hpre hl hR; go_simp; exact ⟨_, rfl, hgoal _ _ (Below.refl _ _) rfl⟩
          | 13, ho =>
            simp at ho; subst ho; refine step_sk hF hR.2 HQ20 (j := 12) (b := true) rfl rfl (by kernel_rfl) (hpre ⟨12, .guard⟩ (by simp) rfl) rfl (by simp) ?_
            exact ⟨fun _ _ => trivial, hR.go hst HQ20 13 rfl _ _ (Below.refl _ _) rfl⟩
          | 14, ho =>
            simp at ho; subst ho; refine step_sk hF hR.2 HQ20 (j := 12) (b := true) rfl rfl (by kernel_rfl) (hpre ⟨12, .guard⟩ (by simp) rfl) rfl (by simp) ?_
            exact ⟨fun _ _ => trivial, hR.go hst HQ20 14 rfl _ _ (Below.refl _ _) rfl⟩
          | 15, ho =>
            simp at ho; subst ho; refine step_sk hF hR.2 HQ20 (j := 12) (b := true) rfl rfl (by kernel_rfl) (hpre ⟨12, .guard⟩ (by simp) rfl) rfl (by simp) ?_
            exact ⟨fun _ _ => trivial, hR.go hst HQ20 15 rfl _ _ (Below.refl _ _) rfl⟩
          | 16, ho =>
            simp at ho; subst ho; refine step_sk hF hR.2 HQ20 (j := 12) (b := true) rfl rfl (by kernel_rfl) (hpre ⟨12, .guard⟩ (by simp) rfl) rfl (by simp) ?_
            exact ⟨fun _ _ => trivial, hR.go hst HQ20 16 rfl _ _ (Below.refl _ _) rfl⟩
          | 17, ho =>
            simp at ho; subst ho; refine step_sk hF hR.2 HQ20 (j := 12) (b := true) rfl rfl (by kernel_rfl) (hpre ⟨12, .guard⟩ (by simp) rfl) rfl (by simp) ?_
            exact ⟨fun _ _ => trivial, hR.go hst HQ20 17 rfl _ _ (Below.refl _ _) rfl⟩
          | 18, ho =>
            simp at ho; subst ho; refine step_sk hF hR.2 HQ20 (j := 12) (b := true) rfl rfl (by kernel_rfl) (hpre ⟨12, .guard⟩ (by simp) rfl) rfl (by simp) ?_
            exact ⟨fun _ _ => trivial, hR.go hst HQ20 18 rfl _ _ (Below.refl _ _) rfl⟩
          | 19, ho =>
            simp at ho; subst ho; refine step_plain rfl ?_; have e116 := hF.gv hR.2 HQ20 12 rfl (hpre ⟨12, .data⟩ (by simp) rfl) rfl; have e122 := hF.gv hR.2 HQ20 18 rfl (hpre ⟨18, .data⟩ (by simp) rfl) rfl; have hgoal := hR.go hst HQ20 19 rfl; clear hF hpre hl hR; go_simp; exact ⟨_, rfl, hgoal _ _ (Below.refl _ _) rfl⟩
          | 20, ho =>
            simp at ho; subst ho; refine step_plain rfl ?_; have e123 := hF.gv hR.2 HQ20 19 rfl (hpre ⟨19, .data⟩ (by simp) rfl) rfl; have hgoal := hR.go hst HQ20 20 rfl; clear hF hpre hl hR; go_simp; exact ⟨_, rfl, hgoal _ _ (Below.refl _ _) rfl⟩
          | 21, ho =>
            simp at ho; subst ho; refine step_sk hF hR.2 HQ20 (j := 20) (b := true) rfl rfl (by kernel_rfl) (hpre ⟨20, .guard⟩ (by simp) rfl) rfl (by simp) ?_
            exact ⟨fun _ _ => trivial, hR.go hst HQ20 21 rfl _ _ (Below.refl _ _) rfl⟩
          | 22, ho =>
            simp at ho; subst ho; refine step_plain rfl ?_; have e124 := hF.gv hR.2 HQ20 20 rfl (hpre ⟨20, .data⟩ (by simp) rfl) rfl; have e125 := hF.gv hR.2 HQ20 21 rfl (hpre ⟨21, .data⟩ (by simp) rfl) rfl; have hgoal := hR.go hst HQ20 22 rfl; clear hF hpre hl hR; go_simp; exact ⟨_, rfl, hgoal _ _ (Below.refl _ _) rfl⟩
          | 23, ho =>
            simp at ho; subst ho; refine step_plain rfl ?_; have e126 := hF.gv hR.2 HQ20 22 rfl (hpre ⟨22, .data⟩ (by simp) rfl) rfl; have hgoal := hR.go hst HQ20 23 rfl; clear hF hpre hl hR; go_simp; exact ⟨_, rfl, hgoal _ _ (Below.refl _ _) rfl⟩
          | 24, ho =>
            simp at ho; subst ho; refine step_sk hF hR.2 HQ20 (j := 23) (b := true) rfl rfl (by kernel_rfl) (hpre ⟨23, .guard⟩ (by simp) rfl) rfl (by simp) ?_
            exact ⟨fun _ _ => trivial, hR.go hst HQ20 24 rfl _ _ (Below.refl _ _) rfl⟩
          | 25, ho =>
            simp at ho; subst ho; refine step_sk hF hR.2 HQ20 (j := 23) (b := true) rfl rfl (by kernel_rfl) (hpre ⟨23, .guard⟩ (by simp) rfl) rfl (by simp) ?_
            exact ⟨fun _ _ => trivial, hR.go hst HQ20 25 rfl _ _ (Below.refl _ _) rfl⟩
          | 26, ho =>
            simp at ho; subst ho; refine step_sk hF hR.2 HQ20 (j := 23) (b := true) rfl rfl (by kernel_rfl) (hpre ⟨23, .guard⟩ (by simp) rfl) rfl (by simp) ?_
            exact ⟨fun _ _ => trivial, hR.go hst HQ20 26 rfl _ _ (Below.refl _ _) rfl⟩
          | 27, ho =>
            simp at ho; subst ho; refine step_sk hF hR.2 HQ20 (j := 23) (b := true) rfl rfl (by kernel_rfl) (hpre ⟨23, .guard⟩ (by simp) rfl) rfl (by simp) ?_
            exact ⟨fun _ _ => trivial, hR.go hst HQ20 27 rfl _ _ (Below.refl _ _) rfl⟩
          | 28, ho =>
            simp at ho; subst ho; refine step_sk hF hR.2 HQ20 (j := 23) (b := true) rfl rfl (by kernel_rfl) (hpre ⟨23, .guard⟩ (by simp) rfl) rfl (by simp) ?_
            exact ⟨fun _ _ => trivial, hR.go hst HQ20 28 rfl _ _ (Below.refl _ _) rfl⟩
          | 29, ho =>
            simp at ho; subst ho; refine step_sk hF hR.2 HQ20 (j := 23) (b := true) rfl rfl (by kernel_rfl) (hpre ⟨23, .guard⟩ (by simp) rfl) rfl (by simp) ?_
            exact ⟨fun _ _ => trivial, hR.go hst HQ20 29 rfl _ _ (Below.refl _ _) rfl⟩
          | 30, ho =>
            simp at ho; subst ho; refine step_sk hF hR.2 HQ20 (j := 23) (b := true) rfl rfl (by kernel_rfl) (hpre ⟨23, .guard⟩ (by simp) rfl) rfl (by simp) ?_
            exact ⟨fun _ _ => trivial, hR.go hst HQ20 30 rfl _ _ (Below.refl _ _) rfl⟩
          | 31, ho =>
            simp at ho; subst ho; refine step_sk hF hR.2 HQ20 (j := 23) (b := true) rfl rfl (by kernel_rfl) (hpre ⟨23, .guard⟩ (by simp) rfl) rfl (by simp) ?_
            exact ⟨fun _ _ => trivial, hR.go hst HQ20 31 rfl _ _ (Below.refl _ _) rfl⟩
          | 32, ho =>
            simp at ho; subst ho; refine step_sk hF hR.2 HQ20 (j := 23) (b := true) rfl rfl (by kernel_rfl) (hpre ⟨23, .guard⟩ (by simp) rfl) rfl (by simp) ?_
            exact ⟨fun _ _ => trivial, hR.go hst HQ20 32 rfl _ _ (Below.refl _ _) rfl⟩
          | 33, ho =>
            simp at ho; subst ho; refine step_sk hF hR.2 HQ20 (j := 23) (b := true) rfl rfl (by kernel_rfl) (hpre ⟨23, .guard⟩ (by simp) rfl) rfl (by simp) ?_
            exact ⟨fun _ _ => trivial, hR.go hst HQ20 33 rfl _ _ (Below.refl _ _) rfl⟩
          | 34, ho =>
            simp at ho; subst ho; refine step_plain rfl ?_; have e127 := hF.gv hR.2 HQ20 23 rfl (hpre ⟨23, .data⟩ (by simp) rfl) rfl; have e137 := hF.gv hR.2 HQ20 33 rfl (hpre ⟨33, .data⟩ (by simp) rfl) rfl; have hgoal := hR.go hst HQ20 34 rfl; clear hF hpre hl hR; go_simp; exact ⟨_, rfl, hgoal _ _ (Below.refl _ _) rfl⟩
          | 35, ho =>
            simp at ho; subst ho; refine step_plain rfl ?_; have e138 := hF.gv hR.2 HQ20 34 rfl (hpre ⟨34, .data⟩ (by simp) rfl) rfl; have hgoal := hR.go hst HQ20 35 rfl; clear hF hpre hl hR; go_simp; exact ⟨_, rfl, hgoal _ _ (Below.refl _ _) rfl⟩
          | i + 36, ho => simp at ho
        case hend20 =>
          intro val L b' x hF hall hR
          have e := hF.all (by kernel_rfl) hall
          have k2035 := QG.val HQ20 rfl (hR.2 35 (hall 35 (by decide)))
          have hB20 := Lib.hid hR.1
          clear hF hall hR hst HQ20 U202
          subst e
          simp [final, dstOf, List.range, List.range.loop]
          rw [k2035]
          go_wp2
          go_ret
          exact ⟨rfl, HB1.out.trans (hB20.out.mono HB1.out.size)⟩

end
end Go.Proofs.Ytnnmmojlgikdgaa

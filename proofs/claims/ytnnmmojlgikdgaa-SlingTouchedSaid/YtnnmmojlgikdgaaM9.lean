/- Contracts of the functions that the statement reaches: JPos5, JPos, JKept. -/
import Derived.Test.YtnnmmojlgikdgaaM5
import Derived.Test.YtnnmmojlgikdgaaM7
import Derived.Test.YtnnmmojlgikdgaaM8

/- The winch: what is possible. -/
namespace Go.Proofs.Ytnnmmojlgikdgaa
open Go.RowKit

section
variable (g : Nat) (cable charge y1 y2 len wt since cyc : Int) (cut tch : Bool) (k n : Int) (AX AY AV : Option Addr) (nx cx ny cy nv cv B : Nat) (X Y : List Int) (V : List (List Int)) (w : World)

set_option maxRecDepth 100000 in
set_option maxHeartbeats 8000000 in
theorem possible4_false (ht : HT w B AX AY AV nx ny nv X Y V) (h : WN w g cable AX nx cx AY ny cy AV nv cv charge ⟨len, wt, since, cyc, cut, false⟩ y1 y2) (_z0 : 0 ≤ len) (_z1 : len ≤ cable) (_z2 : cable ≤ 100) :
    Calls Try.prog 110 #[.pointer (some ⟨g, 0, none⟩), .agg #[.int .i64 4, .int .i64 n]] w fun e w' => e = .returned (.bool (posB (fun l u => carB X Y V l l y1 y2 u) cable charge ⟨len, wt, since, cyc, cut, false⟩ 4 n)) ∧ Below w.heap.size w w' := by
  have HAL := Lib.hid alone_any
  have HCA := Lib.hid (fun (W : World) (hW : Below w.heap.size w W) (a : Int) (u : Int) => carries_any g cable charge y1 y2 a a u ⟨len, wt, since, cyc, cut, false⟩ AX AY AV nx cx ny cy nv cv B X Y V W (ht.below hW) (h.stay hW))
  by_cases g1 : 1 ≤ n ∧ n ≤ 100000
  · by_cases g2 : wt = 0
    · subst g2
      by_cases g3 : 0 < len
      · rw [show posB (fun l u => carB X Y V l l y1 y2 u) cable charge ⟨len, 0, since, cyc, cut, false⟩ 4 n = false by unfold posB; simp [g1, g3]]
        have G1 := Lib.hid (show wB 1 100000 [n] = true by rw [wB_one]; simpa using g1)
        have hW1 : WN (w.alloc (.cells #[.int .i64 4, .int .i64 n] 82)) g cable AX nx cx AY ny cy AV nv cv charge ⟨len, 0, since, cyc, cut, false⟩ y1 y2 := h.stay ((Below.refl _ _).alloc (Nat.le_refl _) _)
        have hB1 : Below w.heap.size w (w.alloc (.cells #[.int .i64 4, .int .i64 n] 82)) := (Below.refl _ _).alloc (Nat.le_refl _) _
        have l0 : (w.alloc (.cells #[.int .i64 4, .int .i64 n] 82)).cell? ⟨w.heap.size, 0, none⟩ = some (.int .i64 4) := by rw [cell_newest]; rfl
        have l1 : (w.alloc (.cells #[.int .i64 4, .int .i64 n] 82)).cell? ⟨w.heap.size, 1, none⟩ = some (.int .i64 n) := by rw [cell_newest]; rfl
        have c0 := cellOf (o := 0) hW1 rfl
        have c4 := cellOf (o := 4) hW1 rfl
        have c5 := cellOf (o := 5) hW1 rfl
        have c6 := cellOf (o := 6) hW1 rfl
        have c7 := cellOf (o := 7) hW1 rfl
        have c12 := cellOf (o := 12) hW1 rfl
        have hg := hW1.lt
        have HB1 := Lib.hid hB1
        clear hW1 hB1 h ht
        go_enter Try.func110, Try.ntmps110
        go_upto_region 9 with (fail)
        generalize w.alloc _ = w1 at *
        obtain ⟨QA21, hQA21⟩ : ∃ q9 : Nat → Value → World → Prop, q9 = QG [some (.pointer (some ⟨g, 0, none⟩)), some (.pointer (some ⟨g, 0, none⟩)), some (.pointer (some ⟨g, 12, none⟩)), some (.bool false), some (.bool false), some (undef), some (undef), some (undef), some (undef), some (undef), some (undef), some (undef), some (undef), some (undef), some (undef), some (undef), some (.bool false), some (.bool false)] (fun _ _ _ => True) := ⟨_, rfl⟩
        have hst : Stays QA21 := by rw [hQA21]; exact QG.stays (fun _ _ _ _ _ _ => trivial)
        have HQA21 := Lib.hid hQA21
        clear hQA21
        refine wpIn_wide.1 (region_inv2 (n := 9) (by kernel_rfl) (RQ QA21 w1) (by kernel_rfl) rfl (RQ.start _ _ _) ?hstepA21 ?hendA21)
        case hstepA21 =>
          intro i' o ho val L b' x9 hF hR hpre hl
          match i', ho with
          | 0, ho =>
            simp at ho; subst ho; refine step_plain rfl ?_; have e0 := hF.was 0 (by kernel_rfl) rfl; have hgoal := hR.go hst HQA21 0 rfl; clear hF hpre hl hR; go_simp; exact ⟨_, rfl, hgoal _ _ (Below.refl _ _) rfl⟩
          | 1, ho =>
            simp at ho; subst ho; refine step_plain rfl ?_; have e87 := hF.gv hR.2 HQA21 0 rfl (hpre ⟨0, .data⟩ (by simp) rfl) rfl; have hgoal := hR.go hst HQA21 1 rfl; clear hF hpre hl hR; go_simp; exact ⟨_, rfl, hgoal _ _ (Below.refl _ _) rfl⟩
          | 2, ho =>
            simp at ho; subst ho; refine step_plain rfl ?_; have e88 := hF.gv hR.2 HQA21 1 rfl (hpre ⟨1, .data⟩ (by simp) rfl) rfl; have hgoal := hR.go hst HQA21 2 rfl; clear hF hpre hl hR; go_simp; exact ⟨_, rfl, hgoal _ _ (Below.refl _ _) rfl⟩
          | 3, ho =>
            simp at ho; subst ho; refine step_plain rfl ?_; have e89 := hF.gv hR.2 HQA21 2 rfl (hpre ⟨2, .data⟩ (by simp) rfl) rfl; have hgoal := hR.go hst HQA21 3 rfl; have q0 := cell_keep hR.1 c12; clear hF hpre hl hR; go_simp; exact ⟨_, rfl, hgoal _ _ (Below.refl _ _) rfl⟩
          | 4, ho =>
            simp at ho; subst ho; refine step_plain rfl ?_; have e90 := hF.gv hR.2 HQA21 3 rfl (hpre ⟨3, .data⟩ (by simp) rfl) rfl; have hgoal := hR.go hst HQA21 4 rfl; clear hF hpre hl hR; go_simp; exact ⟨_, rfl, hgoal _ _ (Below.refl _ _) rfl⟩
          | 5, ho =>
            simp at ho; subst ho; refine step_sk hF hR.2 HQA21 (j := 4) (b := true) rfl rfl (by kernel_rfl) (hpre ⟨4, .guard⟩ (by simp) rfl) rfl (by simp) ?_
            exact ⟨fun _ _ => trivial, hR.go hst HQA21 5 rfl _ _ (Below.refl _ _) rfl⟩
          | 6, ho =>
            simp at ho; subst ho; refine step_sk hF hR.2 HQA21 (j := 4) (b := true) rfl rfl (by kernel_rfl) (hpre ⟨4, .guard⟩ (by simp) rfl) rfl (by simp) ?_
            exact ⟨fun _ _ => trivial, hR.go hst HQA21 6 rfl _ _ (Below.refl _ _) rfl⟩
          | 7, ho =>
            simp at ho; subst ho; refine step_sk hF hR.2 HQA21 (j := 4) (b := true) rfl rfl (by kernel_rfl) (hpre ⟨4, .guard⟩ (by simp) rfl) rfl (by simp) ?_
            exact ⟨fun _ _ => trivial, hR.go hst HQA21 7 rfl _ _ (Below.refl _ _) rfl⟩
          | 8, ho =>
            simp at ho; subst ho; refine step_sk hF hR.2 HQA21 (j := 4) (b := true) rfl rfl (by kernel_rfl) (hpre ⟨4, .guard⟩ (by simp) rfl) rfl (by simp) ?_
            exact ⟨fun _ _ => trivial, hR.go hst HQA21 8 rfl _ _ (Below.refl _ _) rfl⟩
          | 9, ho =>
            simp at ho; subst ho; refine step_sk hF hR.2 HQA21 (j := 4) (b := true) rfl rfl (by kernel_rfl) (hpre ⟨4, .guard⟩ (by simp) rfl) rfl (by simp) ?_
            exact ⟨fun _ _ => trivial, hR.go hst HQA21 9 rfl _ _ (Below.refl _ _) rfl⟩
          | 10, ho =>
            simp at ho; subst ho; refine step_sk hF hR.2 HQA21 (j := 4) (b := true) rfl rfl (by kernel_rfl) (hpre ⟨4, .guard⟩ (by simp) rfl) rfl (by simp) ?_
            exact ⟨fun _ _ => trivial, hR.go hst HQA21 10 rfl _ _ (Below.refl _ _) rfl⟩
          | 11, ho =>
            simp at ho; subst ho; refine step_sk hF hR.2 HQA21 (j := 4) (b := true) rfl rfl (by kernel_rfl) (hpre ⟨4, .guard⟩ (by simp) rfl) rfl (by simp) ?_
            exact ⟨fun _ _ => trivial, hR.go hst HQA21 11 rfl _ _ (Below.refl _ _) rfl⟩
          | 12, ho =>
            simp at ho; subst ho; refine step_sk hF hR.2 HQA21 (j := 4) (b := true) rfl rfl (by kernel_rfl) (hpre ⟨4, .guard⟩ (by simp) rfl) rfl (by simp) ?_
            exact ⟨fun _ _ => trivial, hR.go hst HQA21 12 rfl _ _ (Below.refl _ _) rfl⟩
          | 13, ho =>
            simp at ho; subst ho; refine step_sk hF hR.2 HQA21 (j := 4) (b := true) rfl rfl (by kernel_rfl) (hpre ⟨4, .guard⟩ (by simp) rfl) rfl (by simp) ?_
            exact ⟨fun _ _ => trivial, hR.go hst HQA21 13 rfl _ _ (Below.refl _ _) rfl⟩
          | 14, ho =>
            simp at ho; subst ho; refine step_sk hF hR.2 HQA21 (j := 4) (b := true) rfl rfl (by kernel_rfl) (hpre ⟨4, .guard⟩ (by simp) rfl) rfl (by simp) ?_
            exact ⟨fun _ _ => trivial, hR.go hst HQA21 14 rfl _ _ (Below.refl _ _) rfl⟩
          | 15, ho =>
            simp at ho; subst ho; refine step_sk hF hR.2 HQA21 (j := 4) (b := true) rfl rfl (by kernel_rfl) (hpre ⟨4, .guard⟩ (by simp) rfl) rfl (by simp) ?_
            exact ⟨fun _ _ => trivial, hR.go hst HQA21 15 rfl _ _ (Below.refl _ _) rfl⟩
          | 16, ho =>
            simp at ho; subst ho; refine step_plain rfl ?_; have e91 := hF.gv hR.2 HQA21 4 rfl (hpre ⟨4, .data⟩ (by simp) rfl) rfl; have e102 := hF.gv hR.2 HQA21 15 rfl (hpre ⟨15, .data⟩ (by simp) rfl) rfl; have hgoal := hR.go hst HQA21 16 rfl; clear hF hpre hl hR; go_simp; exact ⟨_, rfl, hgoal _ _ (Below.refl _ _) rfl⟩
          | 17, ho =>
            simp at ho; subst ho; refine step_plain rfl ?_; have e103 := hF.gv hR.2 HQA21 16 rfl (hpre ⟨16, .data⟩ (by simp) rfl) rfl; have hgoal := hR.go hst HQA21 17 rfl; clear hF hpre hl hR; go_simp; exact ⟨_, rfl, hgoal _ _ (Below.refl _ _) rfl⟩
          | i + 18, ho => simp at ho
        case hendA21 =>
          intro val L b' x9 hF hall hR
          have e := hF.all (by kernel_rfl) hall
          have kA2117 := QG.val HQA21 rfl (hR.2 17 (hall 17 (by decide)))
          have hBA21 := Lib.hid hR.1
          clear hF hall hR hst HQA21 
          subst e
          simp [final, dstOf, List.range, List.range.loop]
          rw [kA2117]
          have l1 := cell_keep hBA21.out l1
          have c0 := cell_keep hBA21.out c0
          have c5 := cell_keep hBA21.out c5
          have c6 := cell_keep hBA21.out c6
          have hg : g < x9.heap.size := Nat.lt_of_lt_of_le hg hBA21.out.size
          have HB1 := Lib.hid (HB1.out.trans (hBA21.out.mono HB1.out.size))
          go_upto_region 10 with (fail)
          obtain ⟨Q22, hQ22⟩ : ∃ q9 : Nat → Value → World → Prop, q9 = QG [some (.pointer (some ⟨w.heap.size, 1, none⟩)), some (.int .i64 n), none, some (.bool true), some (.bool true), some (.pointer (some ⟨g, 0, none⟩)), some (.pointer (some ⟨g, 0, none⟩)), some (.pointer (some ⟨g, 5, none⟩)), some (.pointer (some ⟨g, 6, none⟩)), some (.int .i64 0), some (.bool true), some (.bool true), some (.bool true), some (.pointer (some ⟨g, 0, none⟩)), some (.pointer (some ⟨g, 0, none⟩)), some (.pointer (some ⟨g, 5, none⟩)), some (.pointer (some ⟨g, 5, none⟩)), some (.int .i64 len), some (.bool true), some (.bool true), some (.bool true), some (.bool false), some (.bool false), some (.bool false), some (undef), some (undef), some (undef), some (undef), some (undef), some (undef), some (undef), some (undef), some (undef), some (undef), some (.bool false), some (.bool false)] (fun j0' v0' w0' => (j0' = 2 → QI [n] v0' w0')) := ⟨_, rfl⟩
          have hst : Stays Q22 := by rw [hQ22]; exact QG.stays (fun j v W W' h hb => fun e => (h e).stay hb)
          have U222 := Lib.hid (show ∀ v0' w0', Q22 2 v0' w0' ↔ QI [n] v0' w0' from fun v0' w0' => by rw [hQ22]; exact ⟨fun h => h rfl, fun h => fun _ => h⟩)
          have HQ22 := Lib.hid hQ22
          clear hQ22
          refine wpIn_wide.1 (region_inv2 (n := 9) (by kernel_rfl) (RQ Q22 x9) (by kernel_rfl) rfl (RQ.start _ _ _) ?hstep22 ?hend22)
          case hstep22 =>
            intro i' o ho val L b' x hF hR hpre hl
            match i', ho with
            | 0, ho =>
              simp at ho; subst ho; refine step_plain rfl ?_; have e3 := hF.was 3 (by kernel_rfl) rfl; have hgoal := hR.go hst HQ22 0 rfl; clear hF hpre hl hR; go_simp; exact ⟨_, rfl, hgoal _ _ (Below.refl _ _) rfl⟩
            | 1, ho =>
              simp at ho; subst ho; refine step_plain rfl ?_; have e104 := hF.gv hR.2 HQ22 0 rfl (hpre ⟨0, .data⟩ (by simp) rfl) rfl; have hgoal := hR.go hst HQ22 1 rfl; have q0 := cell_keep hR.1 l1; clear hF hpre hl hR; go_simp; exact ⟨_, rfl, hgoal _ _ (Below.refl _ _) rfl⟩
            | 2, ho =>
              simp at ho; subst ho; refine step_plain rfl ?_; have e105 := hF.gv hR.2 HQ22 1 rfl (hpre ⟨1, .data⟩ (by simp) rfl) rfl
              have hgoal : ∀ v0' w0', Below x.heap.size x w0' → QI [n] v0' w0' → RQ Q22 x9 (upd val 2 v0') (L.setIfInBounds 2 true) w0' := fun v0' w0' hb hq => hR.step hst hb ((U222.out _ _).2 hq)
              have hM := Lib.hid hR.1
              clear hF hpre hl hR; go_simp; exact ⟨_, rfl, hgoal _ _ ((Below.refl _ _).alloc (Nat.le_refl _) _) ⟨_, _, rfl, Nat.le_refl _, (RI.new1 rfl).more (by simp)⟩⟩
            | 3, ho =>
              simp at ho; subst ho; refine step_plain rfl ?_; have e106 := hF.gave 2 rfl (hpre ⟨2, .data⟩ (by simp) rfl) rfl
              have v2 := (U222.out _ _).1 (hR.2 2 (hpre ⟨2, .data⟩ (by simp) rfl))
              have hgoal := hR.go hst HQ22 3 rfl
              have hM := Lib.hid hR.1
              clear hF hpre hl hR
              obtain ⟨A9, c9, h9, _, hr9⟩ := v2
              rw [h9] at e106
              go_simp
              refine ⟨trivial, ?_⟩
              refine CallsIn.mono (callsIn_wide.2 (within_any 1 (100000) _ 1 _ _ [n] _ rfl (le_maxLen (by omega)) hr9)) ?_
              rintro e w9 ⟨rfl, rfl⟩
              exact ⟨_, rfl, hgoal _ _ (Below.refl _ _) (by rw [G1.out])⟩
            | 4, ho =>
              simp at ho; subst ho; refine step_plain rfl ?_; have e107 := hF.gv hR.2 HQ22 3 rfl (hpre ⟨3, .data⟩ (by simp) rfl) rfl; have hgoal := hR.go hst HQ22 4 rfl; clear hF hpre hl hR; go_simp; exact ⟨_, rfl, hgoal _ _ (Below.refl _ _) rfl⟩
            | 5, ho =>
              simp at ho; subst ho; refine step_gd hF hR.2 HQ22 (j := 4) (b := true) rfl rfl (by kernel_rfl) (hpre ⟨4, .guard⟩ (by simp) rfl) rfl ?_; have e0 := hF.was 0 (by kernel_rfl) rfl; have hgoal := hR.go hst HQ22 5 rfl; clear hF hpre hl hR; go_simp; exact ⟨_, rfl, hgoal _ _ (Below.refl _ _) rfl⟩
            | 6, ho =>
              simp at ho; subst ho; refine step_gd hF hR.2 HQ22 (j := 4) (b := true) rfl rfl (by kernel_rfl) (hpre ⟨4, .guard⟩ (by simp) rfl) rfl ?_; have e109 := hF.gv hR.2 HQ22 5 rfl (hpre ⟨5, .data⟩ (by simp) rfl) rfl; have hgoal := hR.go hst HQ22 6 rfl; clear hF hpre hl hR; go_simp; exact ⟨_, rfl, hgoal _ _ (Below.refl _ _) rfl⟩
            | 7, ho =>
              simp at ho; subst ho; refine step_gd hF hR.2 HQ22 (j := 4) (b := true) rfl rfl (by kernel_rfl) (hpre ⟨4, .guard⟩ (by simp) rfl) rfl ?_; have e110 := hF.gv hR.2 HQ22 6 rfl (hpre ⟨6, .data⟩ (by simp) rfl) rfl; have hgoal := hR.go hst HQ22 7 rfl; clear hF hpre hl hR; go_simp; exact ⟨_, rfl, hgoal _ _ (Below.refl _ _) rfl⟩
            | 8, ho =>
              simp at ho; subst ho; refine step_gd hF hR.2 HQ22 (j := 4) (b := true) rfl rfl (by kernel_rfl) (hpre ⟨4, .guard⟩ (by simp) rfl) rfl ?_; have e111 := hF.gv hR.2 HQ22 7 rfl (hpre ⟨7, .data⟩ (by simp) rfl) rfl; have hgoal := hR.go hst HQ22 8 rfl; clear hF hpre hl hR; go_simp; exact ⟨_, rfl, hgoal _ _ (Below.refl _ _) rfl⟩
            | 9, ho =>
              simp at ho; subst ho; refine step_gd hF hR.2 HQ22 (j := 4) (b := true) rfl rfl (by kernel_rfl) (hpre ⟨4, .guard⟩ (by simp) rfl) rfl ?_; have e112 := hF.gv hR.2 HQ22 8 rfl (hpre ⟨8, .data⟩ (by simp) rfl) rfl; have hgoal := hR.go hst HQ22 9 rfl; have q0 := cell_keep hR.1 c6; clear hF hpre hl hR; go_simp; exact ⟨_, rfl, hgoal _ _ (Below.refl _ _) rfl⟩
            | 10, ho =>
              simp at ho; subst ho; refine step_gd hF hR.2 HQ22 (j := 4) (b := true) rfl rfl (by kernel_rfl) (hpre ⟨4, .guard⟩ (by simp) rfl) rfl ?_; have e113 := hF.gv hR.2 HQ22 9 rfl (hpre ⟨9, .data⟩ (by simp) rfl) rfl; have hgoal := hR.go hst HQ22 10 rfl; clear hF hpre hl hR; go_simp; exact ⟨_, rfl, hgoal _ _ (Below.refl _ _) rfl⟩
            | 11, ho =>
              simp at ho; subst ho; refine step_plain rfl ?_; have e108 := hF.gv hR.2 HQ22 4 rfl (hpre ⟨4, .data⟩ (by simp) rfl) rfl; have e114 := hF.gv hR.2 HQ22 10 rfl (hpre ⟨10, .data⟩ (by simp) rfl) rfl; have hgoal := hR.go hst HQ22 11 rfl; clear hF hpre hl hR; go_simp; exact ⟨_, rfl, hgoal _ _ (Below.refl _ _) rfl⟩
            | 12, ho =>
              simp at ho; subst ho; refine step_plain rfl ?_; have e115 := hF.gv hR.2 HQ22 11 rfl (hpre ⟨11, .data⟩ (by simp) rfl) rfl; have hgoal := hR.go hst HQ22 12 rfl; clear hF hpre hl hR; go_simp; exact ⟨_, rfl, hgoal _ _ (Below.refl _ _) rfl⟩
            | 13, ho =>
              simp at ho; subst ho; refine step_gd hF hR.2 HQ22 (j := 12) (b := true) rfl rfl (by kernel_rfl) (hpre ⟨12, .guard⟩ (by simp) rfl) rfl ?_; have e0 := hF.was 0 (by kernel_rfl) rfl; have hgoal := hR.go hst HQ22 13 rfl; clear hF hpre hl hR; go_simp; exact ⟨_, rfl, hgoal _ _ (Below.refl _ _) rfl⟩
            | 14, ho =>
              simp at ho; subst ho; refine step_gd hF hR.2 HQ22 (j := 12) (b := true) rfl rfl (by kernel_rfl) (hpre ⟨12, .guard⟩ (by simp) rfl) rfl ?_; have e117 := hF.gv hR.2 HQ22 13 rfl (hpre ⟨13, .data⟩ (by simp) rfl) rfl; have hgoal := hR.go hst HQ22 14 rfl; clear hF hpre hl hR; go_simp; exact ⟨_, rfl, hgoal _ _ (Below.refl _ _) rfl⟩
            | 15, ho =>
              simp at ho; subst ho; refine step_gd hF hR.2 HQ22 (j := 12) (b := true) rfl rfl (by kernel_rfl) (hpre ⟨12, .guard⟩ (by simp) rfl) rfl ?_; have e118 := hF.gv hR.2 HQ22 14 rfl (hpre ⟨14, .data⟩ (by simp) rfl) rfl; have hgoal := hR.go hst HQ22 15 rfl; clear hF hpre hl hR; go_simp; exact ⟨_, rfl, hgoal _ _ (Below.refl _ _) rfl⟩
            | 16, ho =>
              simp at ho; subst ho; refine step_gd hF hR.2 HQ22 (j := 12) (b := true) rfl rfl (by kernel_rfl) (hpre ⟨12, .guard⟩ (by simp) rfl) rfl ?_; have e119 := hF.gv hR.2 HQ22 15 rfl (hpre ⟨15, .data⟩ (by simp) rfl) rfl; have hgoal := hR.go hst HQ22 16 rfl; clear hF hpre hl hR; go_simp; exact ⟨_, rfl, hgoal _ _ (Below.refl _ _) rfl⟩
            | 17, ho =>
              simp at ho; subst ho; refine step_gd hF hR.2 HQ22 (j := 12) (b := true) rfl rfl (by kernel_rfl) (hpre ⟨12, .guard⟩ (by simp) rfl) rfl ?_; have e120 := hF.gv hR.2 HQ22 16 rfl (hpre ⟨16, .data⟩ (by simp) rfl) rfl; have hgoal := hR.go hst HQ22 17 rfl; have q0 := cell_keep hR.1 c5; clear hF hpre hl hR; go_simp; exact ⟨_, rfl, hgoal _ _ (Below.refl _ _) rfl⟩
            | 18, ho =>
              simp at ho; subst ho; refine step_gd hF hR.2 HQ22 (j := 12) (b := true) rfl rfl (by kernel_rfl) (hpre ⟨12, .guard⟩ (by simp) rfl) rfl ?_; have e121 := hF.gv hR.2 HQ22 17 rfl (hpre ⟨17, .data⟩ (by simp) rfl) rfl; have hgoal := hR.go hst HQ22 18 rfl; clear hF hpre hl hR; go_simp; exact ⟨_, rfl, hgoal _ _ (Below.refl _ _) rfl⟩
            | 19, ho =>
              simp at ho; subst ho; refine step_plain rfl ?_; have e116 := hF.gv hR.2 HQ22 12 rfl (hpre ⟨12, .data⟩ (by simp) rfl) rfl; have e122 := hF.gv hR.2 HQ22 18 rfl (hpre ⟨18, .data⟩ (by simp) rfl) rfl; have hgoal := hR.go hst HQ22 19 rfl; clear hF hpre hl hR; go_simp; exact ⟨_, rfl, hgoal _ _ (Below.refl _ _) rfl⟩
            | 20, ho =>
              simp at ho; subst ho; refine step_plain rfl ?_; have e123 := hF.gv hR.2 HQ22 19 rfl (hpre ⟨19, .data⟩ (by simp) rfl) rfl; have hgoal := hR.go hst HQ22 20 rfl; clear hF hpre hl hR; go_simp; exact ⟨_, rfl, hgoal _ _ (Below.refl _ _) rfl⟩
            | 21, ho =>
              simp at ho; subst ho; refine step_gd hF hR.2 HQ22 (j := 20) (b := true) rfl rfl (by kernel_rfl) (hpre ⟨20, .guard⟩ (by simp) rfl) rfl ?_; have e5 := hF.was 5 (by kernel_rfl) rfl; have hgoal := hR.go hst HQ22 21 rfl; clear hF hpre hl hR; go_simp; exact ⟨_, rfl, hgoal _ _ (Below.refl _ _) rfl⟩
            | 22, ho =>
              simp at ho; subst ho; refine step_plain rfl ?_; have e124 := hF.gv hR.2 HQ22 20 rfl (hpre ⟨20, .data⟩ (by simp) rfl) rfl; have e125 := hF.gv hR.2 HQ22 21 rfl (hpre ⟨21, .data⟩ (by simp) rfl) rfl; have hgoal := hR.go hst HQ22 22 rfl; clear hF hpre hl hR; go_simp; exact ⟨_, rfl, hgoal _ _ (Below.refl _ _) rfl⟩
            | 23, ho =>
              simp at ho; subst ho; refine step_plain rfl ?_; have e126 := hF.gv hR.2 HQ22 22 rfl (hpre ⟨22, .data⟩ (by simp) rfl) rfl; have hgoal := hR.go hst HQ22 23 rfl; clear hF hpre hl hR; go_simp; exact ⟨_, rfl, hgoal _ _ (Below.refl _ _) rfl⟩
            | 24, ho =>
              simp at ho; subst ho; refine step_sk hF hR.2 HQ22 (j := 23) (b := true) rfl rfl (by kernel_rfl) (hpre ⟨23, .guard⟩ (by simp) rfl) rfl (by simp) ?_
              exact ⟨fun _ _ => trivial, hR.go hst HQ22 24 rfl _ _ (Below.refl _ _) rfl⟩
            | 25, ho =>
              simp at ho; subst ho; refine step_sk hF hR.2 HQ22 (j := 23) (b := true) rfl rfl (by kernel_rfl) (hpre ⟨23, .guard⟩ (by simp) rfl) rfl (by simp) ?_
              exact ⟨fun _ _ => trivial, hR.go hst HQ22 25 rfl _ _ (Below.refl _ _) rfl⟩
            | 26, ho =>
              simp at ho; subst ho; refine step_sk hF hR.2 HQ22 (j := 23) (b := true) rfl rfl (by kernel_rfl) (hpre ⟨23, .guard⟩ (by simp) rfl) rfl (by simp) ?_
              exact ⟨fun _ _ => trivial, hR.go hst HQ22 26 rfl _ _ (Below.refl _ _) rfl⟩
            | 27, ho =>
              simp at ho; subst ho; refine step_sk hF hR.2 HQ22 (j := 23) (b := true) rfl rfl (by kernel_rfl) (hpre ⟨23, .guard⟩ (by simp) rfl) rfl (by simp) ?_
              exact ⟨fun _ _ => trivial, hR.go hst HQ22 27 rfl _ _ (Below.refl _ _) rfl⟩
            | 28, ho =>
              simp at ho; subst ho; refine step_sk hF hR.2 HQ22 (j := 23) (b := true) rfl rfl (by kernel_rfl) (hpre ⟨23, .guard⟩ (by simp) rfl) rfl (by simp) ?_
              exact ⟨fun _ _ => trivial, hR.go hst HQ22 28 rfl _ _ (Below.refl _ _) rfl⟩
            | 29, ho =>
              simp at ho; subst ho; refine step_sk hF hR.2 HQ22 (j := 23) (b := true) rfl rfl (by kernel_rfl) (hpre ⟨23, .guard⟩ (by simp) rfl) rfl (by simp) ?_
              exact ⟨fun _ _ => trivial, hR.go hst HQ22 29 rfl _ _ (Below.refl _ _) rfl⟩
            | 30, ho =>
              simp at ho; subst ho; refine step_sk hF hR.2 HQ22 (j := 23) (b := true) rfl rfl (by kernel_rfl) (hpre ⟨23, .guard⟩ (by simp) rfl) rfl (by simp) ?_
              exact ⟨fun _ _ => trivial, hR.go hst HQ22 30 rfl _ _ (Below.refl _ _) rfl⟩
            | 31, ho =>
              simp at ho; subst ho; refine step_sk hF hR.2 HQ22 (j := 23) (b := true) rfl rfl (by kernel_rfl) (hpre ⟨23, .guard⟩ (by simp) rfl) rfl (by simp) ?_
              exact ⟨fun _ _ => trivial, hR.go hst HQ22 31 rfl _ _ (Below.refl _ _) rfl⟩
            | 32, ho =>
              simp at ho; subst ho; refine step_sk hF hR.2 HQ22 (j := 23) (b := true) rfl rfl (by kernel_rfl) (hpre ⟨23, .guard⟩ (by simp) rfl) rfl (by simp) ?_
              exact ⟨fun _ _ => trivial, hR.go hst HQ22 32 rfl _ _ (Below.refl _ _) rfl⟩
            | 33, ho =>
              simp at ho; subst ho; refine step_sk hF hR.2 HQ22 (j := 23) (b := true) rfl rfl (by kernel_rfl) (hpre ⟨23, .guard⟩ (by simp) rfl) rfl (by simp) ?_
              exact ⟨fun _ _ => trivial, hR.go hst HQ22 33 rfl _ _ (Below.refl _ _) rfl⟩
            | 34, ho =>
              simp at ho; subst ho; refine step_plain rfl ?_; have e127 := hF.gv hR.2 HQ22 23 rfl (hpre ⟨23, .data⟩ (by simp) rfl) rfl; have e137 := hF.gv hR.2 HQ22 33 rfl (hpre ⟨33, .data⟩ (by simp) rfl) rfl; have hgoal := hR.go hst HQ22 34 rfl; clear hF hpre hl hR; go_simp; exact ⟨_, rfl, hgoal _ _ (Below.refl _ _) rfl⟩
            | 35, ho =>
              simp at ho; subst ho; refine step_plain rfl ?_; have e138 := hF.gv hR.2 HQ22 34 rfl (hpre ⟨34, .data⟩ (by simp) rfl) rfl; have hgoal := hR.go hst HQ22 35 rfl; clear hF hpre hl hR; go_simp; exact ⟨_, rfl, hgoal _ _ (Below.refl _ _) rfl⟩
            | i + 36, ho => simp at ho
          case hend22 =>
            intro val L b' x hF hall hR
            have e := hF.all (by kernel_rfl) hall
            have k2235 := QG.val HQ22 rfl (hR.2 35 (hall 35 (by decide)))
            have hB22 := Lib.hid hR.1
            clear hF hall hR hst HQ22 U222
            subst e
            simp [final, dstOf, List.range, List.range.loop]
            rw [k2235]
            go_wp2
            go_ret
            exact ⟨rfl, HB1.out.trans (hB22.out.mono HB1.out.size)⟩
      · rw [show posB (fun l u => carB X Y V l l y1 y2 u) cable charge ⟨len, 0, since, cyc, cut, false⟩ 4 n = false by unfold posB; simp [g1, g3]]
        have G1 := Lib.hid (show wB 1 100000 [n] = true by rw [wB_one]; simpa using g1)
        have hW1 : WN (w.alloc (.cells #[.int .i64 4, .int .i64 n] 82)) g cable AX nx cx AY ny cy AV nv cv charge ⟨len, 0, since, cyc, cut, false⟩ y1 y2 := h.stay ((Below.refl _ _).alloc (Nat.le_refl _) _)
        have hB1 : Below w.heap.size w (w.alloc (.cells #[.int .i64 4, .int .i64 n] 82)) := (Below.refl _ _).alloc (Nat.le_refl _) _
        have l0 : (w.alloc (.cells #[.int .i64 4, .int .i64 n] 82)).cell? ⟨w.heap.size, 0, none⟩ = some (.int .i64 4) := by rw [cell_newest]; rfl
        have l1 : (w.alloc (.cells #[.int .i64 4, .int .i64 n] 82)).cell? ⟨w.heap.size, 1, none⟩ = some (.int .i64 n) := by rw [cell_newest]; rfl
        have c0 := cellOf (o := 0) hW1 rfl
        have c4 := cellOf (o := 4) hW1 rfl
        have c5 := cellOf (o := 5) hW1 rfl
        have c6 := cellOf (o := 6) hW1 rfl
        have c7 := cellOf (o := 7) hW1 rfl
        have c12 := cellOf (o := 12) hW1 rfl
        have hg := hW1.lt
        have HB1 := Lib.hid hB1
        clear hW1 hB1 h ht
        go_enter Try.func110, Try.ntmps110
        go_upto_region 9 with (fail)
        generalize w.alloc _ = w1 at *
        obtain ⟨QA23, hQA23⟩ : ∃ q9 : Nat → Value → World → Prop, q9 = QG [some (.pointer (some ⟨g, 0, none⟩)), some (.pointer (some ⟨g, 0, none⟩)), some (.pointer (some ⟨g, 12, none⟩)), some (.bool false), some (.bool false), some (undef), some (undef), some (undef), some (undef), some (undef), some (undef), some (undef), some (undef), some (undef), some (undef), some (undef), some (.bool false), some (.bool false)] (fun _ _ _ => True) := ⟨_, rfl⟩
        have hst : Stays QA23 := by rw [hQA23]; exact QG.stays (fun _ _ _ _ _ _ => trivial)
        have HQA23 := Lib.hid hQA23
        clear hQA23
        refine wpIn_wide.1 (region_inv2 (n := 9) (by kernel_rfl) (RQ QA23 w1) (by kernel_rfl) rfl (RQ.start _ _ _) ?hstepA23 ?hendA23)
        case hstepA23 =>
          intro i' o ho val L b' x9 hF hR hpre hl
          match i', ho with
          | 0, ho =>
            simp at ho; subst ho; refine step_plain rfl ?_; have e0 := hF.was 0 (by kernel_rfl) rfl; have hgoal := hR.go hst HQA23 0 rfl; clear hF hpre hl hR; go_simp; exact ⟨_, rfl, hgoal _ _ (Below.refl _ _) rfl⟩
          | 1, ho =>
            simp at ho; subst ho; refine step_plain rfl ?_; have e87 := hF.gv hR.2 HQA23 0 rfl (hpre ⟨0, .data⟩ (by simp) rfl) rfl; have hgoal := hR.go hst HQA23 1 rfl; clear hF hpre hl hR; go_simp; exact ⟨_, rfl, hgoal _ _ (Below.refl _ _) rfl⟩
          | 2, ho =>
            simp at ho; subst ho; refine step_plain rfl ?_; have e88 := hF.gv hR.2 HQA23 1 rfl (hpre ⟨1, .data⟩ (by simp) rfl) rfl; have hgoal := hR.go hst HQA23 2 rfl; clear hF hpre hl hR; go_simp; exact ⟨_, rfl, hgoal _ _ (Below.refl _ _) rfl⟩
          | 3, ho =>
            simp at ho; subst ho; refine step_plain rfl ?_; have e89 := hF.gv hR.2 HQA23 2 rfl (hpre ⟨2, .data⟩ (by simp) rfl) rfl; have hgoal := hR.go hst HQA23 3 rfl; have q0 := cell_keep hR.1 c12; clear hF hpre hl hR; go_simp; exact ⟨_, rfl, hgoal _ _ (Below.refl _ _) rfl⟩
          | 4, ho =>
            simp at ho; subst ho; refine step_plain rfl ?_; have e90 := hF.gv hR.2 HQA23 3 rfl (hpre ⟨3, .data⟩ (by simp) rfl) rfl; have hgoal := hR.go hst HQA23 4 rfl; clear hF hpre hl hR; go_simp; exact ⟨_, rfl, hgoal _ _ (Below.refl _ _) rfl⟩
          | 5, ho =>
            simp at ho; subst ho; refine step_sk hF hR.2 HQA23 (j := 4) (b := true) rfl rfl (by kernel_rfl) (hpre ⟨4, .guard⟩ (by simp) rfl) rfl (by simp) ?_
            exact ⟨fun _ _ => trivial, hR.go hst HQA23 5 rfl _ _ (Below.refl _ _) rfl⟩
          | 6, ho =>
            simp at ho; subst ho; refine step_sk hF hR.2 HQA23 (j := 4) (b := true) rfl rfl (by kernel_rfl) (hpre ⟨4, .guard⟩ (by simp) rfl) rfl (by simp) ?_
            exact ⟨fun _ _ => trivial, hR.go hst HQA23 6 rfl _ _ (Below.refl _ _) rfl⟩
          | 7, ho =>
            simp at ho; subst ho; refine step_sk hF hR.2 HQA23 (j := 4) (b := true) rfl rfl (by kernel_rfl) (hpre ⟨4, .guard⟩ (by simp) rfl) rfl (by simp) ?_
            exact ⟨fun _ _ => trivial, hR.go hst HQA23 7 rfl _ _ (Below.refl _ _) rfl⟩
          | 8, ho =>
            simp at ho; subst ho; refine step_sk hF hR.2 HQA23 (j := 4) (b := true) rfl rfl (by kernel_rfl) (hpre ⟨4, .guard⟩ (by simp) rfl) rfl (by simp) ?_
            exact ⟨fun _ _ => trivial, hR.go hst HQA23 8 rfl _ _ (Below.refl _ _) rfl⟩
          | 9, ho =>
            simp at ho; subst ho; refine step_sk hF hR.2 HQA23 (j := 4) (b := true) rfl rfl (by kernel_rfl) (hpre ⟨4, .guard⟩ (by simp) rfl) rfl (by simp) ?_
            exact ⟨fun _ _ => trivial, hR.go hst HQA23 9 rfl _ _ (Below.refl _ _) rfl⟩
          | 10, ho =>
            simp at ho; subst ho; refine step_sk hF hR.2 HQA23 (j := 4) (b := true) rfl rfl (by kernel_rfl) (hpre ⟨4, .guard⟩ (by simp) rfl) rfl (by simp) ?_
            exact ⟨fun _ _ => trivial, hR.go hst HQA23 10 rfl _ _ (Below.refl _ _) rfl⟩
          | 11, ho =>
            simp at ho; subst ho; refine step_sk hF hR.2 HQA23 (j := 4) (b := true) rfl rfl (by kernel_rfl) (hpre ⟨4, .guard⟩ (by simp) rfl) rfl (by simp) ?_
            exact ⟨fun _ _ => trivial, hR.go hst HQA23 11 rfl _ _ (Below.refl _ _) rfl⟩
          | 12, ho =>
            simp at ho; subst ho; refine step_sk hF hR.2 HQA23 (j := 4) (b := true) rfl rfl (by kernel_rfl) (hpre ⟨4, .guard⟩ (by simp) rfl) rfl (by simp) ?_
            exact ⟨fun _ _ => trivial, hR.go hst HQA23 12 rfl _ _ (Below.refl _ _) rfl⟩
          | 13, ho =>
            simp at ho; subst ho; refine step_sk hF hR.2 HQA23 (j := 4) (b := true) rfl rfl (by kernel_rfl) (hpre ⟨4, .guard⟩ (by simp) rfl) rfl (by simp) ?_
            exact ⟨fun _ _ => trivial, hR.go hst HQA23 13 rfl _ _ (Below.refl _ _) rfl⟩
          | 14, ho =>
            simp at ho; subst ho; refine step_sk hF hR.2 HQA23 (j := 4) (b := true) rfl rfl (by kernel_rfl) (hpre ⟨4, .guard⟩ (by simp) rfl) rfl (by simp) ?_
            exact ⟨fun _ _ => trivial, hR.go hst HQA23 14 rfl _ _ (Below.refl _ _) rfl⟩
          | 15, ho =>
            simp at ho; subst ho; refine step_sk hF hR.2 HQA23 (j := 4) (b := true) rfl rfl (by kernel_rfl) (hpre ⟨4, .guard⟩ (by simp) rfl) rfl (by simp) ?_
            exact ⟨fun _ _ => trivial, hR.go hst HQA23 15 rfl _ _ (Below.refl _ _) rfl⟩
          | 16, ho =>
            simp at ho; subst ho; refine step_plain rfl ?_; have e91 := hF.gv hR.2 HQA23 4 rfl (hpre ⟨4, .data⟩ (by simp) rfl) rfl; have e102 := hF.gv hR.2 HQA23 15 rfl (hpre ⟨15, .data⟩ (by simp) rfl) rfl; have hgoal := hR.go hst HQA23 16 rfl; clear hF hpre hl hR; go_simp; exact ⟨_, rfl, hgoal _ _ (Below.refl _ _) rfl⟩
          | 17, ho =>
            simp at ho; subst ho; refine step_plain rfl ?_; have e103 := hF.gv hR.2 HQA23 16 rfl (hpre ⟨16, .data⟩ (by simp) rfl) rfl; have hgoal := hR.go hst HQA23 17 rfl; clear hF hpre hl hR; go_simp; exact ⟨_, rfl, hgoal _ _ (Below.refl _ _) rfl⟩
          | i + 18, ho => simp at ho
        case hendA23 =>
          intro val L b' x9 hF hall hR
          have e := hF.all (by kernel_rfl) hall
          have kA2317 := QG.val HQA23 rfl (hR.2 17 (hall 17 (by decide)))
          have hBA23 := Lib.hid hR.1
          clear hF hall hR hst HQA23 
          subst e
          simp [final, dstOf, List.range, List.range.loop]
          rw [kA2317]
          have l1 := cell_keep hBA23.out l1
          have c0 := cell_keep hBA23.out c0
          have c5 := cell_keep hBA23.out c5
          have c6 := cell_keep hBA23.out c6
          have hg : g < x9.heap.size := Nat.lt_of_lt_of_le hg hBA23.out.size
          have HB1 := Lib.hid (HB1.out.trans (hBA23.out.mono HB1.out.size))
          go_upto_region 10 with (fail)
          obtain ⟨Q24, hQ24⟩ : ∃ q9 : Nat → Value → World → Prop, q9 = QG [some (.pointer (some ⟨w.heap.size, 1, none⟩)), some (.int .i64 n), none, some (.bool true), some (.bool true), some (.pointer (some ⟨g, 0, none⟩)), some (.pointer (some ⟨g, 0, none⟩)), some (.pointer (some ⟨g, 5, none⟩)), some (.pointer (some ⟨g, 6, none⟩)), some (.int .i64 0), some (.bool true), some (.bool true), some (.bool true), some (.pointer (some ⟨g, 0, none⟩)), some (.pointer (some ⟨g, 0, none⟩)), some (.pointer (some ⟨g, 5, none⟩)), some (.pointer (some ⟨g, 5, none⟩)), some (.int .i64 len), some (.bool false), some (.bool false), some (.bool false), some (undef), some (.bool false), some (.bool false), some (undef), some (undef), some (undef), some (undef), some (undef), some (undef), some (undef), some (undef), some (undef), some (undef), some (.bool false), some (.bool false)] (fun j0' v0' w0' => (j0' = 2 → QI [n] v0' w0')) := ⟨_, rfl⟩
          have hst : Stays Q24 := by rw [hQ24]; exact QG.stays (fun j v W W' h hb => fun e => (h e).stay hb)
          have U242 := Lib.hid (show ∀ v0' w0', Q24 2 v0' w0' ↔ QI [n] v0' w0' from fun v0' w0' => by rw [hQ24]; exact ⟨fun h => h rfl, fun h => fun _ => h⟩)
          have HQ24 := Lib.hid hQ24
          clear hQ24
          refine wpIn_wide.1 (region_inv2 (n := 9) (by kernel_rfl) (RQ Q24 x9) (by kernel_rfl) rfl (RQ.start _ _ _) ?hstep24 ?hend24)
          case hstep24 =>
            intro i' o ho val L b' x hF hR hpre hl
            match i', ho with
            | 0, ho =>
              simp at ho; subst ho; refine step_plain rfl ?_; have e3 := hF.was 3 (by kernel_rfl) rfl; have hgoal := hR.go hst HQ24 0 rfl; clear hF hpre hl hR; go_simp; exact ⟨_, rfl, hgoal _ _ (Below.refl _ _) rfl⟩
            | 1, ho =>
              simp at ho; subst ho; refine step_plain rfl ?_; have e104 := hF.gv hR.2 HQ24 0 rfl (hpre ⟨0, .data⟩ (by simp) rfl) rfl; have hgoal := hR.go hst HQ24 1 rfl; have q0 := cell_keep hR.1 l1; clear hF hpre hl hR; go_simp; exact ⟨_, rfl, hgoal _ _ (Below.refl _ _) rfl⟩
            | 2, ho =>
              simp at ho; subst ho; refine step_plain rfl ?_; have e105 := hF.gv hR.2 HQ24 1 rfl (hpre ⟨1, .data⟩ (by simp) rfl) rfl
              have hgoal : ∀ v0' w0', Below x.heap.size x w0' → QI [n] v0' w0' → RQ Q24 x9 (upd val 2 v0') (L.setIfInBounds 2 true) w0' := fun v0' w0' hb hq => hR.step hst hb ((U242.out _ _).2 hq)
              have hM := Lib.hid hR.1
              clear hF hpre hl hR; go_simp; exact ⟨_, rfl, hgoal _ _ ((Below.refl _ _).alloc (Nat.le_refl _) _) ⟨_, _, rfl, Nat.le_refl _, (RI.new1 rfl).more (by simp)⟩⟩
            | 3, ho =>
              simp at ho; subst ho; refine step_plain rfl ?_; have e106 := hF.gave 2 rfl (hpre ⟨2, .data⟩ (by simp) rfl) rfl
              have v2 := (U242.out _ _).1 (hR.2 2 (hpre ⟨2, .data⟩ (by simp) rfl))
              have hgoal := hR.go hst HQ24 3 rfl
              have hM := Lib.hid hR.1
              clear hF hpre hl hR
              obtain ⟨A9, c9, h9, _, hr9⟩ := v2
              rw [h9] at e106
              go_simp
              refine ⟨trivial, ?_⟩
              refine CallsIn.mono (callsIn_wide.2 (within_any 1 (100000) _ 1 _ _ [n] _ rfl (le_maxLen (by omega)) hr9)) ?_
              rintro e w9 ⟨rfl, rfl⟩
              exact ⟨_, rfl, hgoal _ _ (Below.refl _ _) (by rw [G1.out])⟩
            | 4, ho =>
              simp at ho; subst ho; refine step_plain rfl ?_; have e107 := hF.gv hR.2 HQ24 3 rfl (hpre ⟨3, .data⟩ (by simp) rfl) rfl; have hgoal := hR.go hst HQ24 4 rfl; clear hF hpre hl hR; go_simp; exact ⟨_, rfl, hgoal _ _ (Below.refl _ _) rfl⟩
            | 5, ho =>
              simp at ho; subst ho; refine step_gd hF hR.2 HQ24 (j := 4) (b := true) rfl rfl (by kernel_rfl) (hpre ⟨4, .guard⟩ (by simp) rfl) rfl ?_; have e0 := hF.was 0 (by kernel_rfl) rfl; have hgoal := hR.go hst HQ24 5 rfl; clear hF hpre hl hR; go_simp; exact ⟨_, rfl, hgoal _ _ (Below.refl _ _) rfl⟩
            | 6, ho =>
              simp at ho; subst ho; refine step_gd hF hR.2 HQ24 (j := 4) (b := true) rfl rfl (by kernel_rfl) (hpre ⟨4, .guard⟩ (by simp) rfl) rfl ?_; have e109 := hF.gv hR.2 HQ24 5 rfl (hpre ⟨5, .data⟩ (by simp) rfl) rfl; have hgoal := hR.go hst HQ24 6 rfl; clear hF hpre hl hR; go_simp; exact ⟨_, rfl, hgoal _ _ (Below.refl _ _) rfl⟩
            | 7, ho =>
              simp at ho; subst ho; refine step_gd hF hR.2 HQ24 (j := 4) (b := true) rfl rfl (by kernel_rfl) (hpre ⟨4, .guard⟩ (by simp) rfl) rfl ?_; have e110 := hF.gv hR.2 HQ24 6 rfl (hpre ⟨6, .data⟩ (by simp) rfl) rfl; have hgoal := hR.go hst HQ24 7 rfl; clear hF hpre hl hR; go_simp; exact ⟨_, rfl, hgoal _ _ (Below.refl _ _) rfl⟩
            | 8, ho =>
              simp at ho; subst ho; refine step_gd hF hR.2 HQ24 (j := 4) (b := true) rfl rfl (by kernel_rfl) (hpre ⟨4, .guard⟩ (by simp) rfl) rfl ?_; have e111 := hF.gv hR.2 HQ24 7 rfl (hpre ⟨7, .data⟩ (by simp) rfl) rfl; have hgoal := hR.go hst HQ24 8 rfl; clear hF hpre hl hR; go_simp; exact ⟨_, rfl, hgoal _ _ (Below.refl _ _) rfl⟩
            | 9, ho =>
              simp at ho; subst ho; refine step_gd hF hR.2 HQ24 (j := 4) (b := true) rfl rfl (by kernel_rfl) (hpre ⟨4, .guard⟩ (by simp) rfl) rfl ?_; have e112 := hF.gv hR.2 HQ24 8 rfl (hpre ⟨8, .data⟩ (by simp) rfl) rfl; have hgoal := hR.go hst HQ24 9 rfl; have q0 := cell_keep hR.1 c6; clear hF hpre hl hR; go_simp; exact ⟨_, rfl, hgoal _ _ (Below.refl _ _) rfl⟩
            | 10, ho =>
              simp at ho; subst ho; refine step_gd hF hR.2 HQ24 (j := 4) (b := true) rfl rfl (by kernel_rfl) (hpre ⟨4, .guard⟩ (by simp) rfl) rfl ?_; have e113 := hF.gv hR.2 HQ24 9 rfl (hpre ⟨9, .data⟩ (by simp) rfl) rfl; have hgoal := hR.go hst HQ24 10 rfl; clear hF hpre hl hR; go_simp; exact ⟨_, rfl, hgoal _ _ (Below.refl _ _) rfl⟩
            | 11, ho =>
              simp at ho; subst ho; refine step_plain rfl ?_; have e108 := hF.gv hR.2 HQ24 4 rfl (hpre ⟨4, .data⟩ (by simp) rfl) rfl; have e114 := hF.gv hR.2 HQ24 10 rfl (hpre ⟨10, .data⟩ (by simp) rfl) rfl; have hgoal := hR.go hst HQ24 11 rfl; clear hF hpre hl hR; go_simp; exact ⟨_, rfl, hgoal _ _ (Below.refl _ _) rfl⟩
            | 12, ho =>
              simp at ho; subst ho; refine step_plain rfl ?_; have e115 := hF.gv hR.2 HQ24 11 rfl (hpre ⟨11, .data⟩ (by simp) rfl) rfl; have hgoal := hR.go hst HQ24 12 rfl; clear hF hpre hl hR; go_simp; exact ⟨_, rfl, hgoal _ _ (Below.refl _ _) rfl⟩
            | 13, ho =>
              simp at ho; subst ho; refine step_gd hF hR.2 HQ24 (j := 12) (b := true) rfl rfl (by kernel_rfl) (hpre ⟨12, .guard⟩ (by simp) rfl) rfl ?_; have e0 := hF.was 0 (by kernel_rfl) rfl; have hgoal := hR.go hst HQ24 13 rfl; clear hF hpre hl hR; go_simp; exact ⟨_, rfl, hgoal _ _ (Below.refl _ _) rfl⟩
            | 14, ho =>
              simp at ho; subst ho; refine step_gd hF hR.2 HQ24 (j := 12) (b := true) rfl rfl (by kernel_rfl) (hpre ⟨12, .guard⟩ (by simp) rfl) rfl ?_; have e117 := hF.gv hR.2 HQ24 13 rfl (hpre ⟨13, .data⟩ (by simp) rfl) rfl; have hgoal := hR.go hst HQ24 14 rfl; clear hF hpre hl hR; go_simp; exact ⟨_, rfl, hgoal _ _ (Below.refl _ _) rfl⟩
            | 15, ho =>
              simp at ho; subst ho; refine step_gd hF hR.2 HQ24 (j := 12) (b := true) rfl rfl (by kernel_rfl) (hpre ⟨12, .guard⟩ (by simp) rfl) rfl ?_; have e118 := hF.gv hR.2 HQ24 14 rfl (hpre ⟨14, .data⟩ (by simp) rfl) rfl; have hgoal := hR.go hst HQ24 15 rfl; clear hF hpre hl hR; go_simp; exact ⟨_, rfl, hgoal _ _ (Below.refl _ _) rfl⟩
            | 16, ho =>
              simp at ho; subst ho; refine step_gd hF hR.2 HQ24 (j := 12) (b := true) rfl rfl (by kernel_rfl) (hpre ⟨12, .guard⟩ (by simp) rfl) rfl ?_; have e119 := hF.gv hR.2 HQ24 15 rfl (hpre ⟨15, .data⟩ (by simp) rfl) rfl; have hgoal := hR.go hst HQ24 16 rfl; clear hF hpre hl hR; go_simp; exact ⟨_, rfl, hgoal _ _ (Below.refl _ _) rfl⟩
            | 17, ho =>
              simp at ho; subst ho; refine step_gd hF hR.2 HQ24 (j := 12) (b := true) rfl rfl (by kernel_rfl) (hpre ⟨12, .guard⟩ (by simp) rfl) rfl ?_; have e120 := hF.gv hR.2 HQ24 16 rfl (hpre ⟨16, .data⟩ (by simp) rfl) rfl; have hgoal := hR.go hst HQ24 17 rfl; have q0 := cell_keep hR.1 c5; clear hF hpre hl hR; go_simp; exact ⟨_, rfl, hgoal _ _ (Below.refl _ _) rfl⟩
            | 18, ho =>
              simp at ho; subst ho; refine step_gd hF hR.2 HQ24 (j := 12) (b := true) rfl rfl (by kernel_rfl) (hpre ⟨12, .guard⟩ (by simp) rfl) rfl ?_; have e121 := hF.gv hR.2 HQ24 17 rfl (hpre ⟨17, .data⟩ (by simp) rfl) rfl; have hgoal := hR.go hst HQ24 18 rfl; clear hF hpre hl hR; go_simp; exact ⟨_, rfl, hgoal _ _ (Below.refl _ _) rfl⟩
            | 19, ho =>
              simp at ho; subst ho; refine step_plain rfl ?_; have e116 := hF.gv hR.2 HQ24 12 rfl (hpre ⟨12, .data⟩ (by simp) rfl) rfl; have e122 := hF.gv hR.2 HQ24 18 rfl (hpre ⟨18, .data⟩ (by simp) rfl) rfl; have hgoal := hR.go hst HQ24 19 rfl; clear hF hpre hl hR; go_simp; exact ⟨_, rfl, hgoal _ _ (Below.refl _ _) rfl⟩
            | 20, ho =>
              simp at ho; subst ho; refine step_plain rfl ?_; have e123 := hF.gv hR.2 HQ24 19 rfl (hpre ⟨19, .data⟩ (by simp) rfl) rfl; have hgoal := hR.go hst HQ24 20 rfl; clear hF hpre hl hR; go_simp; exact ⟨_, rfl, hgoal _ _ (Below.refl _ _) rfl⟩
            | 21, ho =>
              simp at ho; subst ho; refine step_sk hF hR.2 HQ24 (j := 20) (b := true) rfl rfl (by kernel_rfl) (hpre ⟨20, .guard⟩ (by simp) rfl) rfl (by simp) ?_
              exact ⟨fun _ _ => trivial, hR.go hst HQ24 21 rfl _ _ (Below.refl _ _) rfl⟩
            | 22, ho =>
              simp at ho; subst ho; refine step_plain rfl ?_; have e124 := hF.gv hR.2 HQ24 20 rfl (hpre ⟨20, .data⟩ (by simp) rfl) rfl; have e125 := hF.gv hR.2 HQ24 21 rfl (hpre ⟨21, .data⟩ (by simp) rfl) rfl; have hgoal := hR.go hst HQ24 22 rfl; clear hF hpre hl hR; go_simp; exact ⟨_, rfl, hgoal _ _ (Below.refl _ _) rfl⟩
            | 23, ho =>
              simp at ho; subst ho; refine step_plain rfl ?_; have e126 := hF.gv hR.2 HQ24 22 rfl (hpre ⟨22, .data⟩ (by simp) rfl) rfl; have hgoal := hR.go hst HQ24 23 rfl; clear hF hpre hl hR; go_simp; exact ⟨_, rfl, hgoal _ _ (Below.refl _ _) rfl⟩
            | 24, ho =>
              simp at ho; subst ho; refine step_sk hF hR.2 HQ24 (j := 23) (b := true) rfl rfl (by kernel_rfl) (hpre ⟨23, .guard⟩ (by simp) rfl) rfl (by simp) ?_
              exact ⟨fun _ _ => trivial, hR.go hst HQ24 24 rfl _ _ (Below.refl _ _) rfl⟩
            | 25, ho =>
              simp at ho; subst ho; refine step_sk hF hR.2 HQ24 (j := 23) (b := true) rfl rfl (by kernel_rfl) (hpre ⟨23, .guard⟩ (by simp) rfl) rfl (by simp) ?_
              exact ⟨fun _ _ => trivial, hR.go hst HQ24 25 rfl _ _ (Below.refl _ _) rfl⟩
            | 26, ho =>
              simp at ho; subst ho; refine step_sk hF hR.2 HQ24 (j := 23) (b := true) rfl rfl (by kernel_rfl) (hpre ⟨23, .guard⟩ (by simp) rfl) rfl (by simp) ?_
              exact ⟨fun _ _ => trivial, hR.go hst HQ24 26 rfl _ _ (Below.refl _ _) rfl⟩
            | 27, ho =>
              simp at ho; subst ho; refine step_sk hF hR.2 HQ24 (j := 23) (b := true) rfl rfl (by kernel_rfl) (hpre ⟨23, .guard⟩ (by simp) rfl) rfl (by simp) ?_
              exact ⟨fun _ _ => trivial, hR.go hst HQ24 27 rfl _ _ (Below.refl _ _) rfl⟩
            | 28, ho =>
              simp at ho; subst ho; refine step_sk hF hR.2 HQ24 (j := 23) (b := true) rfl rfl (by kernel_rfl) (hpre ⟨23, .guard⟩ (by simp) rfl) rfl (by simp) ?_
              exact ⟨fun _ _ => trivial, hR.go hst HQ24 28 rfl _ _ (Below.refl _ _) rfl⟩
            | 29, ho =>
              simp at ho; subst ho; refine step_sk hF hR.2 HQ24 (j := 23) (b := true) rfl rfl (by kernel_rfl) (hpre ⟨23, .guard⟩ (by simp) rfl) rfl (by simp) ?_
              exact ⟨fun _ _ => trivial, hR.go hst HQ24 29 rfl _ _ (Below.refl _ _) rfl⟩
            | 30, ho =>
              simp at ho; subst ho; refine step_sk hF hR.2 HQ24 (j := 23) (b := true) rfl rfl (by kernel_rfl) (hpre ⟨23, .guard⟩ (by simp) rfl) rfl (by simp) ?_
              exact ⟨fun _ _ => trivial, hR.go hst HQ24 30 rfl _ _ (Below.refl _ _) rfl⟩
            | 31, ho =>
              simp at ho; subst ho; refine step_sk hF hR.2 HQ24 (j := 23) (b := true) rfl rfl (by kernel_rfl) (hpre ⟨23, .guard⟩ (by simp) rfl) rfl (by simp) ?_
              exact ⟨fun _ _ => trivial, hR.go hst HQ24 31 rfl _ _ (Below.refl _ _) rfl⟩
            | 32, ho =>
              simp at ho; subst ho; refine step_sk hF hR.2 HQ24 (j := 23) (b := true) rfl rfl (by kernel_rfl) (hpre ⟨23, .guard⟩ (by simp) rfl) rfl (by simp) ?_
              exact ⟨fun _ _ => trivial, hR.go hst HQ24 32 rfl _ _ (Below.refl _ _) rfl⟩
            | 33, ho =>
              simp at ho; subst ho; refine step_sk hF hR.2 HQ24 (j := 23) (b := true) rfl rfl (by kernel_rfl) (hpre ⟨23, .guard⟩ (by simp) rfl) rfl (by simp) ?_
              exact ⟨fun _ _ => trivial, hR.go hst HQ24 33 rfl _ _ (Below.refl _ _) rfl⟩
            | 34, ho =>
              simp at ho; subst ho; refine step_plain rfl ?_; have e127 := hF.gv hR.2 HQ24 23 rfl (hpre ⟨23, .data⟩ (by simp) rfl) rfl; have e137 := hF.gv hR.2 HQ24 33 rfl (hpre ⟨33, .data⟩ (by simp) rfl) rfl; have hgoal := hR.go hst HQ24 34 rfl; clear hF hpre hl hR; go_simp; exact ⟨_, rfl, hgoal _ _ (Below.refl _ _) rfl⟩
            | 35, ho =>
              simp at ho; subst ho; refine step_plain rfl ?_; have e138 := hF.gv hR.2 HQ24 34 rfl (hpre ⟨34, .data⟩ (by simp) rfl) rfl; have hgoal := hR.go hst HQ24 35 rfl; clear hF hpre hl hR; go_simp; exact ⟨_, rfl, hgoal _ _ (Below.refl _ _) rfl⟩
            | i + 36, ho => simp at ho
          case hend24 =>
            intro val L b' x hF hall hR
            have e := hF.all (by kernel_rfl) hall
            have k2435 := QG.val HQ24 rfl (hR.2 35 (hall 35 (by decide)))
            have hB24 := Lib.hid hR.1
            clear hF hall hR hst HQ24 U242
            subst e
            simp [final, dstOf, List.range, List.range.loop]
            rw [k2435]
            go_wp2
            go_ret
            exact ⟨rfl, HB1.out.trans (hB24.out.mono HB1.out.size)⟩
    · have z2a : (wt == 0) = false := by simpa using g2
      rw [show posB (fun l u => carB X Y V l l y1 y2 u) cable charge ⟨len, wt, since, cyc, cut, false⟩ 4 n = false by unfold posB; simp [g1, g2]]
      have G1 := Lib.hid (show wB 1 100000 [n] = true by rw [wB_one]; simpa using g1)
      have hW1 : WN (w.alloc (.cells #[.int .i64 4, .int .i64 n] 82)) g cable AX nx cx AY ny cy AV nv cv charge ⟨len, wt, since, cyc, cut, false⟩ y1 y2 := h.stay ((Below.refl _ _).alloc (Nat.le_refl _) _)
      have hB1 : Below w.heap.size w (w.alloc (.cells #[.int .i64 4, .int .i64 n] 82)) := (Below.refl _ _).alloc (Nat.le_refl _) _
      have l0 : (w.alloc (.cells #[.int .i64 4, .int .i64 n] 82)).cell? ⟨w.heap.size, 0, none⟩ = some (.int .i64 4) := by rw [cell_newest]; rfl
      have l1 : (w.alloc (.cells #[.int .i64 4, .int .i64 n] 82)).cell? ⟨w.heap.size, 1, none⟩ = some (.int .i64 n) := by rw [cell_newest]; rfl
      have c0 := cellOf (o := 0) hW1 rfl
      have c4 := cellOf (o := 4) hW1 rfl
      have c5 := cellOf (o := 5) hW1 rfl
      have c6 := cellOf (o := 6) hW1 rfl
      have c7 := cellOf (o := 7) hW1 rfl
      have c12 := cellOf (o := 12) hW1 rfl
      have hg := hW1.lt
      have HB1 := Lib.hid hB1
      clear hW1 hB1 h ht
      go_enter Try.func110, Try.ntmps110
      go_upto_region 9 with (fail)
      generalize w.alloc _ = w1 at *
      obtain ⟨QA25, hQA25⟩ : ∃ q9 : Nat → Value → World → Prop, q9 = QG [some (.pointer (some ⟨g, 0, none⟩)), some (.pointer (some ⟨g, 0, none⟩)), some (.pointer (some ⟨g, 12, none⟩)), some (.bool false), some (.bool false), some (undef), some (undef), some (undef), some (undef), some (undef), some (undef), some (undef), some (undef), some (undef), some (undef), some (undef), some (.bool false), some (.bool false)] (fun _ _ _ => True) := ⟨_, rfl⟩
      have hst : Stays QA25 := by rw [hQA25]; exact QG.stays (fun _ _ _ _ _ _ => trivial)
      have HQA25 := Lib.hid hQA25
      clear hQA25
      refine wpIn_wide.1 (region_inv2 (n := 9) (by kernel_rfl) (RQ QA25 w1) (by kernel_rfl) rfl (RQ.start _ _ _) ?hstepA25 ?hendA25)
      case hstepA25 =>
        intro i' o ho val L b' x9 hF hR hpre hl
        match i', ho with
        | 0, ho =>
          simp at ho; subst ho; refine step_plain rfl ?_; have e0 := hF.was 0 (by kernel_rfl) rfl; have hgoal := hR.go hst HQA25 0 rfl; clear hF hpre hl hR; go_simp; exact ⟨_, rfl, hgoal _ _ (Below.refl _ _) rfl⟩
        | 1, ho =>
          simp at ho; subst ho; refine step_plain rfl ?_; have e87 := hF.gv hR.2 HQA25 0 rfl (hpre ⟨0, .data⟩ (by simp) rfl) rfl; have hgoal := hR.go hst HQA25 1 rfl; clear hF hpre hl hR; go_simp; exact ⟨_, rfl, hgoal _ _ (Below.refl _ _) rfl⟩
        | 2, ho =>
          simp at ho; subst ho; refine step_plain rfl ?_; have e88 := hF.gv hR.2 HQA25 1 rfl (hpre ⟨1, .data⟩ (by simp) rfl) rfl; have hgoal := hR.go hst HQA25 2 rfl; clear hF hpre hl hR; go_simp; exact ⟨_, rfl, hgoal _ _ (Below.refl _ _) rfl⟩
        | 3, ho =>
          simp at ho; subst ho; refine step_plain rfl ?_; have e89 := hF.gv hR.2 HQA25 2 rfl (hpre ⟨2, .data⟩ (by simp) rfl) rfl; have hgoal := hR.go hst HQA25 3 rfl; have q0 := cell_keep hR.1 c12; clear hF hpre hl hR; go_simp; exact ⟨_, rfl, hgoal _ _ (Below.refl _ _) rfl⟩
        | 4, ho =>
          simp at ho; subst ho; refine step_plain rfl ?_; have e90 := hF.gv hR.2 HQA25 3 rfl (hpre ⟨3, .data⟩ (by simp) rfl) rfl; have hgoal := hR.go hst HQA25 4 rfl; clear hF hpre hl hR; go_simp; exact ⟨_, rfl, hgoal _ _ (Below.refl _ _) rfl⟩
        | 5, ho =>
          simp at ho; subst ho; refine step_sk hF hR.2 HQA25 (j := 4) (b := true) rfl rfl (by kernel_rfl) (hpre ⟨4, .guard⟩ (by simp) rfl) rfl (by simp) ?_
          exact ⟨fun _ _ => trivial, hR.go hst HQA25 5 rfl _ _ (Below.refl _ _) rfl⟩
        | 6, ho =>
          simp at ho; subst ho; refine step_sk hF hR.2 HQA25 (j := 4) (b := true) rfl rfl (by kernel_rfl) (hpre ⟨4, .guard⟩ (by simp) rfl) rfl (by simp) ?_
          exact ⟨fun _ _ => trivial, hR.go hst HQA25 6 rfl _ _ (Below.refl _ _) rfl⟩
        | 7, ho =>
          simp at ho; subst ho; refine step_sk hF hR.2 HQA25 (j := 4) (b := true) rfl rfl (by kernel_rfl) (hpre ⟨4, .guard⟩ (by simp) rfl) rfl (by simp) ?_
          exact ⟨fun _ _ => trivial, hR.go hst HQA25 7 rfl _ _ (Below.refl _ _) rfl⟩
        | 8, ho =>
          simp at ho; subst ho; refine step_sk hF hR.2 HQA25 (j := 4) (b := true) rfl rfl (by kernel_rfl) (hpre ⟨4, .guard⟩ (by simp) rfl) rfl (by simp) ?_
          exact ⟨fun _ _ => trivial, hR.go hst HQA25 8 rfl _ _ (Below.refl _ _) rfl⟩
        | 9, ho =>
          simp at ho; subst ho; refine step_sk hF hR.2 HQA25 (j := 4) (b := true) rfl rfl (by kernel_rfl) (hpre ⟨4, .guard⟩ (by simp) rfl) rfl (by simp) ?_
          exact ⟨fun _ _ => trivial, hR.go hst HQA25 9 rfl _ _ (Below.refl _ _) rfl⟩
        | 10, ho =>
          simp at ho; subst ho; refine step_sk hF hR.2 HQA25 (j := 4) (b := true) rfl rfl (by kernel_rfl) (hpre ⟨4, .guard⟩ (by simp) rfl) rfl (by simp) ?_
          exact ⟨fun _ _ => trivial, hR.go hst HQA25 10 rfl _ _ (Below.refl _ _) rfl⟩
        | 11, ho =>
          simp at ho; subst ho; refine step_sk hF hR.2 HQA25 (j := 4) (b := true) rfl rfl (by kernel_rfl) (hpre ⟨4, .guard⟩ (by simp) rfl) rfl (by simp) ?_
          exact ⟨fun _ _ => trivial, hR.go hst HQA25 11 rfl _ _ (Below.refl _ _) rfl⟩
        | 12, ho =>
          simp at ho; subst ho; refine step_sk hF hR.2 HQA25 (j := 4) (b := true) rfl rfl (by kernel_rfl) (hpre ⟨4, .guard⟩ (by simp) rfl) rfl (by simp) ?_
          exact ⟨fun _ _ => trivial, hR.go hst HQA25 12 rfl _ _ (Below.refl _ _) rfl⟩
        | 13, ho =>
          simp at ho; subst ho; refine step_sk hF hR.2 HQA25 (j := 4) (b := true) rfl rfl (by kernel_rfl) (hpre ⟨4, .guard⟩ (by simp) rfl) rfl (by simp) ?_
          exact ⟨fun _ _ => trivial, hR.go hst HQA25 13 rfl _ _ (Below.refl _ _) rfl⟩
        | 14, ho =>
          simp at ho; subst ho; refine step_sk hF hR.2 HQA25 (j := 4) (b := true) rfl rfl (by kernel_rfl) (hpre ⟨4, .guard⟩ (by simp) rfl) rfl (by simp) ?_
          exact ⟨fun _ _ => trivial, hR.go hst HQA25 14 rfl _ _ (Below.refl _ _) rfl⟩
        | 15, ho =>
          simp at ho; subst ho; refine step_sk hF hR.2 HQA25 (j := 4) (b := true) rfl rfl (by kernel_rfl) (hpre ⟨4, .guard⟩ (by simp) rfl) rfl (by simp) ?_
          exact ⟨fun _ _ => trivial, hR.go hst HQA25 15 rfl _ _ (Below.refl _ _) rfl⟩
        | 16, ho =>
          simp at ho; subst ho; refine step_plain rfl ?_; have e91 := hF.gv hR.2 HQA25 4 rfl (hpre ⟨4, .data⟩ (by simp) rfl) rfl; have e102 := hF.gv hR.2 HQA25 15 rfl (hpre ⟨15, .data⟩ (by simp) rfl) rfl; have hgoal := hR.go hst HQA25 16 rfl; clear hF hpre hl hR; go_simp; exact ⟨_, rfl, hgoal _ _ (Below.refl _ _) rfl⟩
        | 17, ho =>
          simp at ho; subst ho; refine step_plain rfl ?_; have e103 := hF.gv hR.2 HQA25 16 rfl (hpre ⟨16, .data⟩ (by simp) rfl) rfl; have hgoal := hR.go hst HQA25 17 rfl; clear hF hpre hl hR; go_simp; exact ⟨_, rfl, hgoal _ _ (Below.refl _ _) rfl⟩
        | i + 18, ho => simp at ho
      case hendA25 =>
        intro val L b' x9 hF hall hR
        have e := hF.all (by kernel_rfl) hall
        have kA2517 := QG.val HQA25 rfl (hR.2 17 (hall 17 (by decide)))
        have hBA25 := Lib.hid hR.1
        clear hF hall hR hst HQA25 
        subst e
        simp [final, dstOf, List.range, List.range.loop]
        rw [kA2517]
        have l1 := cell_keep hBA25.out l1
        have c0 := cell_keep hBA25.out c0
        have c5 := cell_keep hBA25.out c5
        have c6 := cell_keep hBA25.out c6
        have hg : g < x9.heap.size := Nat.lt_of_lt_of_le hg hBA25.out.size
        have HB1 := Lib.hid (HB1.out.trans (hBA25.out.mono HB1.out.size))
        go_upto_region 10 with (fail)
        obtain ⟨Q26, hQ26⟩ : ∃ q9 : Nat → Value → World → Prop, q9 = QG [some (.pointer (some ⟨w.heap.size, 1, none⟩)), some (.int .i64 n), none, some (.bool true), some (.bool true), some (.pointer (some ⟨g, 0, none⟩)), some (.pointer (some ⟨g, 0, none⟩)), some (.pointer (some ⟨g, 5, none⟩)), some (.pointer (some ⟨g, 6, none⟩)), some (.int .i64 wt), some (.bool false), some (.bool false), some (.bool false), some (undef), some (undef), some (undef), some (undef), some (undef), some (undef), some (.bool false), some (.bool false), some (undef), some (.bool false), some (.bool false), some (undef), some (undef), some (undef), some (undef), some (undef), some (undef), some (undef), some (undef), some (undef), some (undef), some (.bool false), some (.bool false)] (fun j0' v0' w0' => (j0' = 2 → QI [n] v0' w0')) := ⟨_, rfl⟩
        have hst : Stays Q26 := by rw [hQ26]; exact QG.stays (fun j v W W' h hb => fun e => (h e).stay hb)
        have U262 := Lib.hid (show ∀ v0' w0', Q26 2 v0' w0' ↔ QI [n] v0' w0' from fun v0' w0' => by rw [hQ26]; exact ⟨fun h => h rfl, fun h => fun _ => h⟩)
        have HQ26 := Lib.hid hQ26
        clear hQ26
        refine wpIn_wide.1 (region_inv2 (n := 9) (by kernel_rfl) (RQ Q26 x9) (by kernel_rfl) rfl (RQ.start _ _ _) ?hstep26 ?hend26)
        case hstep26 =>
          intro i' o ho val L b' x hF hR hpre hl
          match i', ho with
          | 0, ho =>
            simp at ho; subst ho; refine step_plain rfl ?_; have e3 := hF.was 3 (by kernel_rfl) rfl; have hgoal := hR.go hst HQ26 0 rfl; clear hF hpre hl hR; go_simp; exact ⟨_, rfl, hgoal _ _ (Below.refl _ _) rfl⟩
          | 1, ho =>
            simp at ho; subst ho; refine step_plain rfl ?_; have e104 := hF.gv hR.2 HQ26 0 rfl (hpre ⟨0, .data⟩ (by simp) rfl) rfl; have hgoal := hR.go hst HQ26 1 rfl; have q0 := cell_keep hR.1 l1; clear hF hpre hl hR; go_simp; exact ⟨_, rfl, hgoal _ _ (Below.refl _ _) rfl⟩
          | 2, ho =>
            simp at ho; subst ho; refine step_plain rfl ?_; have e105 := hF.gv hR.2 HQ26 1 rfl (hpre ⟨1, .data⟩ (by simp) rfl) rfl
            have hgoal : ∀ v0' w0', Below x.heap.size x w0' → QI [n] v0' w0' → RQ Q26 x9 (upd val 2 v0') (L.setIfInBounds 2 true) w0' := fun v0' w0' hb hq => hR.step hst hb ((U262.out _ _).2 hq)
            have hM := Lib.hid hR.1
            clear hF hpre hl hR; go_simp; exact ⟨_, rfl, hgoal _ _ ((Below.refl _ _).alloc (Nat.le_refl _) _) ⟨_, _, rfl, Nat.le_refl _, (RI.new1 rfl).more (by simp)⟩⟩
          | 3, ho =>
            simp at ho; subst ho; refine step_plain rfl ?_; have e106 := hF.gave 2 rfl (hpre ⟨2, .data⟩ (by simp) rfl) rfl
            have v2 := (U262.out _ _).1 (hR.2 2 (hpre ⟨2, .data⟩ (by simp) rfl))
            have hgoal := hR.go hst HQ26 3 rfl
            have hM := Lib.hid hR.1
            clear hF hpre hl hR
            obtain ⟨A9, c9, h9, _, hr9⟩ := v2
            rw [h9] at e106
            go_simp
            refine ⟨trivial, ?_⟩
            refine CallsIn.mono (callsIn_wide.2 (within_any 1 (100000) _ 1 _ _ [n] _ rfl (le_maxLen (by omega)) hr9)) ?_
            rintro e w9 ⟨rfl, rfl⟩
            exact ⟨_, rfl, hgoal _ _ (Below.refl _ _) (by rw [G1.out])⟩
          | 4, ho =>
            simp at ho; subst ho; refine step_plain rfl ?_; have e107 := hF.gv hR.2 HQ26 3 rfl (hpre ⟨3, .data⟩ (by simp) rfl) rfl; have hgoal := hR.go hst HQ26 4 rfl; clear hF hpre hl hR; go_simp; exact ⟨_, rfl, hgoal _ _ (Below.refl _ _) rfl⟩
          | 5, ho =>
            simp at ho; subst ho; refine step_gd hF hR.2 HQ26 (j := 4) (b := true) rfl rfl (by kernel_rfl) (hpre ⟨4, .guard⟩ (by simp) rfl) rfl ?_; have e0 := hF.was 0 (by kernel_rfl) rfl; have hgoal := hR.go hst HQ26 5 rfl; clear hF hpre hl hR; go_simp; exact ⟨_, rfl, hgoal _ _ (Below.refl _ _) rfl⟩
          | 6, ho =>
            simp at ho; subst ho; refine step_gd hF hR.2 HQ26 (j := 4) (b := true) rfl rfl (by kernel_rfl) (hpre ⟨4, .guard⟩ (by simp) rfl) rfl ?_; have e109 := hF.gv hR.2 HQ26 5 rfl (hpre ⟨5, .data⟩ (by simp) rfl) rfl; have hgoal := hR.go hst HQ26 6 rfl; clear hF hpre hl hR; go_simp; exact ⟨_, rfl, hgoal _ _ (Below.refl _ _) rfl⟩
          | 7, ho =>
            simp at ho; subst ho; refine step_gd hF hR.2 HQ26 (j := 4) (b := true) rfl rfl (by kernel_rfl) (hpre ⟨4, .guard⟩ (by simp) rfl) rfl ?_; have e110 := hF.gv hR.2 HQ26 6 rfl (hpre ⟨6, .data⟩ (by simp) rfl) rfl; have hgoal := hR.go hst HQ26 7 rfl; clear hF hpre hl hR; go_simp; exact ⟨_, rfl, hgoal _ _ (Below.refl _ _) rfl⟩
          | 8, ho =>
            simp at ho; subst ho; refine step_gd hF hR.2 HQ26 (j := 4) (b := true) rfl rfl (by kernel_rfl) (hpre ⟨4, .guard⟩ (by simp) rfl) rfl ?_; have e111 := hF.gv hR.2 HQ26 7 rfl (hpre ⟨7, .data⟩ (by simp) rfl) rfl; have hgoal := hR.go hst HQ26 8 rfl; clear hF hpre hl hR; go_simp; exact ⟨_, rfl, hgoal _ _ (Below.refl _ _) rfl⟩
          | 9, ho =>
            simp at ho; subst ho; refine step_gd hF hR.2 HQ26 (j := 4) (b := true) rfl rfl (by kernel_rfl) (hpre ⟨4, .guard⟩ (by simp) rfl) rfl ?_; have e112 := hF.gv hR.2 HQ26 8 rfl (hpre ⟨8, .data⟩ (by simp) rfl) rfl; have hgoal := hR.go hst HQ26 9 rfl; have q0 := cell_keep hR.1 c6; clear hF hpre hl hR; go_simp; exact ⟨_, rfl, hgoal _ _ (Below.refl _ _) rfl⟩
          | 10, ho =>
            simp at ho; subst ho; refine step_gd hF hR.2 HQ26 (j := 4) (b := true) rfl rfl (by kernel_rfl) (hpre ⟨4, .guard⟩ (by simp) rfl) rfl ?_; have e113 := hF.gv hR.2 HQ26 9 rfl (hpre ⟨9, .data⟩ (by simp) rfl) rfl; have hgoal := hR.go hst HQ26 10 rfl; clear hF hpre hl hR; go_simp; exact ⟨_, rfl, hgoal _ _ (Below.refl _ _) rfl⟩
          | 11, ho =>
            simp at ho; subst ho; refine step_plain rfl ?_; have e108 := hF.gv hR.2 HQ26 4 rfl (hpre ⟨4, .data⟩ (by simp) rfl) rfl; have e114 := hF.gv hR.2 HQ26 10 rfl (hpre ⟨10, .data⟩ (by simp) rfl) rfl; have hgoal := hR.go hst HQ26 11 rfl; clear hF hpre hl hR; go_simp; exact ⟨_, rfl, hgoal _ _ (Below.refl _ _) rfl⟩
          | 12, ho =>
            simp at ho; subst ho; refine step_plain rfl ?_; have e115 := hF.gv hR.2 HQ26 11 rfl (hpre ⟨11, .data⟩ (by simp) rfl) rfl; have hgoal := hR.go hst HQ26 12 rfl; clear hF hpre hl hR; go_simp; exact ⟨_, rfl, hgoal _ _ (Below.refl _ _) rfl⟩
          | 13, ho =>
            simp at ho; subst ho; refine step_sk hF hR.2 HQ26 (j := 12) (b := true) rfl rfl (by kernel_rfl) (hpre ⟨12, .guard⟩ (by simp) rfl) rfl (by simp) ?_
            exact ⟨fun _ _ => trivial, hR.go hst HQ26 13 rfl _ _ (Below.refl _ _) rfl⟩
          | 14, ho =>
            simp at ho; subst ho; refine step_sk hF hR.2 HQ26 (j := 12) (b := true) rfl rfl (by kernel_rfl) (hpre ⟨12, .guard⟩ (by simp) rfl) rfl (by simp) ?_
            exact ⟨fun _ _ => trivial, hR.go hst HQ26 14 rfl _ _ (Below.refl _ _) rfl⟩
          | 15, ho =>
            simp at ho; subst ho; refine step_sk hF hR.2 HQ26 (j := 12) (b := true) rfl rfl (by kernel_rfl) (hpre ⟨12, .guard⟩ (by simp) rfl) rfl (by simp) ?_
            exact ⟨fun _ _ => trivial, hR.go hst HQ26 15 rfl _ _ (Below.refl _ _) rfl⟩
          | 16, ho =>
            simp at ho; subst ho; refine step_sk hF hR.2 HQ26 (j := 12) (b := true) rfl rfl (by kernel_rfl) (hpre ⟨12, .guard⟩ (by simp) rfl) rfl (by simp) ?_
            exact ⟨fun _ _ => trivial, hR.go hst HQ26 16 rfl _ _ (Below.refl _ _) rfl⟩
          | 17, ho =>
            simp at ho; subst ho; refine step_sk hF hR.2 HQ26 (j := 12) (b := true) rfl rfl (by kernel_rfl) (hpre ⟨12, .guard⟩ (by simp) rfl) rfl (by simp) ?_
            exact ⟨fun _ _ => trivial, hR.go hst HQ26 17 rfl _ _ (Below.refl _ _) rfl⟩
          | 18, ho =>
            simp at ho; subst ho; refine step_sk hF hR.2 HQ26 (j := 12) (b := true) rfl rfl (by kernel_rfl) (hpre ⟨12, .guard⟩ (by simp) rfl) rfl (by simp) ?_
            exact ⟨fun _ _ => trivial, hR.go hst HQ26 18 rfl _ _ (Below.refl _ _) rfl⟩
          | 19, ho =>
            simp at ho; subst ho; refine step_plain rfl ?_; have e116 := hF.gv hR.2 HQ26 12 rfl (hpre ⟨12, .data⟩ (by simp) rfl) rfl; have e122 := hF.gv hR.2 HQ26 18 rfl (hpre ⟨18, .data⟩ (by simp) rfl) rfl; have hgoal := hR.go hst HQ26 19 rfl; clear hF hpre hl hR; go_simp; exact ⟨_, rfl, hgoal _ _ (Below.refl _ _) rfl⟩
          | 20, ho =>
            simp at ho; subst ho; refine step_plain rfl ?_; have e123 := hF.gv hR.2 HQ26 19 rfl (hpre ⟨19, .data⟩ (by simp) rfl) rfl; have hgoal := hR.go hst HQ26 20 rfl; clear hF hpre hl hR; go_simp; exact ⟨_, rfl, hgoal _ _ (Below.refl _ _) rfl⟩
          | 21, ho =>
            simp at ho; subst ho; refine step_sk hF hR.2 HQ26 (j := 20) (b := true) rfl rfl (by kernel_rfl) (hpre ⟨20, .guard⟩ (by simp) rfl) rfl (by simp) ?_
            exact ⟨fun _ _ => trivial, hR.go hst HQ26 21 rfl _ _ (Below.refl _ _) rfl⟩
          | 22, ho =>
            simp at ho; subst ho; refine step_plain rfl ?_; have e124 := hF.gv hR.2 HQ26 20 rfl (hpre ⟨20, .data⟩ (by simp) rfl) rfl; have e125 := hF.gv hR.2 HQ26 21 rfl (hpre ⟨21, .data⟩ (by simp) rfl) rfl; have hgoal := hR.go hst HQ26 22 rfl; clear hF hpre hl hR; go_simp; exact ⟨_, rfl, hgoal _ _ (Below.refl _ _) rfl⟩
          | 23, ho =>
            simp at ho; subst ho; refine step_plain rfl ?_; have e126 := hF.gv hR.2 HQ26 22 rfl (hpre ⟨22, .data⟩ (by simp) rfl) rfl; have hgoal := hR.go hst HQ26 23 rfl; clear hF hpre hl hR; go_simp; exact ⟨_, rfl, hgoal _ _ (Below.refl _ _) rfl⟩
          | 24, ho =>
            simp at ho; subst ho; refine step_sk hF hR.2 HQ26 (j := 23) (b := true) rfl rfl (by kernel_rfl) (hpre ⟨23, .guard⟩ (by simp) rfl) rfl (by simp) ?_
            exact ⟨fun _ _ => trivial, hR.go hst HQ26 24 rfl _ _ (Below.refl _ _) rfl⟩
          | 25, ho =>
            simp at ho; subst ho; refine step_sk hF hR.2 HQ26 (j := 23) (b := true) rfl rfl (by kernel_rfl) (hpre ⟨23, .guard⟩ (by simp) rfl) rfl (by simp) ?_
            exact ⟨fun _ _ => trivial, hR.go hst HQ26 25 rfl _ _ (Below.refl _ _) rfl⟩
          | 26, ho =>
            simp at ho; subst ho; refine step_sk hF hR.2 HQ26 (j := 23) (b := true) rfl rfl (by kernel_rfl) (hpre ⟨23, .guard⟩ (by simp) rfl) rfl (by simp) ?_
            exact ⟨fun _ _ => trivial, hR.go hst HQ26 26 rfl _ _ (Below.refl _ _) rfl⟩
          | 27, ho =>
            simp at ho; subst ho; refine step_sk hF hR.2 HQ26 (j := 23) (b := true) rfl rfl (by kernel_rfl) (hpre ⟨23, .guard⟩ (by simp) rfl) rfl (by simp) ?_
            exact ⟨fun _ _ => trivial, hR.go hst HQ26 27 rfl _ _ (Below.refl _ _) rfl⟩
          | 28, ho =>
            simp at ho; subst ho; refine step_sk hF hR.2 HQ26 (j := 23) (b := true) rfl rfl (by kernel_rfl) (hpre ⟨23, .guard⟩ (by simp) rfl) rfl (by simp) ?_
            exact ⟨fun _ _ => trivial, hR.go hst HQ26 28 rfl _ _ (Below.refl _ _) rfl⟩
          | 29, ho =>
            simp at ho; subst ho; refine step_sk hF hR.2 HQ26 (j := 23) (b := true) rfl rfl (by kernel_rfl) (hpre ⟨23, .guard⟩ (by simp) rfl) rfl (by simp) ?_
            exact ⟨fun _ _ => trivial, hR.go hst HQ26 29 rfl _ _ (Below.refl _ _) rfl⟩
          | 30, ho =>
            simp at ho; subst ho; refine step_sk hF hR.2 HQ26 (j := 23) (b := true) rfl rfl (by kernel_rfl) (hpre ⟨23, .guard⟩ (by simp) rfl) rfl (by simp) ?_
            exact ⟨fun _ _ => trivial, hR.go hst HQ26 30 rfl _ _ (Below.refl _ _) rfl⟩
          | 31, ho =>
            simp at ho; subst ho; refine step_sk hF hR.2 HQ26 (j := 23) (b := true) rfl rfl (by kernel_rfl) (hpre ⟨23, .guard⟩ (by simp) rfl) rfl (by simp) ?_
            exact ⟨fun _ _ => trivial, hR.go hst HQ26 31 rfl _ _ (Below.refl _ _) rfl⟩
          | 32, ho =>
            simp at ho; subst ho; refine step_sk hF hR.2 HQ26 (j := 23) (b := true) rfl rfl (by kernel_rfl) (hpre ⟨23, .guard⟩ (by simp) rfl) rfl (by simp) ?_
            exact ⟨fun _ _ => trivial, hR.go hst HQ26 32 rfl _ _ (Below.refl _ _) rfl⟩
          | 33, ho =>
            simp at ho; subst ho; refine step_sk hF hR.2 HQ26 (j := 23) (b := true) rfl rfl (by kernel_rfl) (hpre ⟨23, .guard⟩ (by simp) rfl) rfl (by simp) ?_
            exact ⟨fun _ _ => trivial, hR.go hst HQ26 33 rfl _ _ (Below.refl _ _) rfl⟩
          | 34, ho =>
            simp at ho; subst ho; refine step_plain rfl ?_; have e127 := hF.gv hR.2 HQ26 23 rfl (hpre ⟨23, .data⟩ (by simp) rfl) rfl; have e137 := hF.gv hR.2 HQ26 33 rfl (hpre ⟨33, .data⟩ (by simp) rfl) rfl; have hgoal := hR.go hst HQ26 34 rfl; clear hF hpre hl hR; go_simp; exact ⟨_, rfl, hgoal _ _ (Below.refl _ _) rfl⟩
          | 35, ho =>
            simp at ho; subst ho; refine step_plain rfl ?_; have e138 := hF.gv hR.2 HQ26 34 rfl (hpre ⟨34, .data⟩ (by simp) rfl) rfl; have hgoal := hR.go hst HQ26 35 rfl; clear hF hpre hl hR; go_simp; exact ⟨_, rfl, hgoal _ _ (Below.refl _ _) rfl⟩
          | i + 36, ho => simp at ho
        case hend26 =>
          intro val L b' x hF hall hR
          have e := hF.all (by kernel_rfl) hall
          have k2635 := QG.val HQ26 rfl (hR.2 35 (hall 35 (by decide)))
          have hB26 := Lib.hid hR.1
          clear hF hall hR hst HQ26 U262
          subst e
          simp [final, dstOf, List.range, List.range.loop]
          rw [k2635]
          go_wp2
          go_ret
          exact ⟨rfl, HB1.out.trans (hB26.out.mono HB1.out.size)⟩
  · rw [show posB (fun l u => carB X Y V l l y1 y2 u) cable charge ⟨len, wt, since, cyc, cut, false⟩ 4 n = false by unfold posB; simp [show ¬ (1 ≤ n ∧ n ≤ 100000) from g1]]
    have G1 := Lib.hid (show wB 1 100000 [n] = false by rw [wB_one]; simpa using g1)
    have hW1 : WN (w.alloc (.cells #[.int .i64 4, .int .i64 n] 82)) g cable AX nx cx AY ny cy AV nv cv charge ⟨len, wt, since, cyc, cut, false⟩ y1 y2 := h.stay ((Below.refl _ _).alloc (Nat.le_refl _) _)
    have hB1 : Below w.heap.size w (w.alloc (.cells #[.int .i64 4, .int .i64 n] 82)) := (Below.refl _ _).alloc (Nat.le_refl _) _
    have l0 : (w.alloc (.cells #[.int .i64 4, .int .i64 n] 82)).cell? ⟨w.heap.size, 0, none⟩ = some (.int .i64 4) := by rw [cell_newest]; rfl
    have l1 : (w.alloc (.cells #[.int .i64 4, .int .i64 n] 82)).cell? ⟨w.heap.size, 1, none⟩ = some (.int .i64 n) := by rw [cell_newest]; rfl
    have c0 := cellOf (o := 0) hW1 rfl
    have c4 := cellOf (o := 4) hW1 rfl
    have c5 := cellOf (o := 5) hW1 rfl
    have c6 := cellOf (o := 6) hW1 rfl
    have c7 := cellOf (o := 7) hW1 rfl
    have c12 := cellOf (o := 12) hW1 rfl
    have hg := hW1.lt
    have HB1 := Lib.hid hB1
    clear hW1 hB1 h ht
    go_enter Try.func110, Try.ntmps110
    go_upto_region 9 with (fail)
    generalize w.alloc _ = w1 at *
    obtain ⟨QA27, hQA27⟩ : ∃ q9 : Nat → Value → World → Prop, q9 = QG [some (.pointer (some ⟨g, 0, none⟩)), some (.pointer (some ⟨g, 0, none⟩)), some (.pointer (some ⟨g, 12, none⟩)), some (.bool false), some (.bool false), some (undef), some (undef), some (undef), some (undef), some (undef), some (undef), some (undef), some (undef), some (undef), some (undef), some (undef), some (.bool false), some (.bool false)] (fun _ _ _ => True) := ⟨_, rfl⟩
    have hst : Stays QA27 := by rw [hQA27]; exact QG.stays (fun _ _ _ _ _ _ => trivial)
    have HQA27 := Lib.hid hQA27
    clear hQA27
    refine wpIn_wide.1 (region_inv2 (n := 9) (by kernel_rfl) (RQ QA27 w1) (by kernel_rfl) rfl (RQ.start _ _ _) ?hstepA27 ?hendA27)
    case hstepA27 =>
      intro i' o ho val L b' x9 hF hR hpre hl
      match i', ho with
      | 0, ho =>
        simp at ho; subst ho; refine step_plain rfl ?_; have e0 := hF.was 0 (by kernel_rfl) rfl; have hgoal := hR.go hst HQA27 0 rfl; clear hF hpre hl hR; go_simp; exact ⟨_, rfl, hgoal _ _ (Below.refl _ _) rfl⟩
      | 1, ho =>
        simp at ho; subst ho; refine step_plain rfl ?_; have e87 := hF.gv hR.2 HQA27 0 rfl (hpre ⟨0, .data⟩ (by simp) rfl) rfl; have hgoal := hR.go hst HQA27 1 rfl; clear hF hpre hl hR; go_simp; exact ⟨_, rfl, hgoal _ _ (Below.refl _ _) rfl⟩
      | 2, ho =>
        simp at ho; subst ho; refine step_plain rfl ?_; have e88 := hF.gv hR.2 HQA27 1 rfl (hpre ⟨1, .data⟩ (by simp) rfl) rfl; have hgoal := hR.go hst HQA27 2 rfl; clear hF hpre hl hR; go_simp; exact ⟨_, rfl, hgoal _ _ (Below.refl _ _) rfl⟩
      | 3, ho =>
        simp at ho; subst ho; refine step_plain rfl ?_; have e89 := hF.gv hR.2 HQA27 2 rfl (hpre ⟨2, .data⟩ (by simp) rfl) rfl; have hgoal := hR.go hst HQA27 3 rfl; have q0 := cell_keep hR.1 c12; clear hF hpre hl hR; go_simp; exact ⟨_, rfl, hgoal _ _ (Below.refl _ _) rfl⟩
      | 4, ho =>
        simp at ho; subst ho; refine step_plain rfl ?_; have e90 := hF.gv hR.2 HQA27 3 rfl (hpre ⟨3, .data⟩ (by simp) rfl) rfl; have hgoal := hR.go hst HQA27 4 rfl; clear hF hpre hl hR; go_simp; exact ⟨_, rfl, hgoal _ _ (Below.refl _ _) rfl⟩
      | 5, ho =>
        simp at ho; subst ho; refine step_sk hF hR.2 HQA27 (j := 4) (b := true) rfl rfl (by kernel_rfl) (hpre ⟨4, .guard⟩ (by simp) rfl) rfl (by simp) ?_
        exact ⟨fun _ _ => trivial, hR.go hst HQA27 5 rfl _ _ (Below.refl _ _) rfl⟩
      | 6, ho =>
        simp at ho; subst ho; refine step_sk hF hR.2 HQA27 (j := 4) (b := true) rfl rfl (by kernel_rfl) (hpre ⟨4, .guard⟩ (by simp) rfl) rfl (by simp) ?_
        exact ⟨fun _ _ => trivial, hR.go hst HQA27 6 rfl _ _ (Below.refl _ _) rfl⟩
      | 7, ho =>
        simp at ho; subst ho; refine step_sk hF hR.2 HQA27 (j := 4) (b := true) rfl rfl (by kernel_rfl) (hpre ⟨4, .guard⟩ (by simp) rfl) rfl (by simp) ?_
        exact ⟨fun _ _ => trivial, hR.go hst HQA27 7 rfl _ _ (Below.refl _ _) rfl⟩
      | 8, ho =>
        simp at ho; subst ho; refine step_sk hF hR.2 HQA27 (j := 4) (b := true) rfl rfl (by kernel_rfl) (hpre ⟨4, .guard⟩ (by simp) rfl) rfl (by simp) ?_
        exact ⟨fun _ _ => trivial, hR.go hst HQA27 8 rfl _ _ (Below.refl _ _) rfl⟩
      | 9, ho =>
        simp at ho; subst ho; refine step_sk hF hR.2 HQA27 (j := 4) (b := true) rfl rfl (by kernel_rfl) (hpre ⟨4, .guard⟩ (by simp) rfl) rfl (by simp) ?_
        exact ⟨fun _ _ => trivial, hR.go hst HQA27 9 rfl _ _ (Below.refl _ _) rfl⟩
      | 10, ho =>
        simp at ho; subst ho; refine step_sk hF hR.2 HQA27 (j := 4) (b := true) rfl rfl (by kernel_rfl) (hpre ⟨4, .guard⟩ (by simp) rfl) rfl (by simp) ?_
        exact ⟨fun _ _ => trivial, hR.go hst HQA27 10 rfl _ _ (Below.refl _ _) rfl⟩
      | 11, ho =>
        simp at ho; subst ho; refine step_sk hF hR.2 HQA27 (j := 4) (b := true) rfl rfl (by kernel_rfl) (hpre ⟨4, .guard⟩ (by simp) rfl) rfl (by simp) ?_
        exact ⟨fun _ _ => trivial, hR.go hst HQA27 11 rfl _ _ (Below.refl _ _) rfl⟩
      | 12, ho =>
        simp at ho; subst ho; refine step_sk hF hR.2 HQA27 (j := 4) (b := true) rfl rfl (by kernel_rfl) (hpre ⟨4, .guard⟩ (by simp) rfl) rfl (by simp) ?_
        exact ⟨fun _ _ => trivial, hR.go hst HQA27 12 rfl _ _ (Below.refl _ _) rfl⟩
      | 13, ho =>
        simp at ho; subst ho; refine step_sk hF hR.2 HQA27 (j := 4) (b := true) rfl rfl (by kernel_rfl) (hpre ⟨4, .guard⟩ (by simp) rfl) rfl (by simp) ?_
        exact ⟨fun _ _ => trivial, hR.go hst HQA27 13 rfl _ _ (Below.refl _ _) rfl⟩
      | 14, ho =>
        simp at ho; subst ho; refine step_sk hF hR.2 HQA27 (j := 4) (b := true) rfl rfl (by kernel_rfl) (hpre ⟨4, .guard⟩ (by simp) rfl) rfl (by simp) ?_
        exact ⟨fun _ _ => trivial, hR.go hst HQA27 14 rfl _ _ (Below.refl _ _) rfl⟩
      | 15, ho =>
        simp at ho; subst ho; refine step_sk hF hR.2 HQA27 (j := 4) (b := true) rfl rfl (by kernel_rfl) (hpre ⟨4, .guard⟩ (by simp) rfl) rfl (by simp) ?_
        exact ⟨fun _ _ => trivial, hR.go hst HQA27 15 rfl _ _ (Below.refl _ _) rfl⟩
      | 16, ho =>
        simp at ho; subst ho; refine step_plain rfl ?_; have e91 := hF.gv hR.2 HQA27 4 rfl (hpre ⟨4, .data⟩ (by simp) rfl) rfl; have e102 := hF.gv hR.2 HQA27 15 rfl (hpre ⟨15, .data⟩ (by simp) rfl) rfl; have hgoal := hR.go hst HQA27 16 rfl; clear hF hpre hl hR; go_simp; exact ⟨_, rfl, hgoal _ _ (Below.refl _ _) rfl⟩
      | 17, ho =>
        simp at ho; subst ho; refine step_plain rfl ?_; have e103 := hF.gv hR.2 HQA27 16 rfl (hpre ⟨16, .data⟩ (by simp) rfl) rfl; have hgoal := hR.go hst HQA27 17 rfl; clear hF hpre hl hR; go_simp; exact ⟨_, rfl, hgoal _ _ (Below.refl _ _) rfl⟩
      | i + 18, ho => simp at ho
    case hendA27 =>
      intro val L b' x9 hF hall hR
      have e := hF.all (by kernel_rfl) hall
      have kA2717 := QG.val HQA27 rfl (hR.2 17 (hall 17 (by decide)))
      have hBA27 := Lib.hid hR.1
      clear hF hall hR hst HQA27 
      subst e
      simp [final, dstOf, List.range, List.range.loop]
      rw [kA2717]
      have l1 := cell_keep hBA27.out l1
      have c0 := cell_keep hBA27.out c0
      have c5 := cell_keep hBA27.out c5
      have c6 := cell_keep hBA27.out c6
      have hg : g < x9.heap.size := Nat.lt_of_lt_of_le hg hBA27.out.size
      have HB1 := Lib.hid (HB1.out.trans (hBA27.out.mono HB1.out.size))
      go_upto_region 10 with (fail)
      obtain ⟨Q28, hQ28⟩ : ∃ q9 : Nat → Value → World → Prop, q9 = QG [some (.pointer (some ⟨w.heap.size, 1, none⟩)), some (.int .i64 n), none, some (.bool false), some (.bool false), some (undef), some (undef), some (undef), some (undef), some (undef), some (undef), some (.bool false), some (.bool false), some (undef), some (undef), some (undef), some (undef), some (undef), some (undef), some (.bool false), some (.bool false), some (undef), some (.bool false), some (.bool false), some (undef), some (undef), some (undef), some (undef), some (undef), some (undef), some (undef), some (undef), some (undef), some (undef), some (.bool false), some (.bool false)] (fun j0' v0' w0' => (j0' = 2 → QI [n] v0' w0')) := ⟨_, rfl⟩
      have hst : Stays Q28 := by rw [hQ28]; exact QG.stays (fun j v W W' h hb => fun e => (h e).stay hb)
      have U282 := Lib.hid (show ∀ v0' w0', Q28 2 v0' w0' ↔ QI [n] v0' w0' from fun v0' w0' => by rw [hQ28]; exact ⟨fun h => h rfl, fun h => fun _ => h⟩)
      have HQ28 := Lib.hid hQ28
      clear hQ28
      refine wpIn_wide.1 (region_inv2 (n := 9) (by kernel_rfl) (RQ Q28 x9) (by kernel_rfl) rfl (RQ.start _ _ _) ?hstep28 ?hend28)
      case hstep28 =>
        intro i' o ho val L b' x hF hR hpre hl
        match i', ho with
        | 0, ho =>
          simp at ho; subst ho; refine step_plain rfl ?_; have e3 := hF.was 3 (by kernel_rfl) rfl; have hgoal := hR.go hst HQ28 0 rfl; clear hF hpre hl hR; go_simp; exact ⟨_, rfl, hgoal _ _ (Below.refl _ _) rfl⟩
        | 1, ho =>
          simp at ho; subst ho; refine step_plain rfl ?_; have e104 := hF.gv hR.2 HQ28 0 rfl (hpre ⟨0, .data⟩ (by simp) rfl) rfl; have hgoal := hR.go hst HQ28 1 rfl; have q0 := cell_keep hR.1 l1; clear hF hpre hl hR; go_simp; exact ⟨_, rfl, hgoal _ _ (Below.refl _ _) rfl⟩
        | 2, ho =>
          simp at ho; subst ho; refine step_plain rfl ?_; have e105 := hF.gv hR.2 HQ28 1 rfl (hpre ⟨1, .data⟩ (by simp) rfl) rfl
          have hgoal : ∀ v0' w0', Below x.heap.size x w0' → QI [n] v0' w0' → RQ Q28 x9 (upd val 2 v0') (L.setIfInBounds 2 true) w0' := fun v0' w0' hb hq => hR.step hst hb ((U282.out _ _).2 hq)
          have hM := Lib.hid hR.1
          clear hF hpre hl hR; go_simp; exact ⟨_, rfl, hgoal _ _ ((Below.refl _ _).alloc (Nat.le_refl _) _) ⟨_, _, rfl, Nat.le_refl _, (RI.new1 rfl).more (by simp)⟩⟩
        | 3, ho =>
          simp at ho; subst ho; refine step_plain rfl ?_; have e106 := hF.gave 2 rfl (hpre ⟨2, .data⟩ (by simp) rfl) rfl
          have v2 := (U282.out _ _).1 (hR.2 2 (hpre ⟨2, .data⟩ (by simp) rfl))
          have hgoal := hR.go hst HQ28 3 rfl
          have hM := Lib.hid hR.1
          clear hF hpre hl hR
          obtain ⟨A9, c9, h9, _, hr9⟩ := v2
          rw [h9] at e106
          go_simp
          refine ⟨trivial, ?_⟩
          refine CallsIn.mono (callsIn_wide.2 (within_any 1 (100000) _ 1 _ _ [n] _ rfl (le_maxLen (by omega)) hr9)) ?_
          rintro e w9 ⟨rfl, rfl⟩
          exact ⟨_, rfl, hgoal _ _ (Below.refl _ _) (by rw [G1.out])⟩
        | 4, ho =>
          simp at ho; subst ho; refine step_plain rfl ?_; have e107 := hF.gv hR.2 HQ28 3 rfl (hpre ⟨3, .data⟩ (by simp) rfl) rfl; have hgoal := hR.go hst HQ28 4 rfl; clear hF hpre hl hR; go_simp; exact ⟨_, rfl, hgoal _ _ (Below.refl _ _) rfl⟩
        | 5, ho =>
          simp at ho; subst ho; refine step_sk hF hR.2 HQ28 (j := 4) (b := true) rfl rfl (by kernel_rfl) (hpre ⟨4, .guard⟩ (by simp) rfl) rfl (by simp) ?_
          exact ⟨fun _ _ => trivial, hR.go hst HQ28 5 rfl _ _ (Below.refl _ _) rfl⟩
        | 6, ho =>
          simp at ho; subst ho; refine step_sk hF hR.2 HQ28 (j := 4) (b := true) rfl rfl (by kernel_rfl) (hpre ⟨4, .guard⟩ (by simp) rfl) rfl (by simp) ?_
          exact ⟨fun _ _ => trivial, hR.go hst HQ28 6 rfl _ _ (Below.refl _ _) rfl⟩
        | 7, ho =>
          simp at ho; subst ho; refine step_sk hF hR.2 HQ28 (j := 4) (b := true) rfl rfl (by kernel_rfl) (hpre ⟨4, .guard⟩ (by simp) rfl) rfl (by simp) ?_
          exact ⟨fun _ _ => trivial, hR.go hst HQ28 7 rfl _ _ (Below.refl _ _) rfl⟩
        | 8, ho =>
          simp at ho; subst ho; refine step_sk hF hR.2 HQ28 (j := 4) (b := true) rfl rfl (by kernel_rfl) (hpre ⟨4, .guard⟩ (by simp) rfl) rfl (by simp) ?_
          exact ⟨fun _ _ => trivial, hR.go hst HQ28 8 rfl _ _ (Below.refl _ _) rfl⟩
        | 9, ho =>
          simp at ho; subst ho; refine step_sk hF hR.2 HQ28 (j := 4) (b := true) rfl rfl (by kernel_rfl) (hpre ⟨4, .guard⟩ (by simp) rfl) rfl (by simp) ?_
          exact ⟨fun _ _ => trivial, hR.go hst HQ28 9 rfl _ _ (Below.refl _ _) rfl⟩
        | 10, ho =>
          simp at ho; subst ho; refine step_sk hF hR.2 HQ28 (j := 4) (b := true) rfl rfl (by kernel_rfl) (hpre ⟨4, .guard⟩ (by simp) rfl) rfl (by simp) ?_
          exact ⟨fun _ _ => trivial, hR.go hst HQ28 10 rfl _ _ (Below.refl _ _) rfl⟩
        | 11, ho =>
          simp at ho; subst ho; refine step_plain rfl ?_; have e108 := hF.gv hR.2 HQ28 4 rfl (hpre ⟨4, .data⟩ (by simp) rfl) rfl; have e114 := hF.gv hR.2 HQ28 10 rfl (hpre ⟨10, .data⟩ (by simp) rfl) rfl; have hgoal := hR.go hst HQ28 11 rfl; clear hF hpre hl hR; go_simp; exact ⟨_, rfl, hgoal _ _ (Below.refl _ _) rfl⟩
        | 12, ho =>
          simp at ho; subst ho; refine step_plain rfl ?_; have e115 := hF.gv hR.2 HQ28 11 rfl (hpre ⟨11, .data⟩ (by simp) rfl) rfl; have hgoal := hR.go hst HQ28 12 rfl; clear hF hpre hl hR; go_simp; exact ⟨_, rfl, hgoal _ _ (Below.refl _ _) rfl⟩
        | 13, ho =>
          simp at ho; subst ho; refine step_sk hF hR.2 HQ28 (j := 12) (b := true) rfl rfl (by kernel_rfl) (hpre ⟨12, .guard⟩ (by simp) rfl) rfl (by simp) ?_
          exact ⟨fun _ _ => trivial, hR.go hst HQ28 13 rfl _ _ (Below.refl _ _) rfl⟩
        | 14, ho =>
          simp at ho; subst ho; refine step_sk hF hR.2 HQ28 (j := 12) (b := true) rfl rfl (by kernel_rfl) (hpre ⟨12, .guard⟩ (by simp) rfl) rfl (by simp) ?_
          exact ⟨fun _ _ => trivial, hR.go hst HQ28 14 rfl _ _ (Below.refl _ _) rfl⟩
        | 15, ho =>
          simp at ho; subst ho; refine step_sk hF hR.2 HQ28 (j := 12) (b := true) rfl rfl (by kernel_rfl) (hpre ⟨12, .guard⟩ (by simp) rfl) rfl (by simp) ?_
          exact ⟨fun _ _ => trivial, hR.go hst HQ28 15 rfl _ _ (Below.refl _ _) rfl⟩
        | 16, ho =>
          simp at ho; subst ho; refine step_sk hF hR.2 HQ28 (j := 12) (b := true) rfl rfl (by kernel_rfl) (hpre ⟨12, .guard⟩ (by simp) rfl) rfl (by simp) ?_
          exact ⟨fun _ _ => trivial, hR.go hst HQ28 16 rfl _ _ (Below.refl _ _) rfl⟩
        | 17, ho =>
          simp at ho; subst ho; refine step_sk hF hR.2 HQ28 (j := 12) (b := true) rfl rfl (by kernel_rfl) (hpre ⟨12, .guard⟩ (by simp) rfl) rfl (by simp) ?_
          exact ⟨fun _ _ => trivial, hR.go hst HQ28 17 rfl _ _ (Below.refl _ _) rfl⟩
        | 18, ho =>
          simp at ho; subst ho; refine step_sk hF hR.2 HQ28 (j := 12) (b := true) rfl rfl (by kernel_rfl) (hpre ⟨12, .guard⟩ (by simp) rfl) rfl (by simp) ?_
          exact ⟨fun _ _ => trivial, hR.go hst HQ28 18 rfl _ _ (Below.refl _ _) rfl⟩
        | 19, ho =>
          simp at ho; subst ho; refine step_plain rfl ?_; have e116 := hF.gv hR.2 HQ28 12 rfl (hpre ⟨12, .data⟩ (by simp) rfl) rfl; have e122 := hF.gv hR.2 HQ28 18 rfl (hpre ⟨18, .data⟩ (by simp) rfl) rfl; have hgoal := hR.go hst HQ28 19 rfl; clear hF hpre hl hR; go_simp; exact ⟨_, rfl, hgoal _ _ (Below.refl _ _) rfl⟩
        | 20, ho =>
          simp at ho; subst ho; refine step_plain rfl ?_; have e123 := hF.gv hR.2 HQ28 19 rfl (hpre ⟨19, .data⟩ (by simp) rfl) rfl; have hgoal := hR.go hst HQ28 20 rfl; clear hF hpre hl hR; go_simp; exact ⟨_, rfl, hgoal _ _ (Below.refl _ _) rfl⟩
        | 21, ho =>
          simp at ho; subst ho; refine step_sk hF hR.2 HQ28 (j := 20) (b := true) rfl rfl (by kernel_rfl) (hpre ⟨20, .guard⟩ (by simp) rfl) rfl (by simp) ?_
          exact ⟨fun _ _ => trivial, hR.go hst HQ28 21 rfl _ _ (Below.refl _ _) rfl⟩
        | 22, ho =>
          simp at ho; subst ho; refine step_plain rfl ?_; have e124 := hF.gv hR.2 HQ28 20 rfl (hpre ⟨20, .data⟩ (by simp) rfl) rfl; have e125 := hF.gv hR.2 HQ28 21 rfl (hpre ⟨21, .data⟩ (by simp) rfl) rfl; have hgoal := hR.go hst HQ28 22 rfl; clear hF hpre hl hR; go_simp; exact ⟨_, rfl, hgoal _ _ (Below.refl _ _) rfl⟩
        | 23, ho =>
          simp at ho; subst ho; refine step_plain rfl ?_; have e126 := hF.gv hR.2 HQ28 22 rfl (hpre ⟨22, .data⟩ (by simp) rfl) rfl; have hgoal := hR.go hst HQ28 23 rfl; clear hF hpre hl hR; go_simp; exact ⟨_, rfl, hgoal _ _ (Below.refl _ _) rfl⟩
        | 24, ho =>
          simp at ho; subst ho; refine step_sk hF hR.2 HQ28 (j := 23) (b := true) rfl rfl (by kernel_rfl) (hpre ⟨23, .guard⟩ (by simp) rfl) rfl (by simp) ?_
          exact ⟨fun _ _ => trivial, hR.go hst HQ28 24 rfl _ _ (Below.refl _ _) rfl⟩
        | 25, ho =>
          simp at ho; subst ho; refine step_sk hF hR.2 HQ28 (j := 23) (b := true) rfl rfl (by kernel_rfl) (hpre ⟨23, .guard⟩ (by simp) rfl) rfl (by simp) ?_
          exact ⟨fun _ _ => trivial, hR.go hst HQ28 25 rfl _ _ (Below.refl _ _) rfl⟩
        | 26, ho =>
          simp at ho; subst ho; refine step_sk hF hR.2 HQ28 (j := 23) (b := true) rfl rfl (by kernel_rfl) (hpre ⟨23, .guard⟩ (by simp) rfl) rfl (by simp) ?_
          exact ⟨fun _ _ => trivial, hR.go hst HQ28 26 rfl _ _ (Below.refl _ _) rfl⟩
        | 27, ho =>
          simp at ho; subst ho; refine step_sk hF hR.2 HQ28 (j := 23) (b := true) rfl rfl (by kernel_rfl) (hpre ⟨23, .guard⟩ (by simp) rfl) rfl (by simp) ?_
          exact ⟨fun _ _ => trivial, hR.go hst HQ28 27 rfl _ _ (Below.refl _ _) rfl⟩
        | 28, ho =>
          simp at ho; subst ho; refine step_sk hF hR.2 HQ28 (j := 23) (b := true) rfl rfl (by kernel_rfl) (hpre ⟨23, .guard⟩ (by simp) rfl) rfl (by simp) ?_
          exact ⟨fun _ _ => trivial, hR.go hst HQ28 28 rfl _ _ (Below.refl _ _) rfl⟩
        | 29, ho =>
          simp at ho; subst ho; refine step_sk hF hR.2 HQ28 (j := 23) (b := true) rfl rfl (by kernel_rfl) (hpre ⟨23, .guard⟩ (by simp) rfl) rfl (by simp) ?_
          exact ⟨fun _ _ => trivial, hR.go hst HQ28 29 rfl _ _ (Below.refl _ _) rfl⟩
        | 30, ho =>
          simp at ho; subst ho; refine step_sk hF hR.2 HQ28 (j := 23) (b := true) rfl rfl (by kernel_rfl) (hpre ⟨23, .guard⟩ (by simp) rfl) rfl (by simp) ?_
          exact ⟨fun _ _ => trivial, hR.go hst HQ28 30 rfl _ _ (Below.refl _ _) rfl⟩
        | 31, ho =>
          simp at ho; subst ho; refine step_sk hF hR.2 HQ28 (j := 23) (b := true) rfl rfl (by kernel_rfl) (hpre ⟨23, .guard⟩ (by simp) rfl) rfl (by simp) ?_
          exact ⟨fun _ _ => trivial, hR.go hst HQ28 31 rfl _ _ (Below.refl _ _) rfl⟩
        | 32, ho =>
          simp at ho; subst ho; refine step_sk hF hR.2 HQ28 (j := 23) (b := true) rfl rfl (by kernel_rfl) (hpre ⟨23, .guard⟩ (by simp) rfl) rfl (by simp) ?_
          exact ⟨fun _ _ => trivial, hR.go hst HQ28 32 rfl _ _ (Below.refl _ _) rfl⟩
        | 33, ho =>
          simp at ho; subst ho; refine step_sk hF hR.2 HQ28 (j := 23) (b := true) rfl rfl (by kernel_rfl) (hpre ⟨23, .guard⟩ (by simp) rfl) rfl (by simp) ?_
          exact ⟨fun _ _ => trivial, hR.go hst HQ28 33 rfl _ _ (Below.refl _ _) rfl⟩
        | 34, ho =>
          simp at ho; subst ho; refine step_plain rfl ?_; have e127 := hF.gv hR.2 HQ28 23 rfl (hpre ⟨23, .data⟩ (by simp) rfl) rfl; have e137 := hF.gv hR.2 HQ28 33 rfl (hpre ⟨33, .data⟩ (by simp) rfl) rfl; have hgoal := hR.go hst HQ28 34 rfl; clear hF hpre hl hR; go_simp; exact ⟨_, rfl, hgoal _ _ (Below.refl _ _) rfl⟩
        | 35, ho =>
          simp at ho; subst ho; refine step_plain rfl ?_; have e138 := hF.gv hR.2 HQ28 34 rfl (hpre ⟨34, .data⟩ (by simp) rfl) rfl; have hgoal := hR.go hst HQ28 35 rfl; clear hF hpre hl hR; go_simp; exact ⟨_, rfl, hgoal _ _ (Below.refl _ _) rfl⟩
        | i + 36, ho => simp at ho
      case hend28 =>
        intro val L b' x hF hall hR
        have e := hF.all (by kernel_rfl) hall
        have k2835 := QG.val HQ28 rfl (hR.2 35 (hall 35 (by decide)))
        have hB28 := Lib.hid hR.1
        clear hF hall hR hst HQ28 U282
        subst e
        simp [final, dstOf, List.range, List.range.loop]
        rw [k2835]
        go_wp2
        go_ret
        exact ⟨rfl, HB1.out.trans (hB28.out.mono HB1.out.size)⟩

end
end Go.Proofs.Ytnnmmojlgikdgaa

/- The winch: what is possible. -/
namespace Go.Proofs.Ytnnmmojlgikdgaa
open Go.RowKit

section
variable (g : Nat) (cable charge y1 y2 len wt since cyc : Int) (cut tch : Bool) (k n : Int) (AX AY AV : Option Addr) (nx cx ny cy nv cv B : Nat) (X Y : List Int) (V : List (List Int)) (w : World)

theorem possible_any (ht : HT w B AX AY AV nx ny nv X Y V) (h : WN w g cable AX nx cx AY ny cy AV nv cv charge ⟨len, wt, since, cyc, cut, tch⟩ y1 y2) (z0 : 0 ≤ len) (z1 : len ≤ cable) (z2 : cable ≤ 100) :
    Calls Try.prog 110 #[.pointer (some ⟨g, 0, none⟩), .agg #[.int .i64 k, .int .i64 n]] w fun e w' => e = .returned (.bool (posB (fun l u => carB X Y V l l y1 y2 u) cable charge ⟨len, wt, since, cyc, cut, tch⟩ k n)) ∧ Below w.heap.size w w' := by
  by_cases k1 : k = 1
  · subst k1; exact possible1 g cable charge y1 y2 len wt since cyc cut tch n AX AY AV nx cx ny cy nv cv B X Y V w ht h z0 z1 z2
  by_cases k2 : k = 2
  · subst k2; exact possible2 g cable charge y1 y2 len wt since cyc cut tch n AX AY AV nx cx ny cy nv cv B X Y V w ht h z0 z1 z2
  by_cases k3 : k = 3
  · subst k3; exact possible3 g cable charge y1 y2 len wt since cyc cut tch n AX AY AV nx cx ny cy nv cv B X Y V w ht h z0 z1 z2
  by_cases k4 : k = 4
  · subst k4
    cases tch with
    | true => exact possible4_true g cable charge y1 y2 len wt since cyc cut n AX AY AV nx cx ny cy nv cv B X Y V w ht h z0 z1 z2
    | false => exact possible4_false g cable charge y1 y2 len wt since cyc cut n AX AY AV nx cx ny cy nv cv B X Y V w ht h z0 z1 z2
  by_cases k5 : k = 5
  · subst k5; exact possible5 g cable charge y1 y2 len wt since cyc cut tch n AX AY AV nx cx ny cy nv cv B X Y V w ht h z0 z1 z2
  by_cases k6 : k = 6
  · subst k6; exact possible6 g cable charge y1 y2 len wt since cyc cut tch n AX AY AV nx cx ny cy nv cv B X Y V w ht h z0 z1 z2
  exact possible0 g cable charge y1 y2 len wt since cyc cut tch k n AX AY AV nx cx ny cy nv cv B X Y V w ht h z0 z1 z2 k1 k2 k3 k4 k5 k6
end
end Go.Proofs.Ytnnmmojlgikdgaa

/- All blocks but one are kept. -/
namespace Go.Proofs.Ytnnmmojlgikdgaa
open Go.RowKit

def Kept (g : Nat) (W W' : World) : Prop := Below g W W' ∧ ∀ b, b < W.heap.size → b ≠ g → W'.heap[b]? = W.heap[b]?
section
variable {g : Nat} {W W1 W2 : World}
theorem Kept.refl (g : Nat) (W : World) : Kept g W W := ⟨Below.refl _ _, fun _ _ _ => rfl⟩
theorem Kept.of (h : Below W.heap.size W W1) (hg : g ≤ W.heap.size) : Kept g W W1 := ⟨h.mono hg, fun b hb _ => h.block b hb⟩
theorem Kept.trans (h : Kept g W W1) (h2 : Kept g W1 W2) : Kept g W W2 :=
  ⟨h.1.trans h2.1, fun b hb hn => (h2.2 b (Nat.lt_of_lt_of_le hb h.1.size) hn).trans (h.2 b hb hn)⟩
theorem Kept.setCell (h : Kept g W W1) (o : Nat) (v : Value) : Kept g W (W1.setCell ⟨g, o, none⟩ v) :=
  ⟨h.1.setCell (Nat.le_refl _) v, fun b hb hn => by
    rw [← h.2 b hb hn]
    exact Below.heap_setCell _ _ _ _ hn⟩
theorem Kept.cell (h : Kept g W W1) {b o : Nat} {v : Value} (hc : W.cell? ⟨b, o, none⟩ = some v) (hn : b ≠ g) : W1.cell? ⟨b, o, none⟩ = some v := by
  have hl : b < W.heap.size := World.block_lt_of_cell? W _ hc
  unfold World.cell? at hc ⊢
  rw [h.2 b hl hn]
  exact hc
theorem Kept.low (h : Kept g W W1) {B : Nat} (hB : B ≤ g) : Below B W W1 := h.1.mono hB
theorem Kept.ht {B : Nat} {AX AY AV : Option Addr} {nx ny nv : Nat} {X Y : List Int} {V : List (List Int)} (h : Kept g W W1) (hB : B ≤ g) (ht : HT W B AX AY AV nx ny nv X Y V) : HT W1 B AX AY AV nx ny nv X Y V :=
  ⟨ht.hx, ht.hy, ht.hv, ht.mx, ht.my, ht.mv, ht.mr, ht.tb.below (h.low hB), by have := h.1.size; have := ht.hB; omega⟩
end
end Go.Proofs.Ytnnmmojlgikdgaa

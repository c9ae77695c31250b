/- Contracts of the functions that the statement reaches: JPos2, JPos3. -/
import Derived.Test.YtnnmmojlgikdgaaM5
import Derived.Test.YtnnmmojlgikdgaaM7

/- The winch: what is possible. -/
namespace Go.Proofs.Ytnnmmojlgikdgaa
open Go.RowKit

section
variable (g : Nat) (cable charge y1 y2 len wt since cyc : Int) (cut tch : Bool) (k n : Int) (AX AY AV : Option Addr) (nx cx ny cy nv cv B : Nat) (X Y : List Int) (V : List (List Int)) (w : World)

set_option maxRecDepth 100000 in
set_option maxHeartbeats 8000000 in
theorem possible2 (ht : HT w B AX AY AV nx ny nv X Y V) (h : WN w g cable AX nx cx AY ny cy AV nv cv charge ⟨len, wt, since, cyc, cut, tch⟩ y1 y2) (_z0 : 0 ≤ len) (z1 : len ≤ cable) (z2 : cable ≤ 100) :
    Calls Try.prog 110 #[.pointer (some ⟨g, 0, none⟩), .agg #[.int .i64 2, .int .i64 n]] w fun e w' => e = .returned (.bool (posB (fun l u => carB X Y V l l y1 y2 u) cable charge ⟨len, wt, since, cyc, cut, tch⟩ 2 n)) ∧ Below w.heap.size w w' := by
  have HAL := Lib.hid alone_any
  have HCA := Lib.hid (fun (W : World) (hW : Below w.heap.size w W) (a : Int) (u : Int) => carries_any g cable charge y1 y2 a a u ⟨len, wt, since, cyc, cut, tch⟩ AX AY AV nx cx ny cy nv cv B X Y V W (ht.below hW) (h.stay hW))
  by_cases g1 : 1 ≤ n ∧ n ≤ len
  · have G1 := Lib.hid (show wB 1 (len) [n] = true by rw [wB_one]; simp [g1])
    rw [show posB (fun l u => carB X Y V l l y1 y2 u) cable charge ⟨len, wt, since, cyc, cut, tch⟩ 2 n = carB X Y V (len - n) (len - n) y1 y2 wt by unfold posB; simp [g1]]
    replace HCA := Lib.hid (fun W hW => HCA.out W hW (len - n) wt)
    generalize carB X Y V (len - n) (len - n) y1 y2 wt = cb at *
    have i2 : IntKind.i64.wrap (len - n) = len - n := IntWalk.i64_in _ (by omega)
    have hW1 : WN (w.alloc (.cells #[.int .i64 2, .int .i64 n] 82)) g cable AX nx cx AY ny cy AV nv cv charge ⟨len, wt, since, cyc, cut, tch⟩ y1 y2 := h.stay ((Below.refl _ _).alloc (Nat.le_refl _) _)
    have hB1 : Below w.heap.size w (w.alloc (.cells #[.int .i64 2, .int .i64 n] 82)) := (Below.refl _ _).alloc (Nat.le_refl _) _
    have l0 : (w.alloc (.cells #[.int .i64 2, .int .i64 n] 82)).cell? ⟨w.heap.size, 0, none⟩ = some (.int .i64 2) := by rw [cell_newest]; rfl
    have l1 : (w.alloc (.cells #[.int .i64 2, .int .i64 n] 82)).cell? ⟨w.heap.size, 1, none⟩ = some (.int .i64 n) := by rw [cell_newest]; rfl
    have c0 := cellOf (o := 0) hW1 rfl
    have c4 := cellOf (o := 4) hW1 rfl
    have c5 := cellOf (o := 5) hW1 rfl
    have c6 := cellOf (o := 6) hW1 rfl
    have c7 := cellOf (o := 7) hW1 rfl
    have c12 := cellOf (o := 12) hW1 rfl
    have hg := hW1.lt
    have HB1 := Lib.hid hB1
    clear hW1 hB1 h ht
    go_enter Try.func110, Try.ntmps110
    go_upto_region 5 with (fail)
    generalize w.alloc _ = w1 at *
    obtain ⟨Q3, hQ3⟩ : ∃ q9 : Nat → Value → World → Prop, q9 = QG [some (.pointer (some ⟨g, 0, none⟩)), some (.pointer (some ⟨g, 0, none⟩)), some (.pointer (some ⟨g, 5, none⟩)), some (.pointer (some ⟨g, 5, none⟩)), some (.int .i64 len), some (.pointer (some ⟨w.heap.size, 1, none⟩)), some (.int .i64 n), none, some (.bool true), some (.bool true), some (.pointer (some ⟨g, 0, none⟩)), some (.pointer (some ⟨g, 0, none⟩)), some (.pointer (some ⟨g, 0, none⟩)), some (.pointer (some ⟨g, 5, none⟩)), some (.pointer (some ⟨g, 5, none⟩)), some (.int .i64 len), some (.pointer (some ⟨w.heap.size, 1, none⟩)), some (.int .i64 n), some (.int .i64 (len - n)), some (.agg #[.int .i64 (len - n), .int .i64 (len - n)]), some (.pointer (some ⟨g, 0, none⟩)), some (.pointer (some ⟨g, 0, none⟩)), some (.pointer (some ⟨g, 5, none⟩)), some (.pointer (some ⟨g, 6, none⟩)), some (.int .i64 wt), some (.bool cb), some (.bool cb), some (.bool cb)] (fun j0' v0' w0' => (j0' = 7 → QI [n] v0' w0')) := ⟨_, rfl⟩
    have hst : Stays Q3 := by rw [hQ3]; exact QG.stays (fun j v W W' h hb => fun e => (h e).stay hb)
    have U37 := Lib.hid (show ∀ v0' w0', Q3 7 v0' w0' ↔ QI [n] v0' w0' from fun v0' w0' => by rw [hQ3]; exact ⟨fun h => h rfl, fun h => fun _ => h⟩)
    have HQ3 := Lib.hid hQ3
    clear hQ3
    refine wpIn_wide.1 (region_inv2 (n := 9) (by kernel_rfl) (RQ Q3 w1) (by kernel_rfl) rfl (RQ.start _ _ _) ?hstep3 ?hend3)
    case hstep3 =>
      intro i' o ho val L b' x hF hR hpre hl
      match i', ho with
      | 0, ho =>
        simp at ho; subst ho; refine step_plain rfl ?_; have e0 := hF.was 0 (by kernel_rfl) rfl; have hgoal := hR.go hst HQ3 0 rfl; clear hF hpre hl hR; go_simp; exact ⟨_, rfl, hgoal _ _ (Below.refl _ _) rfl⟩
      | 1, ho =>
        simp at ho; subst ho; refine step_plain rfl ?_; have e45 := hF.gv hR.2 HQ3 0 rfl (hpre ⟨0, .data⟩ (by simp) rfl) rfl; have hgoal := hR.go hst HQ3 1 rfl; clear hF hpre hl hR; go_simp; exact ⟨_, rfl, hgoal _ _ (Below.refl _ _) rfl⟩
      | 2, ho =>
        simp at ho; subst ho; refine step_plain rfl ?_; have e46 := hF.gv hR.2 HQ3 1 rfl (hpre ⟨1, .data⟩ (by simp) rfl) rfl; have hgoal := hR.go hst HQ3 2 rfl; clear hF hpre hl hR; go_simp; exact ⟨_, rfl, hgoal _ _ (Below.refl _ _) rfl⟩
      | 3, ho =>
        simp at ho; subst ho; refine step_plain rfl ?_; have e47 := hF.gv hR.2 HQ3 2 rfl (hpre ⟨2, .data⟩ (by simp) rfl) rfl; have hgoal := hR.go hst HQ3 3 rfl; clear hF hpre hl hR; go_simp; exact ⟨_, rfl, hgoal _ _ (Below.refl _ _) rfl⟩
      | 4, ho =>
        simp at ho; subst ho; refine step_plain rfl ?_; have e48 := hF.gv hR.2 HQ3 3 rfl (hpre ⟨3, .data⟩ (by simp) rfl) rfl; have hgoal := hR.go hst HQ3 4 rfl; have q0 := cell_keep hR.1 c5; clear hF hpre hl hR; go_simp; exact ⟨_, rfl, hgoal _ _ (Below.refl _ _) rfl⟩
      | 5, ho =>
        simp at ho; subst ho; refine step_plain rfl ?_; have e3 := hF.was 3 (by kernel_rfl) rfl; have hgoal := hR.go hst HQ3 5 rfl; clear hF hpre hl hR; go_simp; exact ⟨_, rfl, hgoal _ _ (Below.refl _ _) rfl⟩
      | 6, ho =>
        simp at ho; subst ho; refine step_plain rfl ?_; have e50 := hF.gv hR.2 HQ3 5 rfl (hpre ⟨5, .data⟩ (by simp) rfl) rfl; have hgoal := hR.go hst HQ3 6 rfl; have q0 := cell_keep hR.1 l1; clear hF hpre hl hR; go_simp; exact ⟨_, rfl, hgoal _ _ (Below.refl _ _) rfl⟩
      | 7, ho =>
        simp at ho; subst ho; refine step_plain rfl ?_; have e51 := hF.gv hR.2 HQ3 6 rfl (hpre ⟨6, .data⟩ (by simp) rfl) rfl
        have hgoal : ∀ v0' w0', Below x.heap.size x w0' → QI [n] v0' w0' → RQ Q3 w1 (upd val 7 v0') (L.setIfInBounds 7 true) w0' := fun v0' w0' hb hq => hR.step hst hb ((U37.out _ _).2 hq)
        have hM := Lib.hid hR.1
        clear hF hpre hl hR; go_simp; exact ⟨_, rfl, hgoal _ _ ((Below.refl _ _).alloc (Nat.le_refl _) _) ⟨_, _, rfl, Nat.le_refl _, (RI.new1 rfl).more (by simp)⟩⟩
      | 8, ho =>
        simp at ho; subst ho; refine step_plain rfl ?_; have e49 := hF.gv hR.2 HQ3 4 rfl (hpre ⟨4, .data⟩ (by simp) rfl) rfl; have e52 := hF.gave 7 rfl (hpre ⟨7, .data⟩ (by simp) rfl) rfl
        have v7 := (U37.out _ _).1 (hR.2 7 (hpre ⟨7, .data⟩ (by simp) rfl))
        have hgoal := hR.go hst HQ3 8 rfl
        have hM := Lib.hid hR.1
        clear hF hpre hl hR
        obtain ⟨A9, c9, h9, _, hr9⟩ := v7
        rw [h9] at e52
        go_simp
        refine ⟨trivial, ?_⟩
        refine CallsIn.mono (callsIn_wide.2 (within_any 1 (len) _ 1 _ _ [n] _ rfl (le_maxLen (by omega)) hr9)) ?_
        rintro e w9 ⟨rfl, rfl⟩
        exact ⟨_, rfl, hgoal _ _ (Below.refl _ _) (by rw [G1.out])⟩
      | 9, ho =>
        simp at ho; subst ho; refine step_plain rfl ?_; have e53 := hF.gv hR.2 HQ3 8 rfl (hpre ⟨8, .data⟩ (by simp) rfl) rfl; have hgoal := hR.go hst HQ3 9 rfl; clear hF hpre hl hR; go_simp; exact ⟨_, rfl, hgoal _ _ (Below.refl _ _) rfl⟩
      | 10, ho =>
        simp at ho; subst ho; refine step_gd hF hR.2 HQ3 (j := 9) (b := true) rfl rfl (by kernel_rfl) (hpre ⟨9, .guard⟩ (by simp) rfl) rfl ?_; have e0 := hF.was 0 (by kernel_rfl) rfl; have hgoal := hR.go hst HQ3 10 rfl; clear hF hpre hl hR; go_simp; exact ⟨_, rfl, hgoal _ _ (Below.refl _ _) rfl⟩
      | 11, ho =>
        simp at ho; subst ho; refine step_gd hF hR.2 HQ3 (j := 9) (b := true) rfl rfl (by kernel_rfl) (hpre ⟨9, .guard⟩ (by simp) rfl) rfl ?_; have e0 := hF.was 0 (by kernel_rfl) rfl; have hgoal := hR.go hst HQ3 11 rfl; clear hF hpre hl hR; go_simp; exact ⟨_, rfl, hgoal _ _ (Below.refl _ _) rfl⟩
      | 12, ho =>
        simp at ho; subst ho; refine step_gd hF hR.2 HQ3 (j := 9) (b := true) rfl rfl (by kernel_rfl) (hpre ⟨9, .guard⟩ (by simp) rfl) rfl ?_; have e56 := hF.gv hR.2 HQ3 11 rfl (hpre ⟨11, .data⟩ (by simp) rfl) rfl; have hgoal := hR.go hst HQ3 12 rfl; clear hF hpre hl hR; go_simp; exact ⟨_, rfl, hgoal _ _ (Below.refl _ _) rfl⟩
      | 13, ho =>
        simp at ho; subst ho; refine step_gd hF hR.2 HQ3 (j := 9) (b := true) rfl rfl (by kernel_rfl) (hpre ⟨9, .guard⟩ (by simp) rfl) rfl ?_; have e57 := hF.gv hR.2 HQ3 12 rfl (hpre ⟨12, .data⟩ (by simp) rfl) rfl; have hgoal := hR.go hst HQ3 13 rfl; clear hF hpre hl hR; go_simp; exact ⟨_, rfl, hgoal _ _ (Below.refl _ _) rfl⟩
      | 14, ho =>
        simp at ho; subst ho; refine step_gd hF hR.2 HQ3 (j := 9) (b := true) rfl rfl (by kernel_rfl) (hpre ⟨9, .guard⟩ (by simp) rfl) rfl ?_; have e58 := hF.gv hR.2 HQ3 13 rfl (hpre ⟨13, .data⟩ (by simp) rfl) rfl; have hgoal := hR.go hst HQ3 14 rfl; clear hF hpre hl hR; go_simp; exact ⟨_, rfl, hgoal _ _ (Below.refl _ _) rfl⟩
      | 15, ho =>
        simp at ho; subst ho; refine step_gd hF hR.2 HQ3 (j := 9) (b := true) rfl rfl (by kernel_rfl) (hpre ⟨9, .guard⟩ (by simp) rfl) rfl ?_; have e59 := hF.gv hR.2 HQ3 14 rfl (hpre ⟨14, .data⟩ (by simp) rfl) rfl; have hgoal := hR.go hst HQ3 15 rfl; have q0 := cell_keep hR.1 c5; clear hF hpre hl hR; go_simp; exact ⟨_, rfl, hgoal _ _ (Below.refl _ _) rfl⟩
      | 16, ho =>
        simp at ho; subst ho; refine step_gd hF hR.2 HQ3 (j := 9) (b := true) rfl rfl (by kernel_rfl) (hpre ⟨9, .guard⟩ (by simp) rfl) rfl ?_; have e3 := hF.was 3 (by kernel_rfl) rfl; have hgoal := hR.go hst HQ3 16 rfl; clear hF hpre hl hR; go_simp; exact ⟨_, rfl, hgoal _ _ (Below.refl _ _) rfl⟩
      | 17, ho =>
        simp at ho; subst ho; refine step_gd hF hR.2 HQ3 (j := 9) (b := true) rfl rfl (by kernel_rfl) (hpre ⟨9, .guard⟩ (by simp) rfl) rfl ?_; have e61 := hF.gv hR.2 HQ3 16 rfl (hpre ⟨16, .data⟩ (by simp) rfl) rfl; have hgoal := hR.go hst HQ3 17 rfl; have q0 := cell_keep hR.1 l1; clear hF hpre hl hR; go_simp; exact ⟨_, rfl, hgoal _ _ (Below.refl _ _) rfl⟩
      | 18, ho =>
        simp at ho; subst ho; refine step_gd hF hR.2 HQ3 (j := 9) (b := true) rfl rfl (by kernel_rfl) (hpre ⟨9, .guard⟩ (by simp) rfl) rfl ?_; have e60 := hF.gv hR.2 HQ3 15 rfl (hpre ⟨15, .data⟩ (by simp) rfl) rfl; have e62 := hF.gv hR.2 HQ3 17 rfl (hpre ⟨17, .data⟩ (by simp) rfl) rfl; have hgoal := hR.go hst HQ3 18 rfl; clear hF hpre hl hR; go_simp; exact ⟨_, rfl, hgoal _ _ (Below.refl _ _) rfl⟩
      | 19, ho =>
        simp at ho; subst ho; refine step_gd hF hR.2 HQ3 (j := 9) (b := true) rfl rfl (by kernel_rfl) (hpre ⟨9, .guard⟩ (by simp) rfl) rfl ?_; have e63 := hF.gv hR.2 HQ3 18 rfl (hpre ⟨18, .data⟩ (by simp) rfl) rfl; have hgoal := hR.go hst HQ3 19 rfl
        have hM := Lib.hid hR.1
        clear hF hpre hl hR; go_simp
        refine ⟨trivial, ?_⟩
        refine CallsIn.mono (callsIn_wide.2 (HAL.out _ _)) ?_
        rintro e w9 ⟨rfl, hb9⟩
        exact ⟨_, rfl, hgoal _ _ hb9 rfl⟩
      | 20, ho =>
        simp at ho; subst ho; refine step_gd hF hR.2 HQ3 (j := 9) (b := true) rfl rfl (by kernel_rfl) (hpre ⟨9, .guard⟩ (by simp) rfl) rfl ?_; have e0 := hF.was 0 (by kernel_rfl) rfl; have hgoal := hR.go hst HQ3 20 rfl; clear hF hpre hl hR; go_simp; exact ⟨_, rfl, hgoal _ _ (Below.refl _ _) rfl⟩
      | 21, ho =>
        simp at ho; subst ho; refine step_gd hF hR.2 HQ3 (j := 9) (b := true) rfl rfl (by kernel_rfl) (hpre ⟨9, .guard⟩ (by simp) rfl) rfl ?_; have e65 := hF.gv hR.2 HQ3 20 rfl (hpre ⟨20, .data⟩ (by simp) rfl) rfl; have hgoal := hR.go hst HQ3 21 rfl; clear hF hpre hl hR; go_simp; exact ⟨_, rfl, hgoal _ _ (Below.refl _ _) rfl⟩
      | 22, ho =>
        simp at ho; subst ho; refine step_gd hF hR.2 HQ3 (j := 9) (b := true) rfl rfl (by kernel_rfl) (hpre ⟨9, .guard⟩ (by simp) rfl) rfl ?_; have e66 := hF.gv hR.2 HQ3 21 rfl (hpre ⟨21, .data⟩ (by simp) rfl) rfl; have hgoal := hR.go hst HQ3 22 rfl; clear hF hpre hl hR; go_simp; exact ⟨_, rfl, hgoal _ _ (Below.refl _ _) rfl⟩
      | 23, ho =>
        simp at ho; subst ho; refine step_gd hF hR.2 HQ3 (j := 9) (b := true) rfl rfl (by kernel_rfl) (hpre ⟨9, .guard⟩ (by simp) rfl) rfl ?_; have e67 := hF.gv hR.2 HQ3 22 rfl (hpre ⟨22, .data⟩ (by simp) rfl) rfl; have hgoal := hR.go hst HQ3 23 rfl; clear hF hpre hl hR; go_simp; exact ⟨_, rfl, hgoal _ _ (Below.refl _ _) rfl⟩
      | 24, ho =>
        simp at ho; subst ho; refine step_gd hF hR.2 HQ3 (j := 9) (b := true) rfl rfl (by kernel_rfl) (hpre ⟨9, .guard⟩ (by simp) rfl) rfl ?_; have e68 := hF.gv hR.2 HQ3 23 rfl (hpre ⟨23, .data⟩ (by simp) rfl) rfl; have hgoal := hR.go hst HQ3 24 rfl; have q0 := cell_keep hR.1 c6; clear hF hpre hl hR; go_simp; exact ⟨_, rfl, hgoal _ _ (Below.refl _ _) rfl⟩
      | 25, ho =>
        simp at ho; subst ho; refine step_gd hF hR.2 HQ3 (j := 9) (b := true) rfl rfl (by kernel_rfl) (hpre ⟨9, .guard⟩ (by simp) rfl) rfl ?_; have e55 := hF.gv hR.2 HQ3 10 rfl (hpre ⟨10, .data⟩ (by simp) rfl) rfl; have e64 := hF.gv hR.2 HQ3 19 rfl (hpre ⟨19, .data⟩ (by simp) rfl) rfl; have e69 := hF.gv hR.2 HQ3 24 rfl (hpre ⟨24, .data⟩ (by simp) rfl) rfl; have hgoal := hR.go hst HQ3 25 rfl
        have hM := Lib.hid hR.1
        clear hF hpre hl hR; go_simp
        refine ⟨trivial, ?_⟩
        refine CallsIn.mono (callsIn_wide.2 (HCA.out _ (HB1.out.trans (hM.out.mono HB1.out.size)))) ?_
        rintro e w9 ⟨rfl, hb9⟩
        exact ⟨_, rfl, hgoal _ _ hb9 rfl⟩
      | 26, ho =>
        simp at ho; subst ho; refine step_plain rfl ?_; have e54 := hF.gv hR.2 HQ3 9 rfl (hpre ⟨9, .data⟩ (by simp) rfl) rfl; have e70 := hF.gv hR.2 HQ3 25 rfl (hpre ⟨25, .data⟩ (by simp) rfl) rfl; have hgoal := hR.go hst HQ3 26 rfl; clear hF hpre hl hR; go_simp; exact ⟨_, rfl, hgoal _ _ (Below.refl _ _) rfl⟩
      | 27, ho =>
        simp at ho; subst ho; refine step_plain rfl ?_; have e71 := hF.gv hR.2 HQ3 26 rfl (hpre ⟨26, .data⟩ (by simp) rfl) rfl; have hgoal := hR.go hst HQ3 27 rfl; clear hF hpre hl hR; go_simp; exact ⟨_, rfl, hgoal _ _ (Below.refl _ _) rfl⟩
      | i + 28, ho => simp at ho
    case hend3 =>
      intro val L b' x hF hall hR
      have e := hF.all (by kernel_rfl) hall
      have k327 := QG.val HQ3 rfl (hR.2 27 (hall 27 (by decide)))
      have hB3 := Lib.hid hR.1
      clear hF hall hR hst HQ3 U37
      subst e
      simp [final, dstOf, List.range, List.range.loop]
      rw [k327]
      go_wp2
      go_ret
      exact ⟨rfl, HB1.out.trans (hB3.out.mono HB1.out.size)⟩
  · have G1 := Lib.hid (show wB 1 (len) [n] = false by rw [wB_one]; simpa using g1)
    rw [show posB (fun l u => carB X Y V l l y1 y2 u) cable charge ⟨len, wt, since, cyc, cut, tch⟩ 2 n = false by unfold posB; simp; intro a b; omega]
    clear g1
    have hW1 : WN (w.alloc (.cells #[.int .i64 2, .int .i64 n] 82)) g cable AX nx cx AY ny cy AV nv cv charge ⟨len, wt, since, cyc, cut, tch⟩ y1 y2 := h.stay ((Below.refl _ _).alloc (Nat.le_refl _) _)
    have hB1 : Below w.heap.size w (w.alloc (.cells #[.int .i64 2, .int .i64 n] 82)) := (Below.refl _ _).alloc (Nat.le_refl _) _
    have l0 : (w.alloc (.cells #[.int .i64 2, .int .i64 n] 82)).cell? ⟨w.heap.size, 0, none⟩ = some (.int .i64 2) := by rw [cell_newest]; rfl
    have l1 : (w.alloc (.cells #[.int .i64 2, .int .i64 n] 82)).cell? ⟨w.heap.size, 1, none⟩ = some (.int .i64 n) := by rw [cell_newest]; rfl
    have c0 := cellOf (o := 0) hW1 rfl
    have c4 := cellOf (o := 4) hW1 rfl
    have c5 := cellOf (o := 5) hW1 rfl
    have c6 := cellOf (o := 6) hW1 rfl
    have c7 := cellOf (o := 7) hW1 rfl
    have c12 := cellOf (o := 12) hW1 rfl
    have hg := hW1.lt
    have HB1 := Lib.hid hB1
    clear hW1 hB1 h ht
    go_enter Try.func110, Try.ntmps110
    go_upto_region 5 with (fail)
    generalize w.alloc _ = w1 at *
    obtain ⟨Q4, hQ4⟩ : ∃ q9 : Nat → Value → World → Prop, q9 = QG [some (.pointer (some ⟨g, 0, none⟩)), some (.pointer (some ⟨g, 0, none⟩)), some (.pointer (some ⟨g, 5, none⟩)), some (.pointer (some ⟨g, 5, none⟩)), some (.int .i64 len), some (.pointer (some ⟨w.heap.size, 1, none⟩)), some (.int .i64 n), none, some (.bool false), some (.bool false), some (undef), some (undef), some (undef), some (undef), some (undef), some (undef), some (undef), some (undef), some (undef), some (undef), some (undef), some (undef), some (undef), some (undef), some (undef), some (undef), some (.bool false), some (.bool false)] (fun j0' v0' w0' => (j0' = 7 → QI [n] v0' w0')) := ⟨_, rfl⟩
    have hst : Stays Q4 := by rw [hQ4]; exact QG.stays (fun j v W W' h hb => fun e => (h e).stay hb)
    have U47 := Lib.hid (show ∀ v0' w0', Q4 7 v0' w0' ↔ QI [n] v0' w0' from fun v0' w0' => by rw [hQ4]; exact ⟨fun h => h rfl, fun h => fun _ => h⟩)
    have HQ4 := Lib.hid hQ4
    clear hQ4
    refine wpIn_wide.1 (region_inv2 (n := 9) (by kernel_rfl) (RQ Q4 w1) (by kernel_rfl) rfl (RQ.start _ _ _) ?hstep4 ?hend4)
    case hstep4 =>
      intro i' o ho val L b' x hF hR hpre hl
      match i', ho with
      | 0, ho =>
        simp at ho; subst ho; refine step_plain rfl ?_; have e0 := hF.was 0 (by kernel_rfl) rfl; have hgoal := hR.go hst HQ4 0 rfl; clear hF hpre hl hR; go_simp; exact ⟨_, rfl, hgoal _ _ (Below.refl _ _) rfl⟩
      | 1, ho =>
        simp at ho; subst ho; refine step_plain rfl ?_; have e45 := hF.gv hR.2 HQ4 0 rfl (hpre ⟨0, .data⟩ (by simp) rfl) rfl; have hgoal := hR.go hst HQ4 1 rfl; clear hF hpre hl hR; go_simp; exact ⟨_, rfl, hgoal _ _ (Below.refl _ _) rfl⟩
      | 2, ho =>
        simp at ho; subst ho; refine step_plain rfl ?_; have e46 := hF.gv hR.2 HQ4 1 rfl (hpre ⟨1, .data⟩ (by simp) rfl) rfl; have hgoal := hR.go hst HQ4 2 rfl; clear hF hpre hl hR; go_simp; exact ⟨_, rfl, hgoal _ _ (Below.refl _ _) rfl⟩
      | 3, ho =>
        simp at ho; subst ho; refine step_plain rfl ?_; have e47 := hF.gv hR.2 HQ4 2 rfl (hpre ⟨2, .data⟩ (by simp) rfl) rfl; have hgoal := hR.go hst HQ4 3 rfl; clear hF hpre hl hR; go_simp; exact ⟨_, rfl, hgoal _ _ (Below.refl _ _) rfl⟩
      | 4, ho =>
        simp at ho; subst ho; refine step_plain rfl ?_; have e48 := hF.gv hR.2 HQ4 3 rfl (hpre ⟨3, .data⟩ (by simp) rfl) rfl; have hgoal := hR.go hst HQ4 4 rfl; have q0 := cell_keep hR.1 c5; clear hF hpre hl hR; go_simp; exact ⟨_, rfl, hgoal _ _ (Below.refl _ _) rfl⟩
      | 5, ho =>
        simp at ho; subst ho; refine step_plain rfl ?_; have e3 := hF.was 3 (by kernel_rfl) rfl; have hgoal := hR.go hst HQ4 5 rfl; clear hF hpre hl hR; go_simp; exact ⟨_, rfl, hgoal _ _ (Below.refl _ _) rfl⟩
      | 6, ho =>
        simp at ho; subst ho; refine step_plain rfl ?_; have e50 := hF.gv hR.2 HQ4 5 rfl (hpre ⟨5, .data⟩ (by simp) rfl) rfl; have hgoal := hR.go hst HQ4 6 rfl; have q0 := cell_keep hR.1 l1; clear hF hpre hl hR; go_simp; exact ⟨_, rfl, hgoal _ _ (Below.refl _ _) rfl⟩
      | 7, ho =>
        simp at ho; subst ho; refine step_plain rfl ?_; have e51 := hF.gv hR.2 HQ4 6 rfl (hpre ⟨6, .data⟩ (by simp) rfl) rfl
        have hgoal : ∀ v0' w0', Below x.heap.size x w0' → QI [n] v0' w0' → RQ Q4 w1 (upd val 7 v0') (L.setIfInBounds 7 true) w0' := fun v0' w0' hb hq => hR.step hst hb ((U47.out _ _).2 hq)
        have hM := Lib.hid hR.1
        clear hF hpre hl hR; go_simp; exact ⟨_, rfl, hgoal _ _ ((Below.refl _ _).alloc (Nat.le_refl _) _) ⟨_, _, rfl, Nat.le_refl _, (RI.new1 rfl).more (by simp)⟩⟩
      | 8, ho =>
        simp at ho; subst ho; refine step_plain rfl ?_; have e49 := hF.gv hR.2 HQ4 4 rfl (hpre ⟨4, .data⟩ (by simp) rfl) rfl; have e52 := hF.gave 7 rfl (hpre ⟨7, .data⟩ (by simp) rfl) rfl
        have v7 := (U47.out _ _).1 (hR.2 7 (hpre ⟨7, .data⟩ (by simp) rfl))
        have hgoal := hR.go hst HQ4 8 rfl
        have hM := Lib.hid hR.1
        clear hF hpre hl hR
        obtain ⟨A9, c9, h9, _, hr9⟩ := v7
        rw [h9] at e52
        go_simp
        refine ⟨trivial, ?_⟩
        refine CallsIn.mono (callsIn_wide.2 (within_any 1 (len) _ 1 _ _ [n] _ rfl (le_maxLen (by omega)) hr9)) ?_
        rintro e w9 ⟨rfl, rfl⟩
        exact ⟨_, rfl, hgoal _ _ (Below.refl _ _) (by rw [G1.out])⟩
      | 9, ho =>
        simp at ho; subst ho; refine step_plain rfl ?_; have e53 := hF.gv hR.2 HQ4 8 rfl (hpre ⟨8, .data⟩ (by simp) rfl) rfl; have hgoal := hR.go hst HQ4 9 rfl; clear hF hpre hl hR; go_simp; exact ⟨_, rfl, hgoal _ _ (Below.refl _ _) rfl⟩
      | 10, ho =>
        simp at ho; subst ho; refine step_sk hF hR.2 HQ4 (j := 9) (b := true) rfl rfl (by kernel_rfl) (hpre ⟨9, .guard⟩ (by simp) rfl) rfl (by simp) ?_
        exact ⟨fun _ _ => trivial, hR.go hst HQ4 10 rfl _ _ (Below.refl _ _) rfl⟩
      | 11, ho =>
        simp at ho; subst ho; refine step_sk hF hR.2 HQ4 (j := 9) (b := true) rfl rfl (by kernel_rfl) (hpre ⟨9, .guard⟩ (by simp) rfl) rfl (by simp) ?_
        exact ⟨fun _ _ => trivial, hR.go hst HQ4 11 rfl _ _ (Below.refl _ _) rfl⟩
      | 12, ho =>
        simp at ho; subst ho; refine step_sk hF hR.2 HQ4 (j := 9) (b := true) rfl rfl (by kernel_rfl) (hpre ⟨9, .guard⟩ (by simp) rfl) rfl (by simp) ?_
        exact ⟨fun _ _ => trivial, hR.go hst HQ4 12 rfl _ _ (Below.refl _ _) rfl⟩
      | 13, ho =>
        simp at ho; subst ho; refine step_sk hF hR.2 HQ4 (j := 9) (b := true) rfl rfl (by kernel_rfl) (hpre ⟨9, .guard⟩ (by simp) rfl) rfl (by simp) ?_
        exact ⟨fun _ _ => trivial, hR.go hst HQ4 13 rfl _ _ (Below.refl _ _) rfl⟩
      | 14, ho =>
        simp at ho; subst ho; refine step_sk hF hR.2 HQ4 (j := 9) (b := true) rfl rfl (by kernel_rfl) (hpre ⟨9, .guard⟩ (by simp) rfl) rfl (by simp) ?_
        exact ⟨fun _ _ => trivial, hR.go hst HQ4 14 rfl _ _ (Below.refl _ _) rfl⟩
      | 15, ho =>
        simp at ho; subst ho; refine step_sk hF hR.2 HQ4 (j := 9) (b := true) rfl rfl (by kernel_rfl) (hpre ⟨9, .guard⟩ (by simp) rfl) rfl (by simp) ?_
        exact ⟨fun _ _ => trivial, hR.go hst HQ4 15 rfl _ _ (Below.refl _ _) rfl⟩
      | 16, ho =>
        simp at ho; subst ho; refine step_sk hF hR.2 HQ4 (j := 9) (b := true) rfl rfl (by kernel_rfl) (hpre ⟨9, .guard⟩ (by simp) rfl) rfl (by simp) ?_
        exact ⟨fun _ _ => trivial, hR.go hst HQ4 16 rfl _ _ (Below.refl _ _) rfl⟩
      | 17, ho =>
        simp at ho; subst ho; refine step_sk hF hR.2 HQ4 (j := 9) (b := true) rfl rfl (by kernel_rfl) (hpre ⟨9, .guard⟩ (by simp) rfl) rfl (by simp) ?_
        exact ⟨fun _ _ => trivial, hR.go hst HQ4 17 rfl _ _ (Below.refl _ _) rfl⟩
      | 18, ho =>
        simp at ho; subst ho; refine step_sk hF hR.2 HQ4 (j := 9) (b := true) rfl rfl (by kernel_rfl) (hpre ⟨9, .guard⟩ (by simp) rfl) rfl (by simp) ?_
        exact ⟨fun _ _ => trivial, hR.go hst HQ4 18 rfl _ _ (Below.refl _ _) rfl⟩
      | 19, ho =>
        simp at ho; subst ho; refine step_sk hF hR.2 HQ4 (j := 9) (b := true) rfl rfl (by kernel_rfl) (hpre ⟨9, .guard⟩ (by simp) rfl) rfl (by simp) ?_
        exact ⟨fun _ _ => trivial, hR.go hst HQ4 19 rfl _ _ (Below.refl _ _) rfl⟩
      | 20, ho =>
        simp at ho; subst ho; refine step_sk hF hR.2 HQ4 (j := 9) (b := true) rfl rfl (by kernel_rfl) (hpre ⟨9, .guard⟩ (by simp) rfl) rfl (by simp) ?_
        exact ⟨fun _ _ => trivial, hR.go hst HQ4 20 rfl _ _ (Below.refl _ _) rfl⟩
      | 21, ho =>
        simp at ho; subst ho; refine step_sk hF hR.2 HQ4 (j := 9) (b := true) rfl rfl (by kernel_rfl) (hpre ⟨9, .guard⟩ (by simp) rfl) rfl (by simp) ?_
        exact ⟨fun _ _ => trivial, hR.go hst HQ4 21 rfl _ _ (Below.refl _ _) rfl⟩
      | 22, ho =>
        simp at ho; subst ho; refine step_sk hF hR.2 HQ4 (j := 9) (b := true) rfl rfl (by kernel_rfl) (hpre ⟨9, .guard⟩ (by simp) rfl) rfl (by simp) ?_
        exact ⟨fun _ _ => trivial, hR.go hst HQ4 22 rfl _ _ (Below.refl _ _) rfl⟩
      | 23, ho =>
        simp at ho; subst ho; refine step_sk hF hR.2 HQ4 (j := 9) (b := true) rfl rfl (by kernel_rfl) (hpre ⟨9, .guard⟩ (by simp) rfl) rfl (by simp) ?_
        exact ⟨fun _ _ => trivial, hR.go hst HQ4 23 rfl _ _ (Below.refl _ _) rfl⟩
      | 24, ho =>
        simp at ho; subst ho; refine step_sk hF hR.2 HQ4 (j := 9) (b := true) rfl rfl (by kernel_rfl) (hpre ⟨9, .guard⟩ (by simp) rfl) rfl (by simp) ?_
        exact ⟨fun _ _ => trivial, hR.go hst HQ4 24 rfl _ _ (Below.refl _ _) rfl⟩
      | 25, ho =>
        simp at ho; subst ho; refine step_sk hF hR.2 HQ4 (j := 9) (b := true) rfl rfl (by kernel_rfl) (hpre ⟨9, .guard⟩ (by simp) rfl) rfl (by simp) ?_
        exact ⟨fun _ _ => trivial, hR.go hst HQ4 25 rfl _ _ (Below.refl _ _) rfl⟩
      | 26, ho =>
        simp at ho; subst ho; refine step_plain rfl ?_; have e54 := hF.gv hR.2 HQ4 9 rfl (hpre ⟨9, .data⟩ (by simp) rfl) rfl; have e70 := hF.gv hR.2 HQ4 25 rfl (hpre ⟨25, .data⟩ (by simp) rfl) rfl; have hgoal := hR.go hst HQ4 26 rfl; clear hF hpre hl hR; go_simp; exact ⟨_, rfl, hgoal _ _ (Below.refl _ _) rfl⟩
      | 27, ho =>
        simp at ho; subst ho; refine step_plain rfl ?_; have e71 := hF.gv hR.2 HQ4 26 rfl (hpre ⟨26, .data⟩ (by simp) rfl) rfl; have hgoal := hR.go hst HQ4 27 rfl; clear hF hpre hl hR; go_simp; exact ⟨_, rfl, hgoal _ _ (Below.refl _ _) rfl⟩
      | i + 28, ho => simp at ho
    case hend4 =>
      intro val L b' x hF hall hR
      have e := hF.all (by kernel_rfl) hall
      have k427 := QG.val HQ4 rfl (hR.2 27 (hall 27 (by decide)))
      have hB4 := Lib.hid hR.1
      clear hF hall hR hst HQ4 U47
      subst e
      simp [final, dstOf, List.range, List.range.loop]
      rw [k427]
      go_wp2
      go_ret
      exact ⟨rfl, HB1.out.trans (hB4.out.mono HB1.out.size)⟩

end
end Go.Proofs.Ytnnmmojlgikdgaa

/- The winch: what is possible. -/
namespace Go.Proofs.Ytnnmmojlgikdgaa
open Go.RowKit

section
variable (g : Nat) (cable charge y1 y2 len wt since cyc : Int) (cut tch : Bool) (k n : Int) (AX AY AV : Option Addr) (nx cx ny cy nv cv B : Nat) (X Y : List Int) (V : List (List Int)) (w : World)

set_option maxRecDepth 100000 in
set_option maxHeartbeats 8000000 in
theorem possible3 (ht : HT w B AX AY AV nx ny nv X Y V) (h : WN w g cable AX nx cx AY ny cy AV nv cv charge ⟨len, wt, since, cyc, cut, tch⟩ y1 y2) (_z0 : 0 ≤ len) (_z1 : len ≤ cable) (_z2 : cable ≤ 100) :
    Calls Try.prog 110 #[.pointer (some ⟨g, 0, none⟩), .agg #[.int .i64 3, .int .i64 n]] w fun e w' => e = .returned (.bool (posB (fun l u => carB X Y V l l y1 y2 u) cable charge ⟨len, wt, since, cyc, cut, tch⟩ 3 n)) ∧ Below w.heap.size w w' := by
  have HAL := Lib.hid alone_any
  have HCA := Lib.hid (fun (W : World) (hW : Below w.heap.size w W) (a : Int) (u : Int) => carries_any g cable charge y1 y2 a a u ⟨len, wt, since, cyc, cut, tch⟩ AX AY AV nx cx ny cy nv cv B X Y V W (ht.below hW) (h.stay hW))
  rw [show posB (fun l u => carB X Y V l l y1 y2 u) cable charge ⟨len, wt, since, cyc, cut, tch⟩ 3 n = (decide (n = 0) && decide (0 < len)) by unfold posB; simp]
  clear HCA HAL
  have c5 := cellOf (o := 5) h rfl
  have c6 := cellOf (o := 6) h rfl
  have hg := h.lt
  clear h ht
  by_cases e0 : n = 0
  · subst e0
    go_enter Try.func110, Try.ntmps110
    go_wp2
    go_ret
    exact ⟨ret_bool (by simp), by go_grown⟩
  · have e1 : (n == 0) = false := by simpa using e0
    go_enter Try.func110, Try.ntmps110
    go_wp2
    go_ret
    exact ⟨ret_bool (by simp []), by go_grown⟩

set_option maxRecDepth 100000 in
set_option maxHeartbeats 8000000 in
theorem possible5 (ht : HT w B AX AY AV nx ny nv X Y V) (h : WN w g cable AX nx cx AY ny cy AV nv cv charge ⟨len, wt, since, cyc, cut, tch⟩ y1 y2) (_z0 : 0 ≤ len) (_z1 : len ≤ cable) (_z2 : cable ≤ 100) :
    Calls Try.prog 110 #[.pointer (some ⟨g, 0, none⟩), .agg #[.int .i64 5, .int .i64 n]] w fun e w' => e = .returned (.bool (posB (fun l u => carB X Y V l l y1 y2 u) cable charge ⟨len, wt, since, cyc, cut, tch⟩ 5 n)) ∧ Below w.heap.size w w' := by
  have HAL := Lib.hid alone_any
  have HCA := Lib.hid (fun (W : World) (hW : Below w.heap.size w W) (a : Int) (u : Int) => carries_any g cable charge y1 y2 a a u ⟨len, wt, since, cyc, cut, tch⟩ AX AY AV nx cx ny cy nv cv B X Y V W (ht.below hW) (h.stay hW))
  rw [show posB (fun l u => carB X Y V l l y1 y2 u) cable charge ⟨len, wt, since, cyc, cut, tch⟩ 5 n = (decide (n = 0) && decide (0 < wt)) by unfold posB; simp]
  clear HCA HAL
  have c5 := cellOf (o := 5) h rfl
  have c6 := cellOf (o := 6) h rfl
  have hg := h.lt
  clear h ht
  by_cases e0 : n = 0
  · subst e0
    go_enter Try.func110, Try.ntmps110
    go_wp2
    go_ret
    exact ⟨ret_bool (by simp), by go_grown⟩
  · have e1 : (n == 0) = false := by simpa using e0
    go_enter Try.func110, Try.ntmps110
    go_wp2
    go_ret
    exact ⟨ret_bool (by simp []), by go_grown⟩

set_option maxRecDepth 100000 in
set_option maxHeartbeats 8000000 in
theorem possible6 (ht : HT w B AX AY AV nx ny nv X Y V) (h : WN w g cable AX nx cx AY ny cy AV nv cv charge ⟨len, wt, since, cyc, cut, tch⟩ y1 y2) (_z0 : 0 ≤ len) (_z1 : len ≤ cable) (_z2 : cable ≤ 100) :
    Calls Try.prog 110 #[.pointer (some ⟨g, 0, none⟩), .agg #[.int .i64 6, .int .i64 n]] w fun e w' => e = .returned (.bool (posB (fun l u => carB X Y V l l y1 y2 u) cable charge ⟨len, wt, since, cyc, cut, tch⟩ 6 n)) ∧ Below w.heap.size w w' := by
  have HAL := Lib.hid alone_any
  have HCA := Lib.hid (fun (W : World) (hW : Below w.heap.size w W) (a : Int) (u : Int) => carries_any g cable charge y1 y2 a a u ⟨len, wt, since, cyc, cut, tch⟩ AX AY AV nx cx ny cy nv cv B X Y V W (ht.below hW) (h.stay hW))
  rw [show posB (fun l u => carB X Y V l l y1 y2 u) cable charge ⟨len, wt, since, cyc, cut, tch⟩ 6 n = decide (n = 0) by unfold posB; simp]
  clear HCA HAL
  have c5 := cellOf (o := 5) h rfl
  have c6 := cellOf (o := 6) h rfl
  have hg := h.lt
  clear h ht
  by_cases e0 : n = 0
  · subst e0
    go_enter Try.func110, Try.ntmps110
    go_wp2
    go_ret
    exact ⟨ret_bool (by simp), by go_grown⟩
  · have e1 : (n == 0) = false := by simpa using e0
    go_enter Try.func110, Try.ntmps110
    go_wp2
    go_ret
    exact ⟨ret_bool (by simp []), by go_grown⟩

set_option maxRecDepth 100000 in
set_option maxHeartbeats 8000000 in
theorem possible0 (ht : HT w B AX AY AV nx ny nv X Y V) (h : WN w g cable AX nx cx AY ny cy AV nv cv charge ⟨len, wt, since, cyc, cut, tch⟩ y1 y2) (_z0 : 0 ≤ len) (_z1 : len ≤ cable) (_z2 : cable ≤ 100) (k1 : k ≠ 1) (k2 : k ≠ 2) (k3 : k ≠ 3) (k4 : k ≠ 4) (k5 : k ≠ 5) (k6 : k ≠ 6) :
    Calls Try.prog 110 #[.pointer (some ⟨g, 0, none⟩), .agg #[.int .i64 k, .int .i64 n]] w fun e w' => e = .returned (.bool (posB (fun l u => carB X Y V l l y1 y2 u) cable charge ⟨len, wt, since, cyc, cut, tch⟩ k n)) ∧ Below w.heap.size w w' := by
  have HAL := Lib.hid alone_any
  have HCA := Lib.hid (fun (W : World) (hW : Below w.heap.size w W) (a : Int) (u : Int) => carries_any g cable charge y1 y2 a a u ⟨len, wt, since, cyc, cut, tch⟩ AX AY AV nx cx ny cy nv cv B X Y V W (ht.below hW) (h.stay hW))
  rw [show posB (fun l u => carB X Y V l l y1 y2 u) cable charge ⟨len, wt, since, cyc, cut, tch⟩ k n = false by unfold posB; simp [k1, k2, k3, k4, k5, k6]]
  have e1 : (k == 1) = false := by simpa using k1
  have e2 : (k == 2) = false := by simpa using k2
  have e3 : (k == 3) = false := by simpa using k3
  have e4 : (k == 4) = false := by simpa using k4
  have e5 : (k == 5) = false := by simpa using k5
  have e6 : (k == 6) = false := by simpa using k6
  clear HCA HAL h ht k1 k2 k3 k4 k5 k6
  go_enter Try.func110, Try.ntmps110
  go_wp2
  go_ret
  exact ⟨rfl, by go_grown⟩

end
end Go.Proofs.Ytnnmmojlgikdgaa

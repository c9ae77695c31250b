/- Contracts of the functions that the statement reaches: JDoes, JIdx, JHaul0, Rk, JBlk, JStep0, JStep1, JStep2. -/
import Derived.Test.YtnnmmojlgikdgaaM9
import Derived.Test.YtnnmmojlgikdgaaM5
import Derived.Test.YtnnmmojlgikdgaaM4

/- The winch plays a step. -/
namespace Go.Proofs.Ytnnmmojlgikdgaa
open Go.RowKit

section
variable (g : Nat) (cable charge y1 y2 len wt since cyc : Int) (cut tch : Bool) (k n : Int) (AX AY AV : Option Addr) (nx cx ny cy nv cv B : Nat) (X Y : List Int) (V : List (List Int)) (w : World)

def GivesW (b : Bool) (s : HG) (e : Ending) (w' : World) : Prop := e = .returned (.bool b) ∧ WN w' g cable AX nx cx AY ny cy AV nv cv charge s y1 y2 ∧ Kept g w w'

set_option maxRecDepth 100000 in
set_option maxHeartbeats 4000000 in
theorem does_cut (_ht : HT w B AX AY AV nx ny nv X Y V) (h : WN w g cable AX nx cx AY ny cy AV nv cv charge ⟨len, wt, since, cyc, true, tch⟩ y1 y2) (_z0 : 0 ≤ len) (_z1 : len ≤ cable) (_z2 : cable ≤ 100) (_s0 : 0 ≤ since) (_s1 : since ≤ 1000) (_q0 : 0 ≤ cyc) (_q1 : cyc ≤ 1000) :
    Calls Try.prog 80 #[.pointer (some ⟨g, 0, none⟩), .agg #[.int .i64 k, .int .i64 n]] w (GivesW g cable charge y1 y2 AX AY AV nx cx ny cy nv cv w false ⟨len, wt, since, cyc, true, tch⟩) := by
  have HW := Lib.hid h
  have L0 := Lib.hid (show (w.alloc (.cells #[.int .i64 k, .int .i64 n] 82)).cell? ⟨w.heap.size, 0, none⟩ = some (.int .i64 k) by rw [cell_newest]; rfl)
  have L1 := Lib.hid (show (w.alloc (.cells #[.int .i64 k, .int .i64 n] 82)).cell? ⟨w.heap.size, 1, none⟩ = some (.int .i64 n) by rw [cell_newest]; rfl)
  have hg := h.lt
  have c9 := cellOf (o := 9) h rfl
  clear h _ht
  go_enter Try.func80, Try.ntmps80
  go_wp2
  go_ret
  exact ⟨rfl, HW.out.stay ((Below.refl _ _).alloc (Nat.le_refl _) _), Kept.of ((Below.refl _ _).alloc (Nat.le_refl _) _) (Nat.le_of_lt HW.out.lt)⟩

set_option maxRecDepth 100000 in
set_option maxHeartbeats 4000000 in
theorem does_no (ht : HT w B AX AY AV nx ny nv X Y V) (h : WN w g cable AX nx cx AY ny cy AV nv cv charge ⟨len, wt, since, cyc, false, tch⟩ y1 y2) (z0 : 0 ≤ len) (z1 : len ≤ cable) (z2 : cable ≤ 100) (_s0 : 0 ≤ since) (_s1 : since ≤ 1000) (_q0 : 0 ≤ cyc) (_q1 : cyc ≤ 1000) (hp : posB (fun l u => carB X Y V l l y1 y2 u) cable charge ⟨len, wt, since, cyc, false, tch⟩ k n = false) :
    Calls Try.prog 80 #[.pointer (some ⟨g, 0, none⟩), .agg #[.int .i64 k, .int .i64 n]] w (GivesW g cable charge y1 y2 AX AY AV nx cx ny cy nv cv w false ⟨len, wt, since, cyc, false, tch⟩) := by
  have HW := Lib.hid h
  have L0 := Lib.hid (show (w.alloc (.cells #[.int .i64 k, .int .i64 n] 82)).cell? ⟨w.heap.size, 0, none⟩ = some (.int .i64 k) by rw [cell_newest]; rfl)
  have L1 := Lib.hid (show (w.alloc (.cells #[.int .i64 k, .int .i64 n] 82)).cell? ⟨w.heap.size, 1, none⟩ = some (.int .i64 n) by rw [cell_newest]; rfl)
  have HPO := Lib.hid (fun (W : World) (hW : Below w.heap.size w W) => possible_any g cable charge y1 y2 len wt since cyc false tch k n AX AY AV nx cx ny cy nv cv B X Y V W (ht.below hW) (h.stay hW) z0 z1 z2)
  rw [hp] at HPO
  have hg := h.lt
  have c9 := cellOf (o := 9) h rfl
  clear h ht hp
  go_enter Try.func80, Try.ntmps80
  go_wp2_with (go_at_call 110; refine Calls.mono (HPO.out _ ((Below.refl _ _).alloc (Nat.le_refl _) _)) ?_; rintro e w3 ⟨rfl, hb3⟩; have r0 := cell_keep hb3 L0.out; have r1 := cell_keep hb3 L1.out; have hw3 : WN w3 g cable AX nx cx AY ny cy AV nv cv charge ⟨len, wt, since, cyc, false, tch⟩ y1 y2 := (HW.out.stay ((Below.refl _ _).alloc (Nat.le_refl _) _)).stay hb3; have hk3 : Kept g w w3 := (Kept.of ((Below.refl _ _).alloc (Nat.le_refl _) _) (Nat.le_of_lt HW.out.lt)).trans (Kept.of hb3 (Nat.le_of_lt (HW.out.stay ((Below.refl _ _).alloc (Nat.le_refl _) _)).lt)); clear hb3)
  go_ret
  exact ⟨rfl, hw3, hk3⟩

set_option maxRecDepth 100000 in
set_option maxHeartbeats 4000000 in
theorem does1 (ht : HT w B AX AY AV nx ny nv X Y V) (h : WN w g cable AX nx cx AY ny cy AV nv cv charge ⟨len, wt, since, cyc, false, tch⟩ y1 y2) (z0 : 0 ≤ len) (z1 : len ≤ cable) (z2 : cable ≤ 100) (s0 : 0 ≤ since) (s1 : since ≤ 1000) (q0 : 0 ≤ cyc) (q1 : cyc ≤ 1000) (hp : posB (fun l u => carB X Y V l l y1 y2 u) cable charge ⟨len, wt, since, cyc, false, tch⟩ 1 n = true) :
    Calls Try.prog 80 #[.pointer (some ⟨g, 0, none⟩), .agg #[.int .i64 1, .int .i64 n]] w (GivesW g cable charge y1 y2 AX AY AV nx cx ny cy nv cv w true (plS ⟨len, wt, since, cyc, false, tch⟩ 1 n)) := by
  have HW := Lib.hid h
  have L0 := Lib.hid (show (w.alloc (.cells #[.int .i64 1, .int .i64 n] 82)).cell? ⟨w.heap.size, 0, none⟩ = some (.int .i64 1) by rw [cell_newest]; rfl)
  have L1 := Lib.hid (show (w.alloc (.cells #[.int .i64 1, .int .i64 n] 82)).cell? ⟨w.heap.size, 1, none⟩ = some (.int .i64 n) by rw [cell_newest]; rfl)
  have HPO := Lib.hid (fun (W : World) (hW : Below w.heap.size w W) => possible_any g cable charge y1 y2 len wt since cyc false tch 1 n AX AY AV nx cx ny cy nv cv B X Y V W (ht.below hW) (h.stay hW) z0 z1 z2)
  rw [hp] at HPO
  have hg := h.lt
  have c9 := cellOf (o := 9) h rfl
  have hn : posB (fun l u => carB X Y V l l y1 y2 u) cable charge ⟨len, wt, since, cyc, false, tch⟩ 1 n = true := hp
  unfold posB at hn
  simp at hn
  have i7 : IntKind.i64.wrap (since + 1) = since + 1 := IntWalk.i64_in _ (by omega)
  have i8 : IntKind.i64.wrap (cyc + 1) = cyc + 1 := IntWalk.i64_in _ (by omega)
  have i5 : IntKind.i64.wrap (len + n) = len + n := IntWalk.i64_in _ (by omega)
  clear h ht hp hn
  go_enter Try.func80, Try.ntmps80
  go_upto_region 3 with (go_at_call 110; refine Calls.mono (HPO.out _ ((Below.refl _ _).alloc (Nat.le_refl _) _)) ?_; rintro e w3 ⟨rfl, hb3⟩; have r0 := cell_keep hb3 L0.out; have r1 := cell_keep hb3 L1.out; have hw3 : WN w3 g cable AX nx cx AY ny cy AV nv cv charge ⟨len, wt, since, cyc, false, tch⟩ y1 y2 := (HW.out.stay ((Below.refl _ _).alloc (Nat.le_refl _) _)).stay hb3; have hk3 : Kept g w w3 := (Kept.of ((Below.refl _ _).alloc (Nat.le_refl _) _) (Nat.le_of_lt HW.out.lt)).trans (Kept.of hb3 (Nat.le_of_lt (HW.out.stay ((Below.refl _ _).alloc (Nat.le_refl _) _)).lt)); clear hb3)
  have HW3 := Lib.hid hw3
  have HK3 := Lib.hid hk3
  have hg3 := hw3.lt
  have c5 := cellOf (o := 5) hw3 rfl
  have f5 := freeOf (o := 5) hw3
  have c6 := cellOf (o := 6) hw3 rfl
  have f6 := freeOf (o := 6) hw3
  have c7 := cellOf (o := 7) hw3 rfl
  have f7 := freeOf (o := 7) hw3
  have c8 := cellOf (o := 8) hw3 rfl
  have f8 := freeOf (o := 8) hw3
  have c9 := cellOf (o := 9) hw3 rfl
  have f9 := freeOf (o := 9) hw3
  have c12 := cellOf (o := 12) hw3 rfl
  have f12 := freeOf (o := 12) hw3
  clear hw3 hk3
  go_upto_region 6 with (fail)
  have hw4 : WN (w3.setCell ⟨g, 7, none⟩ (.int .i64 (since + 1))) g cable AX nx cx AY ny cy AV nv cv charge ⟨len, wt, since + 1, cyc, false, tch⟩ y1 y2 := (block_setCell (o := 7) _ HW3.out).trans (by rfl)
  have HK4 := Lib.hid (HK3.out.setCell 7 (.int .i64 (since + 1)))
  have r0' := HK4.out
  have m1 : (w3.setCell ⟨g, 7, none⟩ (.int .i64 (since + 1))).cell? ⟨w.heap.size, 1, none⟩ = some (.int .i64 n) := ((Kept.refl g w3).setCell 7 (.int .i64 (since + 1))).cell r1 (by omega)
  clear r0' HK3 r0 r1 HW3 c5 c6 c7 c8 c9 c12 f5 f6 f7 f8 f9 f12 hg3
  generalize w3.setCell _ _ = w4 at *
  have d5 := cellOf (o := 5) hw4 rfl
  have f5 := freeOf (o := 5) hw4
  have hg4 := hw4.lt
  obtain ⟨Q, hQ⟩ : ∃ q9 : Nat → Value → World → Prop, q9 = QG [some (.pointer (some ⟨g, 0, none⟩)), some (.pointer (some ⟨g, 0, none⟩)), some (.pointer (some ⟨g, 5, none⟩)), some (.pointer (some ⟨g, 5, none⟩)), some (.int .i64 len), some (.pointer (some ⟨w.heap.size, 1, none⟩)), some (.int .i64 n), some (.int .i64 (len + n)), some (.pointer (some ⟨g, 0, none⟩)), some (.pointer (some ⟨g, 5, none⟩)), some (.pointer (some ⟨g, 5, none⟩)), none] (fun _ _ _ => True) := ⟨_, rfl⟩
  have hst : Stays Q := by rw [hQ]; exact QG.stays (fun _ _ _ _ _ _ => trivial)
  have HQ := Lib.hid hQ
  clear hQ
  obtain ⟨fX, hfX⟩ : ∃ f9 : World → World, f9 = (fun y => (y.setCell ⟨g, 5, none⟩ (.int .i64 (len + n)))) := ⟨_, rfl⟩
  have HfX := Lib.hid hfX
  clear hfX
  refine wpIn_wide.1 (region_inv2 (n := 9) (by kernel_rfl) (RT Q w4 11 fX) (by kernel_rfl) rfl (RT.start _ _ _ _ _) ?hstep ?hend)
  case hstep =>
    intro i' o ho val L b' x hF hR hpre hl
    match i', ho with
    | 0, ho =>
      simp at ho; subst ho; refine step_plain rfl ?_; have hN := hF.later hl 11 rfl (e := ⟨0, .phase⟩) (by simp) rfl rfl
      have hR := hR.1 hN
      have e0 := hF.was 0 (by kernel_rfl) rfl; have hgoal := RT.go (f := fX) hR hst HQ 0 rfl (by decide) hN; clear hF hpre hl hR hN; go_simp; exact ⟨_, rfl, hgoal _ _ (Below.refl _ _) rfl⟩
    | 1, ho =>
      simp at ho; subst ho; refine step_plain rfl ?_; have hN := hF.later hl 11 rfl (e := ⟨1, .phase⟩) (by simp) rfl rfl
      have hR := hR.1 hN
      have e29 := hF.gv hR.2 HQ 0 rfl (hpre ⟨0, .data⟩ (by simp) rfl) rfl; have hgoal := RT.go (f := fX) hR hst HQ 1 rfl (by decide) hN; clear hF hpre hl hR hN; go_simp; exact ⟨_, rfl, hgoal _ _ (Below.refl _ _) rfl⟩
    | 2, ho =>
      simp at ho; subst ho; refine step_plain rfl ?_; have hN := hF.later hl 11 rfl (e := ⟨2, .phase⟩) (by simp) rfl rfl
      have hR := hR.1 hN
      have e30 := hF.gv hR.2 HQ 1 rfl (hpre ⟨1, .data⟩ (by simp) rfl) rfl; have hgoal := RT.go (f := fX) hR hst HQ 2 rfl (by decide) hN; clear hF hpre hl hR hN; go_simp; exact ⟨_, rfl, hgoal _ _ (Below.refl _ _) rfl⟩
    | 3, ho =>
      simp at ho; subst ho; refine step_plain rfl ?_; have hN := hF.later hl 11 rfl (e := ⟨3, .phase⟩) (by simp) rfl rfl
      have hR := hR.1 hN
      have e31 := hF.gv hR.2 HQ 2 rfl (hpre ⟨2, .data⟩ (by simp) rfl) rfl; have hgoal := RT.go (f := fX) hR hst HQ 3 rfl (by decide) hN; clear hF hpre hl hR hN; go_simp; exact ⟨_, rfl, hgoal _ _ (Below.refl _ _) rfl⟩
    | 4, ho =>
      simp at ho; subst ho; refine step_plain rfl ?_; have hN := hF.later hl 11 rfl (e := ⟨4, .phase⟩) (by simp) rfl rfl
      have hR := hR.1 hN
      have e32 := hF.gv hR.2 HQ 3 rfl (hpre ⟨3, .data⟩ (by simp) rfl) rfl; have hgoal := RT.go (f := fX) hR hst HQ 4 rfl (by decide) hN; have q0 := cell_keep hR.1 d5; clear hF hpre hl hR hN; go_simp; exact ⟨_, rfl, hgoal _ _ (Below.refl _ _) rfl⟩
    | 5, ho =>
      simp at ho; subst ho; refine step_plain rfl ?_; have hN := hF.later hl 11 rfl (e := ⟨5, .phase⟩) (by simp) rfl rfl
      have hR := hR.1 hN
      have e3 := hF.was 3 (by kernel_rfl) rfl; have hgoal := RT.go (f := fX) hR hst HQ 5 rfl (by decide) hN; clear hF hpre hl hR hN; go_simp; exact ⟨_, rfl, hgoal _ _ (Below.refl _ _) rfl⟩
    | 6, ho =>
      simp at ho; subst ho; refine step_plain rfl ?_; have hN := hF.later hl 11 rfl (e := ⟨6, .phase⟩) (by simp) rfl rfl
      have hR := hR.1 hN
      have e34 := hF.gv hR.2 HQ 5 rfl (hpre ⟨5, .data⟩ (by simp) rfl) rfl; have hgoal := RT.go (f := fX) hR hst HQ 6 rfl (by decide) hN; have q0 := cell_keep hR.1 m1; clear hF hpre hl hR hN; go_simp; exact ⟨_, rfl, hgoal _ _ (Below.refl _ _) rfl⟩
    | 7, ho =>
      simp at ho; subst ho; refine step_plain rfl ?_; have hN := hF.later hl 11 rfl (e := ⟨7, .phase⟩) (by simp) rfl rfl
      have hR := hR.1 hN
      have e33 := hF.gv hR.2 HQ 4 rfl (hpre ⟨4, .data⟩ (by simp) rfl) rfl; have e35 := hF.gv hR.2 HQ 6 rfl (hpre ⟨6, .data⟩ (by simp) rfl) rfl; have hgoal := RT.go (f := fX) hR hst HQ 7 rfl (by decide) hN; clear hF hpre hl hR hN; go_simp; exact ⟨_, rfl, hgoal _ _ (Below.refl _ _) rfl⟩
    | 8, ho =>
      simp at ho; subst ho; refine step_plain rfl ?_
      have hl9 := hF.later hl 9 rfl (e := ⟨8, .data⟩) (by simp) rfl rfl
      have hl10 := hF.back hl9 10 rfl (by decide) (e := ⟨9, .data⟩) (by simp) rfl rfl
      clear hl9
      have hN := hF.back hl10 11 rfl (by decide) (e := ⟨10, .data⟩) (by simp) rfl rfl
      clear hl10
      have hR := hR.1 hN
      have e29 := hF.gv hR.2 HQ 0 rfl (hpre ⟨0, .data⟩ (by simp) rfl) rfl; have hgoal := RT.go (f := fX) hR hst HQ 8 rfl (by decide) hN; clear hF hpre hl hR hN; go_simp; exact ⟨_, rfl, hgoal _ _ (Below.refl _ _) rfl⟩
    | 9, ho =>
      simp at ho; subst ho; refine step_plain rfl ?_
      have hl10 := hF.later hl 10 rfl (e := ⟨9, .data⟩) (by simp) rfl rfl
      have hN := hF.back hl10 11 rfl (by decide) (e := ⟨10, .data⟩) (by simp) rfl rfl
      clear hl10
      have hR := hR.1 hN
      have e37 := hF.gv hR.2 HQ 8 rfl (hpre ⟨8, .data⟩ (by simp) rfl) rfl; have hgoal := RT.go (f := fX) hR hst HQ 9 rfl (by decide) hN; clear hF hpre hl hR hN; go_simp; exact ⟨_, rfl, hgoal _ _ (Below.refl _ _) rfl⟩
    | 10, ho =>
      simp at ho; subst ho; refine step_plain rfl ?_; have hN := hF.later hl 11 rfl (e := ⟨10, .data⟩) (by simp) rfl rfl
      have hR := hR.1 hN
      have e38 := hF.gv hR.2 HQ 9 rfl (hpre ⟨9, .data⟩ (by simp) rfl) rfl; have hgoal := RT.go (f := fX) hR hst HQ 10 rfl (by decide) hN; clear hF hpre hl hR hN; go_simp; exact ⟨_, rfl, hgoal _ _ (Below.refl _ _) rfl⟩
    | 11, ho =>
      simp at ho; subst ho; refine step_plain rfl ?_; have hN := hF.none2 hl (by decide)
      have hls : 11 < L.size := by rw [hF.lsize]; decide
      have hR := hR.1 hN
      have e39 := hF.gv hR.2 HQ 10 rfl (hpre ⟨10, .data⟩ (by simp) rfl) rfl; have e36 := hF.gv hR.2 HQ 7 rfl (hpre ⟨7, .data⟩ (by simp) rfl) rfl
      have qb := (hR.1.block (g) (lt_of_block hw4)).trans hw4
      have g0 := cellOf (o := 5) qb rfl; have f0 := freeOf (o := 5) qb; have hgoal := RT.store (f := fX) (v := undef) hR hls
      have hq := lt_of_block qb
      have HG := Lib.hid hgoal
      clear hF hpre hl hR hls hN qb hgoal; go_simp
      exact ⟨undef, by have h9 := HG.out; rw [HfX.out] at h9 ⊢; exact h9⟩
    | i + 12, ho => simp at ho
  case hend =>
    intro val L b' x hF hall hR
    have e := hF.all (by kernel_rfl) hall
    obtain ⟨y, hy, ey, hq⟩ := hR.done (hall 11 (by decide))
    rw [HfX.out] at ey; dsimp only at ey
    have bk := (block_setCell (o := 5) (.int .i64 (len + n)) ((hy.block (g) (lt_of_block hw4)).trans hw4))
    rw [← ey] at bk
    have hX := Lib.hid (fun n9 w9 (h9 : Below n9 w9 w4) (hn9 : n9 ≤ g) => show Below n9 w9 x by rw [ey]; exact ((h9.trans (hy.mono (by have := lt_of_block hw4; omega))).setCell (p := ⟨g, 5, none⟩) hn9 (.int .i64 (len + n))))
    have hK := Lib.hid (show Kept g w4 x by rw [ey]; exact ((Kept.of hy (Nat.le_of_lt (lt_of_block hw4))).setCell 5 (.int .i64 (len + n))))
    clear hF hall hR hst HfX hq hy ey HQ 
    subst e
    simp [final, dstOf, List.range, List.range.loop]
    go_wp2
    go_ret
    exact ⟨rfl, bk, HK4.out.trans hK.out⟩

set_option maxRecDepth 100000 in
set_option maxHeartbeats 4000000 in
theorem does2 (ht : HT w B AX AY AV nx ny nv X Y V) (h : WN w g cable AX nx cx AY ny cy AV nv cv charge ⟨len, wt, since, cyc, false, tch⟩ y1 y2) (z0 : 0 ≤ len) (z1 : len ≤ cable) (z2 : cable ≤ 100) (s0 : 0 ≤ since) (s1 : since ≤ 1000) (q0 : 0 ≤ cyc) (q1 : cyc ≤ 1000) (hp : posB (fun l u => carB X Y V l l y1 y2 u) cable charge ⟨len, wt, since, cyc, false, tch⟩ 2 n = true) :
    Calls Try.prog 80 #[.pointer (some ⟨g, 0, none⟩), .agg #[.int .i64 2, .int .i64 n]] w (GivesW g cable charge y1 y2 AX AY AV nx cx ny cy nv cv w true (plS ⟨len, wt, since, cyc, false, tch⟩ 2 n)) := by
  have HW := Lib.hid h
  have L0 := Lib.hid (show (w.alloc (.cells #[.int .i64 2, .int .i64 n] 82)).cell? ⟨w.heap.size, 0, none⟩ = some (.int .i64 2) by rw [cell_newest]; rfl)
  have L1 := Lib.hid (show (w.alloc (.cells #[.int .i64 2, .int .i64 n] 82)).cell? ⟨w.heap.size, 1, none⟩ = some (.int .i64 n) by rw [cell_newest]; rfl)
  have HPO := Lib.hid (fun (W : World) (hW : Below w.heap.size w W) => possible_any g cable charge y1 y2 len wt since cyc false tch 2 n AX AY AV nx cx ny cy nv cv B X Y V W (ht.below hW) (h.stay hW) z0 z1 z2)
  rw [hp] at HPO
  have hg := h.lt
  have c9 := cellOf (o := 9) h rfl
  have hn : posB (fun l u => carB X Y V l l y1 y2 u) cable charge ⟨len, wt, since, cyc, false, tch⟩ 2 n = true := hp
  unfold posB at hn
  simp at hn
  have i7 : IntKind.i64.wrap (since + 1) = since + 1 := IntWalk.i64_in _ (by omega)
  have i8 : IntKind.i64.wrap (cyc + 1) = cyc + 1 := IntWalk.i64_in _ (by omega)
  have i5 : IntKind.i64.wrap (len - n) = len - n := IntWalk.i64_in _ (by omega)
  clear h ht hp hn
  go_enter Try.func80, Try.ntmps80
  go_upto_region 3 with (go_at_call 110; refine Calls.mono (HPO.out _ ((Below.refl _ _).alloc (Nat.le_refl _) _)) ?_; rintro e w3 ⟨rfl, hb3⟩; have r0 := cell_keep hb3 L0.out; have r1 := cell_keep hb3 L1.out; have hw3 : WN w3 g cable AX nx cx AY ny cy AV nv cv charge ⟨len, wt, since, cyc, false, tch⟩ y1 y2 := (HW.out.stay ((Below.refl _ _).alloc (Nat.le_refl _) _)).stay hb3; have hk3 : Kept g w w3 := (Kept.of ((Below.refl _ _).alloc (Nat.le_refl _) _) (Nat.le_of_lt HW.out.lt)).trans (Kept.of hb3 (Nat.le_of_lt (HW.out.stay ((Below.refl _ _).alloc (Nat.le_refl _) _)).lt)); clear hb3)
  have HW3 := Lib.hid hw3
  have HK3 := Lib.hid hk3
  have hg3 := hw3.lt
  have c5 := cellOf (o := 5) hw3 rfl
  have f5 := freeOf (o := 5) hw3
  have c6 := cellOf (o := 6) hw3 rfl
  have f6 := freeOf (o := 6) hw3
  have c7 := cellOf (o := 7) hw3 rfl
  have f7 := freeOf (o := 7) hw3
  have c8 := cellOf (o := 8) hw3 rfl
  have f8 := freeOf (o := 8) hw3
  have c9 := cellOf (o := 9) hw3 rfl
  have f9 := freeOf (o := 9) hw3
  have c12 := cellOf (o := 12) hw3 rfl
  have f12 := freeOf (o := 12) hw3
  clear hw3 hk3
  go_upto_region 8 with (fail)
  have hw4 : WN (w3.setCell ⟨g, 7, none⟩ (.int .i64 (since + 1))) g cable AX nx cx AY ny cy AV nv cv charge ⟨len, wt, since + 1, cyc, false, tch⟩ y1 y2 := (block_setCell (o := 7) _ HW3.out).trans (by rfl)
  have HK4 := Lib.hid (HK3.out.setCell 7 (.int .i64 (since + 1)))
  have r0' := HK4.out
  have m1 : (w3.setCell ⟨g, 7, none⟩ (.int .i64 (since + 1))).cell? ⟨w.heap.size, 1, none⟩ = some (.int .i64 n) := ((Kept.refl g w3).setCell 7 (.int .i64 (since + 1))).cell r1 (by omega)
  clear r0' HK3 r0 r1 HW3 c5 c6 c7 c8 c9 c12 f5 f6 f7 f8 f9 f12 hg3
  generalize w3.setCell _ _ = w4 at *
  have d5 := cellOf (o := 5) hw4 rfl
  have f5 := freeOf (o := 5) hw4
  have hg4 := hw4.lt
  obtain ⟨Q, hQ⟩ : ∃ q9 : Nat → Value → World → Prop, q9 = QG [some (.pointer (some ⟨g, 0, none⟩)), some (.pointer (some ⟨g, 0, none⟩)), some (.pointer (some ⟨g, 5, none⟩)), some (.pointer (some ⟨g, 5, none⟩)), some (.int .i64 len), some (.pointer (some ⟨w.heap.size, 1, none⟩)), some (.int .i64 n), some (.int .i64 (len - n)), some (.pointer (some ⟨g, 0, none⟩)), some (.pointer (some ⟨g, 5, none⟩)), some (.pointer (some ⟨g, 5, none⟩)), none] (fun _ _ _ => True) := ⟨_, rfl⟩
  have hst : Stays Q := by rw [hQ]; exact QG.stays (fun _ _ _ _ _ _ => trivial)
  have HQ := Lib.hid hQ
  clear hQ
  obtain ⟨fX, hfX⟩ : ∃ f9 : World → World, f9 = (fun y => (y.setCell ⟨g, 5, none⟩ (.int .i64 (len - n)))) := ⟨_, rfl⟩
  have HfX := Lib.hid hfX
  clear hfX
  refine wpIn_wide.1 (region_inv2 (n := 9) (by kernel_rfl) (RT Q w4 11 fX) (by kernel_rfl) rfl (RT.start _ _ _ _ _) ?hstep ?hend)
  case hstep =>
    intro i' o ho val L b' x hF hR hpre hl
    match i', ho with
    | 0, ho =>
      simp at ho; subst ho; refine step_plain rfl ?_; have hN := hF.later hl 11 rfl (e := ⟨0, .phase⟩) (by simp) rfl rfl
      have hR := hR.1 hN
      have e0 := hF.was 0 (by kernel_rfl) rfl; have hgoal := RT.go (f := fX) hR hst HQ 0 rfl (by decide) hN; clear hF hpre hl hR hN; go_simp; exact ⟨_, rfl, hgoal _ _ (Below.refl _ _) rfl⟩
    | 1, ho =>
      simp at ho; subst ho; refine step_plain rfl ?_; have hN := hF.later hl 11 rfl (e := ⟨1, .phase⟩) (by simp) rfl rfl
      have hR := hR.1 hN
      have e42 := hF.gv hR.2 HQ 0 rfl (hpre ⟨0, .data⟩ (by simp) rfl) rfl; have hgoal := RT.go (f := fX) hR hst HQ 1 rfl (by decide) hN; clear hF hpre hl hR hN; go_simp; exact ⟨_, rfl, hgoal _ _ (Below.refl _ _) rfl⟩
    | 2, ho =>
      simp at ho; subst ho; refine step_plain rfl ?_; have hN := hF.later hl 11 rfl (e := ⟨2, .phase⟩) (by simp) rfl rfl
      have hR := hR.1 hN
      have e43 := hF.gv hR.2 HQ 1 rfl (hpre ⟨1, .data⟩ (by simp) rfl) rfl; have hgoal := RT.go (f := fX) hR hst HQ 2 rfl (by decide) hN; clear hF hpre hl hR hN; go_simp; exact ⟨_, rfl, hgoal _ _ (Below.refl _ _) rfl⟩
    | 3, ho =>
      simp at ho; subst ho; refine step_plain rfl ?_; have hN := hF.later hl 11 rfl (e := ⟨3, .phase⟩) (by simp) rfl rfl
      have hR := hR.1 hN
      have e44 := hF.gv hR.2 HQ 2 rfl (hpre ⟨2, .data⟩ (by simp) rfl) rfl; have hgoal := RT.go (f := fX) hR hst HQ 3 rfl (by decide) hN; clear hF hpre hl hR hN; go_simp; exact ⟨_, rfl, hgoal _ _ (Below.refl _ _) rfl⟩
    | 4, ho =>
      simp at ho; subst ho; refine step_plain rfl ?_; have hN := hF.later hl 11 rfl (e := ⟨4, .phase⟩) (by simp) rfl rfl
      have hR := hR.1 hN
      have e45 := hF.gv hR.2 HQ 3 rfl (hpre ⟨3, .data⟩ (by simp) rfl) rfl; have hgoal := RT.go (f := fX) hR hst HQ 4 rfl (by decide) hN; have q0 := cell_keep hR.1 d5; clear hF hpre hl hR hN; go_simp; exact ⟨_, rfl, hgoal _ _ (Below.refl _ _) rfl⟩
    | 5, ho =>
      simp at ho; subst ho; refine step_plain rfl ?_; have hN := hF.later hl 11 rfl (e := ⟨5, .phase⟩) (by simp) rfl rfl
      have hR := hR.1 hN
      have e3 := hF.was 3 (by kernel_rfl) rfl; have hgoal := RT.go (f := fX) hR hst HQ 5 rfl (by decide) hN; clear hF hpre hl hR hN; go_simp; exact ⟨_, rfl, hgoal _ _ (Below.refl _ _) rfl⟩
    | 6, ho =>
      simp at ho; subst ho; refine step_plain rfl ?_; have hN := hF.later hl 11 rfl (e := ⟨6, .phase⟩) (by simp) rfl rfl
      have hR := hR.1 hN
      have e47 := hF.gv hR.2 HQ 5 rfl (hpre ⟨5, .data⟩ (by simp) rfl) rfl; have hgoal := RT.go (f := fX) hR hst HQ 6 rfl (by decide) hN; have q0 := cell_keep hR.1 m1; clear hF hpre hl hR hN; go_simp; exact ⟨_, rfl, hgoal _ _ (Below.refl _ _) rfl⟩
    | 7, ho =>
      simp at ho; subst ho; refine step_plain rfl ?_; have hN := hF.later hl 11 rfl (e := ⟨7, .phase⟩) (by simp) rfl rfl
      have hR := hR.1 hN
      have e46 := hF.gv hR.2 HQ 4 rfl (hpre ⟨4, .data⟩ (by simp) rfl) rfl; have e48 := hF.gv hR.2 HQ 6 rfl (hpre ⟨6, .data⟩ (by simp) rfl) rfl; have hgoal := RT.go (f := fX) hR hst HQ 7 rfl (by decide) hN; clear hF hpre hl hR hN; go_simp; exact ⟨_, rfl, hgoal _ _ (Below.refl _ _) rfl⟩
    | 8, ho =>
      simp at ho; subst ho; refine step_plain rfl ?_
      have hl9 := hF.later hl 9 rfl (e := ⟨8, .data⟩) (by simp) rfl rfl
      have hl10 := hF.back hl9 10 rfl (by decide) (e := ⟨9, .data⟩) (by simp) rfl rfl
      clear hl9
      have hN := hF.back hl10 11 rfl (by decide) (e := ⟨10, .data⟩) (by simp) rfl rfl
      clear hl10
      have hR := hR.1 hN
      have e42 := hF.gv hR.2 HQ 0 rfl (hpre ⟨0, .data⟩ (by simp) rfl) rfl; have hgoal := RT.go (f := fX) hR hst HQ 8 rfl (by decide) hN; clear hF hpre hl hR hN; go_simp; exact ⟨_, rfl, hgoal _ _ (Below.refl _ _) rfl⟩
    | 9, ho =>
      simp at ho; subst ho; refine step_plain rfl ?_
      have hl10 := hF.later hl 10 rfl (e := ⟨9, .data⟩) (by simp) rfl rfl
      have hN := hF.back hl10 11 rfl (by decide) (e := ⟨10, .data⟩) (by simp) rfl rfl
      clear hl10
      have hR := hR.1 hN
      have e50 := hF.gv hR.2 HQ 8 rfl (hpre ⟨8, .data⟩ (by simp) rfl) rfl; have hgoal := RT.go (f := fX) hR hst HQ 9 rfl (by decide) hN; clear hF hpre hl hR hN; go_simp; exact ⟨_, rfl, hgoal _ _ (Below.refl _ _) rfl⟩
    | 10, ho =>
      simp at ho; subst ho; refine step_plain rfl ?_; have hN := hF.later hl 11 rfl (e := ⟨10, .data⟩) (by simp) rfl rfl
      have hR := hR.1 hN
      have e51 := hF.gv hR.2 HQ 9 rfl (hpre ⟨9, .data⟩ (by simp) rfl) rfl; have hgoal := RT.go (f := fX) hR hst HQ 10 rfl (by decide) hN; clear hF hpre hl hR hN; go_simp; exact ⟨_, rfl, hgoal _ _ (Below.refl _ _) rfl⟩
    | 11, ho =>
      simp at ho; subst ho; refine step_plain rfl ?_; have hN := hF.none2 hl (by decide)
      have hls : 11 < L.size := by rw [hF.lsize]; decide
      have hR := hR.1 hN
      have e52 := hF.gv hR.2 HQ 10 rfl (hpre ⟨10, .data⟩ (by simp) rfl) rfl; have e49 := hF.gv hR.2 HQ 7 rfl (hpre ⟨7, .data⟩ (by simp) rfl) rfl
      have qb := (hR.1.block (g) (lt_of_block hw4)).trans hw4
      have g0 := cellOf (o := 5) qb rfl; have f0 := freeOf (o := 5) qb; have hgoal := RT.store (f := fX) (v := undef) hR hls
      have hq := lt_of_block qb
      have HG := Lib.hid hgoal
      clear hF hpre hl hR hls hN qb hgoal; go_simp
      exact ⟨undef, by have h9 := HG.out; rw [HfX.out] at h9 ⊢; exact h9⟩
    | i + 12, ho => simp at ho
  case hend =>
    intro val L b' x hF hall hR
    have e := hF.all (by kernel_rfl) hall
    obtain ⟨y, hy, ey, hq⟩ := hR.done (hall 11 (by decide))
    rw [HfX.out] at ey; dsimp only at ey
    have bk := (block_setCell (o := 5) (.int .i64 (len - n)) ((hy.block (g) (lt_of_block hw4)).trans hw4))
    rw [← ey] at bk
    have hX := Lib.hid (fun n9 w9 (h9 : Below n9 w9 w4) (hn9 : n9 ≤ g) => show Below n9 w9 x by rw [ey]; exact ((h9.trans (hy.mono (by have := lt_of_block hw4; omega))).setCell (p := ⟨g, 5, none⟩) hn9 (.int .i64 (len - n))))
    have hK := Lib.hid (show Kept g w4 x by rw [ey]; exact ((Kept.of hy (Nat.le_of_lt (lt_of_block hw4))).setCell 5 (.int .i64 (len - n))))
    clear hF hall hR hst HfX hq hy ey HQ 
    subst e
    simp [final, dstOf, List.range, List.range.loop]
    go_wp2
    go_ret
    exact ⟨rfl, bk, HK4.out.trans hK.out⟩

set_option maxRecDepth 100000 in
set_option maxHeartbeats 4000000 in
theorem does3 (ht : HT w B AX AY AV nx ny nv X Y V) (h : WN w g cable AX nx cx AY ny cy AV nv cv charge ⟨len, wt, since, cyc, false, tch⟩ y1 y2) (z0 : 0 ≤ len) (z1 : len ≤ cable) (z2 : cable ≤ 100) (s0 : 0 ≤ since) (s1 : since ≤ 1000) (q0 : 0 ≤ cyc) (q1 : cyc ≤ 1000) (hp : posB (fun l u => carB X Y V l l y1 y2 u) cable charge ⟨len, wt, since, cyc, false, tch⟩ 3 n = true) :
    Calls Try.prog 80 #[.pointer (some ⟨g, 0, none⟩), .agg #[.int .i64 3, .int .i64 n]] w (GivesW g cable charge y1 y2 AX AY AV nx cx ny cy nv cv w true (plS ⟨len, wt, since, cyc, false, tch⟩ 3 n)) := by
  have HW := Lib.hid h
  have L0 := Lib.hid (show (w.alloc (.cells #[.int .i64 3, .int .i64 n] 82)).cell? ⟨w.heap.size, 0, none⟩ = some (.int .i64 3) by rw [cell_newest]; rfl)
  have L1 := Lib.hid (show (w.alloc (.cells #[.int .i64 3, .int .i64 n] 82)).cell? ⟨w.heap.size, 1, none⟩ = some (.int .i64 n) by rw [cell_newest]; rfl)
  have HPO := Lib.hid (fun (W : World) (hW : Below w.heap.size w W) => possible_any g cable charge y1 y2 len wt since cyc false tch 3 n AX AY AV nx cx ny cy nv cv B X Y V W (ht.below hW) (h.stay hW) z0 z1 z2)
  rw [hp] at HPO
  have hg := h.lt
  have c9 := cellOf (o := 9) h rfl
  have hn : posB (fun l u => carB X Y V l l y1 y2 u) cable charge ⟨len, wt, since, cyc, false, tch⟩ 3 n = true := hp
  unfold posB at hn
  simp at hn
  have i7 : IntKind.i64.wrap (since + 1) = since + 1 := IntWalk.i64_in _ (by omega)
  have i8 : IntKind.i64.wrap (cyc + 1) = cyc + 1 := IntWalk.i64_in _ (by omega)
  clear h ht hp hn
  go_enter Try.func80, Try.ntmps80
  go_upto_region 3 with (go_at_call 110; refine Calls.mono (HPO.out _ ((Below.refl _ _).alloc (Nat.le_refl _) _)) ?_; rintro e w3 ⟨rfl, hb3⟩; have r0 := cell_keep hb3 L0.out; have r1 := cell_keep hb3 L1.out; have hw3 : WN w3 g cable AX nx cx AY ny cy AV nv cv charge ⟨len, wt, since, cyc, false, tch⟩ y1 y2 := (HW.out.stay ((Below.refl _ _).alloc (Nat.le_refl _) _)).stay hb3; have hk3 : Kept g w w3 := (Kept.of ((Below.refl _ _).alloc (Nat.le_refl _) _) (Nat.le_of_lt HW.out.lt)).trans (Kept.of hb3 (Nat.le_of_lt (HW.out.stay ((Below.refl _ _).alloc (Nat.le_refl _) _)).lt)); clear hb3)
  have HW3 := Lib.hid hw3
  have HK3 := Lib.hid hk3
  have hg3 := hw3.lt
  have c5 := cellOf (o := 5) hw3 rfl
  have f5 := freeOf (o := 5) hw3
  have c6 := cellOf (o := 6) hw3 rfl
  have f6 := freeOf (o := 6) hw3
  have c7 := cellOf (o := 7) hw3 rfl
  have f7 := freeOf (o := 7) hw3
  have c8 := cellOf (o := 8) hw3 rfl
  have f8 := freeOf (o := 8) hw3
  have c9 := cellOf (o := 9) hw3 rfl
  have f9 := freeOf (o := 9) hw3
  have c12 := cellOf (o := 12) hw3 rfl
  have f12 := freeOf (o := 12) hw3
  clear hw3 hk3
  go_wp2
  go_ret
  exact ⟨rfl, (block_setCell _ (block_setCell _ (block_setCell _ HW3.out))).trans (by rfl), (((HK3.out.setCell 7 _).setCell 7 _).setCell 12 _)⟩

set_option maxRecDepth 100000 in
set_option maxHeartbeats 4000000 in
theorem does4 (ht : HT w B AX AY AV nx ny nv X Y V) (h : WN w g cable AX nx cx AY ny cy AV nv cv charge ⟨len, wt, since, cyc, false, tch⟩ y1 y2) (z0 : 0 ≤ len) (z1 : len ≤ cable) (z2 : cable ≤ 100) (s0 : 0 ≤ since) (s1 : since ≤ 1000) (q0 : 0 ≤ cyc) (q1 : cyc ≤ 1000) (hp : posB (fun l u => carB X Y V l l y1 y2 u) cable charge ⟨len, wt, since, cyc, false, tch⟩ 4 n = true) :
    Calls Try.prog 80 #[.pointer (some ⟨g, 0, none⟩), .agg #[.int .i64 4, .int .i64 n]] w (GivesW g cable charge y1 y2 AX AY AV nx cx ny cy nv cv w true (plS ⟨len, wt, since, cyc, false, tch⟩ 4 n)) := by
  have HW := Lib.hid h
  have L0 := Lib.hid (show (w.alloc (.cells #[.int .i64 4, .int .i64 n] 82)).cell? ⟨w.heap.size, 0, none⟩ = some (.int .i64 4) by rw [cell_newest]; rfl)
  have L1 := Lib.hid (show (w.alloc (.cells #[.int .i64 4, .int .i64 n] 82)).cell? ⟨w.heap.size, 1, none⟩ = some (.int .i64 n) by rw [cell_newest]; rfl)
  have HPO := Lib.hid (fun (W : World) (hW : Below w.heap.size w W) => possible_any g cable charge y1 y2 len wt since cyc false tch 4 n AX AY AV nx cx ny cy nv cv B X Y V W (ht.below hW) (h.stay hW) z0 z1 z2)
  rw [hp] at HPO
  have hg := h.lt
  have c9 := cellOf (o := 9) h rfl
  have hn : posB (fun l u => carB X Y V l l y1 y2 u) cable charge ⟨len, wt, since, cyc, false, tch⟩ 4 n = true := hp
  unfold posB at hn
  simp at hn
  have i7 : IntKind.i64.wrap (since + 1) = since + 1 := IntWalk.i64_in _ (by omega)
  have i8 : IntKind.i64.wrap (cyc + 1) = cyc + 1 := IntWalk.i64_in _ (by omega)
  clear h ht hp hn
  go_enter Try.func80, Try.ntmps80
  go_upto_region 3 with (go_at_call 110; refine Calls.mono (HPO.out _ ((Below.refl _ _).alloc (Nat.le_refl _) _)) ?_; rintro e w3 ⟨rfl, hb3⟩; have r0 := cell_keep hb3 L0.out; have r1 := cell_keep hb3 L1.out; have hw3 : WN w3 g cable AX nx cx AY ny cy AV nv cv charge ⟨len, wt, since, cyc, false, tch⟩ y1 y2 := (HW.out.stay ((Below.refl _ _).alloc (Nat.le_refl _) _)).stay hb3; have hk3 : Kept g w w3 := (Kept.of ((Below.refl _ _).alloc (Nat.le_refl _) _) (Nat.le_of_lt HW.out.lt)).trans (Kept.of hb3 (Nat.le_of_lt (HW.out.stay ((Below.refl _ _).alloc (Nat.le_refl _) _)).lt)); clear hb3)
  have HW3 := Lib.hid hw3
  have HK3 := Lib.hid hk3
  have hg3 := hw3.lt
  have c5 := cellOf (o := 5) hw3 rfl
  have f5 := freeOf (o := 5) hw3
  have c6 := cellOf (o := 6) hw3 rfl
  have f6 := freeOf (o := 6) hw3
  have c7 := cellOf (o := 7) hw3 rfl
  have f7 := freeOf (o := 7) hw3
  have c8 := cellOf (o := 8) hw3 rfl
  have f8 := freeOf (o := 8) hw3
  have c9 := cellOf (o := 9) hw3 rfl
  have f9 := freeOf (o := 9) hw3
  have c12 := cellOf (o := 12) hw3 rfl
  have f12 := freeOf (o := 12) hw3
  clear hw3 hk3
  go_wp2
  go_ret
  exact ⟨rfl, (block_setCell _ (block_setCell _ HW3.out)).trans (by rfl), ((HK3.out.setCell 7 _).setCell 6 _)⟩

set_option maxRecDepth 100000 in
set_option maxHeartbeats 4000000 in
theorem does5 (ht : HT w B AX AY AV nx ny nv X Y V) (h : WN w g cable AX nx cx AY ny cy AV nv cv charge ⟨len, wt, since, cyc, false, tch⟩ y1 y2) (z0 : 0 ≤ len) (z1 : len ≤ cable) (z2 : cable ≤ 100) (s0 : 0 ≤ since) (s1 : since ≤ 1000) (q0 : 0 ≤ cyc) (q1 : cyc ≤ 1000) (hp : posB (fun l u => carB X Y V l l y1 y2 u) cable charge ⟨len, wt, since, cyc, false, tch⟩ 5 n = true) :
    Calls Try.prog 80 #[.pointer (some ⟨g, 0, none⟩), .agg #[.int .i64 5, .int .i64 n]] w (GivesW g cable charge y1 y2 AX AY AV nx cx ny cy nv cv w true (plS ⟨len, wt, since, cyc, false, tch⟩ 5 n)) := by
  have HW := Lib.hid h
  have L0 := Lib.hid (show (w.alloc (.cells #[.int .i64 5, .int .i64 n] 82)).cell? ⟨w.heap.size, 0, none⟩ = some (.int .i64 5) by rw [cell_newest]; rfl)
  have L1 := Lib.hid (show (w.alloc (.cells #[.int .i64 5, .int .i64 n] 82)).cell? ⟨w.heap.size, 1, none⟩ = some (.int .i64 n) by rw [cell_newest]; rfl)
  have HPO := Lib.hid (fun (W : World) (hW : Below w.heap.size w W) => possible_any g cable charge y1 y2 len wt since cyc false tch 5 n AX AY AV nx cx ny cy nv cv B X Y V W (ht.below hW) (h.stay hW) z0 z1 z2)
  rw [hp] at HPO
  have hg := h.lt
  have c9 := cellOf (o := 9) h rfl
  have hn : posB (fun l u => carB X Y V l l y1 y2 u) cable charge ⟨len, wt, since, cyc, false, tch⟩ 5 n = true := hp
  unfold posB at hn
  simp at hn
  have i7 : IntKind.i64.wrap (since + 1) = since + 1 := IntWalk.i64_in _ (by omega)
  have i8 : IntKind.i64.wrap (cyc + 1) = cyc + 1 := IntWalk.i64_in _ (by omega)
  clear h ht hp hn
  go_enter Try.func80, Try.ntmps80
  go_upto_region 3 with (go_at_call 110; refine Calls.mono (HPO.out _ ((Below.refl _ _).alloc (Nat.le_refl _) _)) ?_; rintro e w3 ⟨rfl, hb3⟩; have r0 := cell_keep hb3 L0.out; have r1 := cell_keep hb3 L1.out; have hw3 : WN w3 g cable AX nx cx AY ny cy AV nv cv charge ⟨len, wt, since, cyc, false, tch⟩ y1 y2 := (HW.out.stay ((Below.refl _ _).alloc (Nat.le_refl _) _)).stay hb3; have hk3 : Kept g w w3 := (Kept.of ((Below.refl _ _).alloc (Nat.le_refl _) _) (Nat.le_of_lt HW.out.lt)).trans (Kept.of hb3 (Nat.le_of_lt (HW.out.stay ((Below.refl _ _).alloc (Nat.le_refl _) _)).lt)); clear hb3)
  have HW3 := Lib.hid hw3
  have HK3 := Lib.hid hk3
  have hg3 := hw3.lt
  have c5 := cellOf (o := 5) hw3 rfl
  have f5 := freeOf (o := 5) hw3
  have c6 := cellOf (o := 6) hw3 rfl
  have f6 := freeOf (o := 6) hw3
  have c7 := cellOf (o := 7) hw3 rfl
  have f7 := freeOf (o := 7) hw3
  have c8 := cellOf (o := 8) hw3 rfl
  have f8 := freeOf (o := 8) hw3
  have c9 := cellOf (o := 9) hw3 rfl
  have f9 := freeOf (o := 9) hw3
  have c12 := cellOf (o := 12) hw3 rfl
  have f12 := freeOf (o := 12) hw3
  clear hw3 hk3
  go_wp2
  go_ret
  exact ⟨rfl, (block_setCell _ (block_setCell _ (block_setCell _ HW3.out))).trans (by rfl), (((HK3.out.setCell 7 _).setCell 6 _).setCell 8 _)⟩

set_option maxRecDepth 100000 in
set_option maxHeartbeats 4000000 in
theorem does6 (ht : HT w B AX AY AV nx ny nv X Y V) (h : WN w g cable AX nx cx AY ny cy AV nv cv charge ⟨len, wt, since, cyc, false, tch⟩ y1 y2) (z0 : 0 ≤ len) (z1 : len ≤ cable) (z2 : cable ≤ 100) (s0 : 0 ≤ since) (s1 : since ≤ 1000) (q0 : 0 ≤ cyc) (q1 : cyc ≤ 1000) (hp : posB (fun l u => carB X Y V l l y1 y2 u) cable charge ⟨len, wt, since, cyc, false, tch⟩ 6 n = true) :
    Calls Try.prog 80 #[.pointer (some ⟨g, 0, none⟩), .agg #[.int .i64 6, .int .i64 n]] w (GivesW g cable charge y1 y2 AX AY AV nx cx ny cy nv cv w true (plS ⟨len, wt, since, cyc, false, tch⟩ 6 n)) := by
  have HW := Lib.hid h
  have L0 := Lib.hid (show (w.alloc (.cells #[.int .i64 6, .int .i64 n] 82)).cell? ⟨w.heap.size, 0, none⟩ = some (.int .i64 6) by rw [cell_newest]; rfl)
  have L1 := Lib.hid (show (w.alloc (.cells #[.int .i64 6, .int .i64 n] 82)).cell? ⟨w.heap.size, 1, none⟩ = some (.int .i64 n) by rw [cell_newest]; rfl)
  have HPO := Lib.hid (fun (W : World) (hW : Below w.heap.size w W) => possible_any g cable charge y1 y2 len wt since cyc false tch 6 n AX AY AV nx cx ny cy nv cv B X Y V W (ht.below hW) (h.stay hW) z0 z1 z2)
  rw [hp] at HPO
  have hg := h.lt
  have c9 := cellOf (o := 9) h rfl
  have hn : posB (fun l u => carB X Y V l l y1 y2 u) cable charge ⟨len, wt, since, cyc, false, tch⟩ 6 n = true := hp
  unfold posB at hn
  simp at hn
  have i7 : IntKind.i64.wrap (since + 1) = since + 1 := IntWalk.i64_in _ (by omega)
  have i8 : IntKind.i64.wrap (cyc + 1) = cyc + 1 := IntWalk.i64_in _ (by omega)
  clear h ht hp hn
  go_enter Try.func80, Try.ntmps80
  go_upto_region 3 with (go_at_call 110; refine Calls.mono (HPO.out _ ((Below.refl _ _).alloc (Nat.le_refl _) _)) ?_; rintro e w3 ⟨rfl, hb3⟩; have r0 := cell_keep hb3 L0.out; have r1 := cell_keep hb3 L1.out; have hw3 : WN w3 g cable AX nx cx AY ny cy AV nv cv charge ⟨len, wt, since, cyc, false, tch⟩ y1 y2 := (HW.out.stay ((Below.refl _ _).alloc (Nat.le_refl _) _)).stay hb3; have hk3 : Kept g w w3 := (Kept.of ((Below.refl _ _).alloc (Nat.le_refl _) _) (Nat.le_of_lt HW.out.lt)).trans (Kept.of hb3 (Nat.le_of_lt (HW.out.stay ((Below.refl _ _).alloc (Nat.le_refl _) _)).lt)); clear hb3)
  have HW3 := Lib.hid hw3
  have HK3 := Lib.hid hk3
  have hg3 := hw3.lt
  have c5 := cellOf (o := 5) hw3 rfl
  have f5 := freeOf (o := 5) hw3
  have c6 := cellOf (o := 6) hw3 rfl
  have f6 := freeOf (o := 6) hw3
  have c7 := cellOf (o := 7) hw3 rfl
  have f7 := freeOf (o := 7) hw3
  have c8 := cellOf (o := 8) hw3 rfl
  have f8 := freeOf (o := 8) hw3
  have c9 := cellOf (o := 9) hw3 rfl
  have f9 := freeOf (o := 9) hw3
  have c12 := cellOf (o := 12) hw3 rfl
  have f12 := freeOf (o := 12) hw3
  clear hw3 hk3
  go_wp2
  go_ret
  exact ⟨rfl, (block_setCell _ (block_setCell _ (block_setCell _ (block_setCell _ HW3.out)))).trans (by rfl), ((((HK3.out.setCell 7 _).setCell 5 _).setCell 6 _).setCell 9 _)⟩

theorem does_any (s : HG) (ht : HT w B AX AY AV nx ny nv X Y V) (h : WN w g cable AX nx cx AY ny cy AV nv cv charge s y1 y2) (z0 : 0 ≤ s.len) (z1 : s.len ≤ cable) (z2 : cable ≤ 100) (s0 : 0 ≤ s.since) (s1 : s.since ≤ 1000) (q0 : 0 ≤ s.cyc) (q1 : s.cyc ≤ 1000) :
    Calls Try.prog 80 #[.pointer (some ⟨g, 0, none⟩), .agg #[.int .i64 k, .int .i64 n]] w (GivesW g cable charge y1 y2 AX AY AV nx cx ny cy nv cv w (doB (fun l u => carB X Y V l l y1 y2 u) cable charge s k n) (if doB (fun l u => carB X Y V l l y1 y2 u) cable charge s k n then plS s k n else s)) := by
  obtain ⟨len, wt, since, cyc, cut, tch⟩ := s
  unfold doB
  cases cut with
  | true => exact does_cut g cable charge y1 y2 len wt since cyc tch k n AX AY AV nx cx ny cy nv cv B X Y V w ht h z0 z1 z2 s0 s1 q0 q1
  | false =>
    simp only [Bool.not_false, Bool.true_and]
    cases hp : posB (fun l u => carB X Y V l l y1 y2 u) cable charge ⟨len, wt, since, cyc, false, tch⟩ k n with
    | false => exact does_no g cable charge y1 y2 len wt since cyc tch k n AX AY AV nx cx ny cy nv cv B X Y V w ht h z0 z1 z2 s0 s1 q0 q1 hp
    | true =>
      simp only [if_true]
      by_cases k1 : k = 1
      · subst k1; exact does1 g cable charge y1 y2 len wt since cyc tch n AX AY AV nx cx ny cy nv cv B X Y V w ht h z0 z1 z2 s0 s1 q0 q1 hp
      by_cases k2 : k = 2
      · subst k2; exact does2 g cable charge y1 y2 len wt since cyc tch n AX AY AV nx cx ny cy nv cv B X Y V w ht h z0 z1 z2 s0 s1 q0 q1 hp
      by_cases k3 : k = 3
      · subst k3; exact does3 g cable charge y1 y2 len wt since cyc tch n AX AY AV nx cx ny cy nv cv B X Y V w ht h z0 z1 z2 s0 s1 q0 q1 hp
      by_cases k4 : k = 4
      · subst k4; exact does4 g cable charge y1 y2 len wt since cyc tch n AX AY AV nx cx ny cy nv cv B X Y V w ht h z0 z1 z2 s0 s1 q0 q1 hp
      by_cases k5 : k = 5
      · subst k5; exact does5 g cable charge y1 y2 len wt since cyc tch n AX AY AV nx cx ny cy nv cv B X Y V w ht h z0 z1 z2 s0 s1 q0 q1 hp
      by_cases k6 : k = 6
      · subst k6; exact does6 g cable charge y1 y2 len wt since cyc tch n AX AY AV nx cx ny cy nv cv B X Y V w ht h z0 z1 z2 s0 s1 q0 q1 hp
      unfold posB at hp
      simp [k1, k2, k3, k4, k5, k6] at hp
end
end Go.Proofs.Ytnnmmojlgikdgaa

/- The winch plays steps until one is not possible. -/
namespace Go.Proofs.Ytnnmmojlgikdgaa
open Go.RowKit

theorem hauR_step {p : HG → Int → Int → Bool} {L : List (Int × Int)} {j : Nat} {x : Int × Int} {s : HG} (h : L[j]? = some x) : hauR p (L.drop j) s j = if p s x.1 x.2 then hauR p (L.drop (j + 1)) (plS s x.1 x.2) ((j + 1 : Nat) : Int) else (s, (j : Int)) := by
  have hl : j < L.length := by
    rw [List.getElem?_eq_some_iff] at h
    exact h.1
  have e : L.drop j = x :: L.drop (j + 1) := by
    rw [List.drop_eq_getElem_cons hl]
    rw [List.getElem?_eq_getElem hl] at h
    injection h with h
    rw [h]
  rw [e]
  obtain ⟨a, b⟩ := x
  simp [hauR]
theorem doB_pos {car : Int → Int → Bool} {cable charge : Int} {s : HG} {k n : Int} (h : doB car cable charge s k n = true) : posB car cable charge s k n = true := by
  unfold doB at h
  simp at h
  exact h.2

section
variable (g q : Nat) (cable charge y1 y2 : Int) (k n : Int) (AX AY AV : Option Addr) (nx cx ny cy nv cv B : Nat) (X Y : List Int) (V : List (List Int)) (w : World)

set_option maxRecDepth 100000 in
theorem haul1_any (m : Nat) (hm : m ≤ 1000) (s : HG) (ht : HT w B AX AY AV nx ny nv X Y V) (h : WN w g cable AX nx cx AY ny cy AV nv cv charge s y1 y2) (hq : w.cell? ⟨q, 0, none⟩ = some (.pointer (some ⟨g, 0, none⟩))) (hG : GD cable m s) (z2 : cable ≤ 100) :
    Calls Try.prog 79 #[.agg #[.int .i64 k, .int .i64 n], .pointer (some ⟨q, 0, none⟩)] w (GivesW g cable charge y1 y2 AX AY AV nx cx ny cy nv cv w (!doB (fun l u => carB X Y V l l y1 y2 u) cable charge s k n) (if doB (fun l u => carB X Y V l l y1 y2 u) cable charge s k n then plS s k n else s)) := by
  have hl := World.block_lt_of_cell? _ _ hq
  have hW1 : WN (w.alloc (.cells #[.int .i64 k, .int .i64 n] 82)) g cable AX nx cx AY ny cy AV nv cv charge s y1 y2 := h.stay ((Below.refl _ _).alloc (Nat.le_refl _) _)
  have HK1 := Lib.hid (Kept.of ((Below.refl w.heap.size w).alloc (Nat.le_refl _) (.cells #[.int .i64 k, .int .i64 n] 82)) (Nat.le_of_lt h.lt))
  have HD := Lib.hid (does_any g cable charge y1 y2 k n AX AY AV nx cx ny cy nv cv B X Y V (w.alloc (.cells #[.int .i64 k, .int .i64 n] 82)) s (ht.below ((Below.refl _ _).alloc (Nat.le_refl _) _)) hW1 hG.l0 hG.l1 z2 hG.s0 (by have := hG.s1; omega) hG.c0 (by have := hG.c1; omega))
  generalize doB (fun l u => carB X Y V l l y1 y2 u) cable charge s k n = d at *
  generalize (if d = true then plS s k n else s) = s' at *
  have hq1 : (w.alloc (.cells #[.int .i64 k, .int .i64 n] 82)).cell? ⟨q, 0, none⟩ = some (.pointer (some ⟨g, 0, none⟩)) := cell_keep ((Below.refl _ _).alloc (Nat.le_refl _) _) hq
  clear h ht hW1 hG
  go_enter Try.func79, Try.ntmps79
  go_wp2_with (go_at_call 80; refine Calls.mono HD.out ?_; rintro e w3 ⟨rfl, hw3, hk3⟩; have HW3 := Lib.hid hw3; have HK3 := Lib.hid hk3; clear hw3 hk3)
  go_ret
  exact ⟨ret_bool (by simp), HW3.out, HK1.out.trans HK3.out⟩

set_option maxRecDepth 100000 in
set_option maxHeartbeats 1000000 in
theorem indexFunc_any (A : Option Addr) (na c : Nat) (L : List (Int × Int)) (s0 : HG) (hL : L.length = na) (hn : na ≤ 100) (hr : RS w B A L) (hBg : B ≤ g) (hqg : q ≠ g) (ht : HT w B AX AY AV nx ny nv X Y V) (h : WN w g cable AX nx cx AY ny cy AV nv cv charge s0 y1 y2) (hq : w.cell? ⟨q, 0, none⟩ = some (.pointer (some ⟨g, 0, none⟩))) (hG : GD cable 0 s0) (z1 : 0 ≤ cable) (z2 : cable ≤ 100) :
    Calls Try.prog 78 #[.slice A na c, .func (.func 79) #[] #[.pointer (some ⟨q, 0, none⟩)]] w fun e w' =>
      e = .returned (.int .i64 (hauR (doB (fun l u => carB X Y V l l y1 y2 u) cable charge) L s0 0).2) ∧ WN w' g cable AX nx cx AY ny cy AV nv cv charge (hauR (doB (fun l u => carB X Y V l l y1 y2 u) cable charge) L s0 0).1 y1 y2 ∧ Kept g w w' := by
  subst hL
  have hcar : ∀ s k n, doB (fun l u => carB X Y V l l y1 y2 u) cable charge s k n = true → posB (fun l u => carB X Y V l l y1 y2 u) cable charge s k n = true := fun s k n h => doB_pos h
  have HC1 := Lib.hid (fun (W : World) (hW : Kept g w W) (m : Nat) (hm : m ≤ 1000) (s : HG) (k n : Int) (h : WN W g cable AX nx cx AY ny cy AV nv cv charge s y1 y2) (hG : GD cable m s) => haul1_any g q cable charge y1 y2 k n AX AY AV nx cx ny cy nv cv B X Y V W m hm s (hW.ht hBg ht) h (hW.cell hq hqg) hG z2)
  obtain ⟨P, hP⟩ : ∃ P, doB (fun l u => carB X Y V l l y1 y2 u) cable charge = P := ⟨_, rfl⟩
  obtain ⟨R, hR⟩ : ∃ R, hauR P L s0 0 = R := ⟨_, rfl⟩
  have HPL := Lib.hid (fun (m : Nat) (s : HG) (k n : Int) (hG : GD cable m s) (hp : P s k n = true) => GD.play hG z1 (hcar s k n (by rw [hP]; exact hp)))
  simp only [hP] at HC1 ⊢
  rw [hR]
  have HR := Lib.hid hR
  have HRS := Lib.hid hr
  have HW0 := Lib.hid h
  have HG0 := Lib.hid hG
  clear hcar hP hR h hr hG ht hq
  have eg : ∀ args W, Sem.run Try.prog (callFunc 79 args) W = Result.ok (Next.enter 79 args) W := Try.call79
  go_enter Try.func78, Try.ntmps78
  go_wp2
  go_loopw [8] (fun i wr => ∃ (j : Nat) (s : HG), j ≤ L.length ∧ i = .int .i64 j ∧ hauR P (L.drop j) s j = R ∧ GD cable j s ∧ WN wr g cable AX nx cx AY ny cy AV nv cv charge s y1 y2 ∧ Kept g w wr) (fun i _ => L.length - (intOf i).toNat)
  case atStart => exact ⟨0, s0, Nat.zero_le _, rfl, by simpa using HR.out, HG0.out, HW0.out, Kept.refl _ _⟩
  case round =>
    obtain ⟨j, s, hj, rfl, hs, hg, hw, hk⟩ := hrel
    by_cases hlt : j < L.length
    · obtain ⟨b, off, x, rfl, hb, hx, hc1, hc2⟩ := (HRS.out.below (hk.low hBg)).at_ hlt
      have hb' : b < wr.heap.size := World.block_lt_of_cell? _ _ hc1
      obtain ⟨x1, x2⟩ := x
      simp only at hc1 hc2
      have hst := hauR_step (p := P) (s := s) hx
      rw [hs] at hst
      have HGJ := Lib.hid hg
      have HK := Lib.hid hk
      have HC := Lib.hid (HC1.out wr hk j (by omega) s x1 x2 hw hg)
      clear hs hg hw hk hx
      simp only at hst
      cases hp : P s x1 x2 with
      | false =>
        rw [hp] at hst HC
        simp only [Bool.false_eq_true, if_false, Bool.not_false] at hst HC
        have HST := Lib.hid hst
        clear hst hp
        go_wp2_with (refine Calls.mono HC.out ?_; rintro e w3 ⟨rfl, hw3, hk3⟩; have HW3 := Lib.hid hw3; have HK3 := Lib.hid hk3; clear hw3 hk3)
        go_ret
        rw [HST.out]
        exact ⟨rfl, HW3.out, HK.out.trans HK3.out⟩
      | true =>
        have hg2 := HPL.out j s x1 x2 HGJ.out hp
        rw [hp] at hst HC
        simp only [if_true, Bool.not_true] at hst HC
        have HST := Lib.hid hst
        have HG2 := Lib.hid hg2
        clear hst hp hg2
        go_wp2_with (refine Calls.mono HC.out ?_; rintro e w3 ⟨rfl, hw3, hk3⟩; have HW3 := Lib.hid hw3; have HK3 := Lib.hid hk3; clear hw3 hk3)
        go_roundw
        case rel => exact ⟨j + 1, plS s x1 x2, by omega, by go_num, HST.out.symm, HG2.out, HW3.out, HK.out.trans HK3.out⟩
        case measure => simp [intOf]; omega
    · have e : j = L.length := by omega
      subst e
      have hs' : R = (s, -1) := by rw [← hs]; simp [hauR]
      have HS := Lib.hid hs'
      have HWr := Lib.hid hw
      have HK := Lib.hid hk
      clear hs hg hw hk hs'
      go_wp2
      go_ret
      rw [HS.out]
      exact ⟨rfl, HWr.out, HK.out⟩
end
end Go.Proofs.Ytnnmmojlgikdgaa

/- Haul. -/
namespace Go.Proofs.Ytnnmmojlgikdgaa
open Go.RowKit

def HA (s : HG) : Value := .agg #[.int .i64 s.len, .int .i64 s.wt, .int .i64 s.since, .int .i64 s.cyc, .bool s.cut]
/-- How a hoist stands, in a box. -/
def HX (W : World) (b : Nat) (s : HG) : Prop := W.heap[b]? = some (.cells #[.int .i64 s.len, .int .i64 s.wt, .int .i64 s.since, .int .i64 s.cyc, .bool s.cut] 61 (0, 0))
section
variable {W W' : World} {b : Nat} {s : HG}
theorem HX.lt (h : HX W b s) : b < W.heap.size := lt_of_block h
theorem HX.stay (h : HX W b s) (hb : Below W.heap.size W W') : HX W' b s := (hb.block b h.lt).trans h
theorem HX.keep {g : Nat} (h : HX W b s) (hb : Kept g W W') (hn : b ≠ g) : HX W' b s := (hb.2 b h.lt hn).trans h
theorem HX.put (h : HX W b s) (a c d e : Int) (f : Bool) : HX (((((W.setCell ⟨b, 0, none⟩ (.int .i64 a)).setCell ⟨b, 1, none⟩ (.int .i64 c)).setCell ⟨b, 2, none⟩ (.int .i64 d)).setCell ⟨b, 3, none⟩ (.int .i64 e)).setCell ⟨b, 4, none⟩ (.bool f)) b ⟨a, c, d, e, f, false⟩ :=
  (block_setCell _ (block_setCell _ (block_setCell _ (block_setCell _ (block_setCell _ h))))).trans (by rfl)
theorem hx_below {W0 : World} {n : Nat} (h : Below n W0 W) (hn : n ≤ b) (v0 v1 v2 v3 v4 : Value) : Below n W0 (((((W.setCell ⟨b, 0, none⟩ v0).setCell ⟨b, 1, none⟩ v1).setCell ⟨b, 2, none⟩ v2).setCell ⟨b, 3, none⟩ v3).setCell ⟨b, 4, none⟩ v4) :=
  ((((h.setCell hn _).setCell hn _).setCell hn _).setCell hn _).setCell hn _
theorem HX.new (W : World) : HX (W.alloc (.cells #[.int .i64 0, .int .i64 0, .int .i64 0, .int .i64 0, .bool false] 61)) W.heap.size zeroH := by show (W.heap.push _)[W.heap.size]? = _; simp [zeroH]
theorem HX.congr {t : HG} (h : HX W b s) (e : HA s = HA t) : HX W b t := by
  unfold HX HA at *
  injection e with e
  rw [← e]
  exact h
end

/-- Haul: how the hoist stands, the step, the error. -/
def hauN (X Y : List Int) (V : List (List Int)) (cable charge y1 y2 : Int) (L : List (Int × Int)) : HG × Int × Int :=
  if hwE X Y V cable charge y1 y2 = 0 then
    if L.length ≤ 100 then
      if osB Y (y1, y2) then
        if 0 ≤ (hauR (doB (fun l u => carB X Y V l l y1 y2 u) cable charge) L zeroH 0).2 then (zeroH, (hauR (doB (fun l u => carB X Y V l l y1 y2 u) cable charge) L zeroH 0).2, 72) else ((hauR (doB (fun l u => carB X Y V l l y1 y2 u) cable charge) L zeroH 0).1, 0, 0)
      else (zeroH, 0, 1)
    else (zeroH, 0, 2)
  else (zeroH, 0, hwE X Y V cable charge y1 y2)
theorem zero_good {cable : Int} (h : 0 ≤ cable) : GD cable 0 zeroH := by constructor <;> simp [zeroH] <;> omega

end Go.Proofs.Ytnnmmojlgikdgaa

/- A drawn region with one store into a box that was there, anywhere among its operations; all other blocks stay. -/
namespace Go.Proofs.Ytnnmmojlgikdgaa
open Go.RowKit

def RK (Q : Nat → Value → World → Prop) (W0 : World) (s q : Nat) (o1 : Obj) (val : Nat → Value) (L : Array Bool) (W : World) : Prop :=
  Kept q W0 W ∧ (∀ j, L.getD j false = true → Q j (val j) W) ∧ (L.getD s false = true → W.heap[q]? = some o1) ∧ (L.getD s false = false → W.heap[q]? = W0.heap[q]?)
section
variable {Q : Nat → Value → World → Prop} {W0 W W' : World} {s q i : Nat} {o1 : Obj} {v : Value} {val : Nat → Value} {L : Array Bool}
theorem RK.start (Q : Nat → Value → World → Prop) (W0 : World) (s q : Nat) (o1 : Obj) (n : Nat) : RK Q W0 s q o1 (fun _ => undef) (Array.replicate n false) W0.drew :=
  ⟨⟨(Below.refl _ _).drew, fun _ _ _ => rfl⟩, fun j h => (by rw [getD_replicate_no] at h; cases h), fun h => (by rw [getD_replicate_no] at h; cases h), fun _ => rfl⟩
theorem RK.vals (h : RK Q W0 s q o1 val L W) (hQ : Still Q) (hq : Q i v W') : ∀ j, (L.setIfInBounds i true).getD j false = true → Q j (upd val i v j) W' := fun j hj => by
  by_cases e : j = i
  · subst e; rw [upd_same]; exact hq
  · rw [upd_other e]
    rw [getD_set_other (fun h => e h.symm)] at hj
    exact hQ _ _ _ _ (h.2.1 j hj)
theorem RK.step (h : RK Q W0 s q o1 val L W) (hQ : Still Q) (hq0 : q < W0.heap.size) (hb : Below W.heap.size W W') (hq : Q i v W') (hs : i ≠ s) : RK Q W0 s q o1 (upd val i v) (L.setIfInBounds i true) W' := by
  have hlt : q < W.heap.size := Nat.lt_of_lt_of_le hq0 h.1.1.size
  refine ⟨h.1.trans (Kept.of hb (Nat.le_of_lt hlt)), h.vals hQ hq, fun hl => ?_, fun hl => ?_⟩
  · rw [getD_set_other hs] at hl
    exact (hb.block q hlt).trans (h.2.2.1 hl)
  · rw [getD_set_other hs] at hl
    exact (hb.block q hlt).trans (h.2.2.2 hl)
theorem RK.store (h : RK Q W0 s q o1 val L W) (hQ : Still Q) (hls : s < L.size) (hk : Kept q W W') (hc : W'.heap[q]? = some o1) (hq : Q s v W') : RK Q W0 s q o1 (upd val s v) (L.setIfInBounds s true) W' :=
  ⟨h.1.trans hk, h.vals hQ hq, fun _ => hc, fun hl => (by rw [getD_set_eq hls] at hl; cases hl)⟩
end
section
variable {Q : Nat → Value → World → Prop} {vals : List (Option Value)} {ex : Nat → Value → World → Prop} {W0 W : World} {s q : Nat} {o1 : Obj} {val : Nat → Value} {L : Array Bool}
theorem RK.go (h : RK Q W0 s q o1 val L W) (hQ : Still Q) (hq0 : q < W0.heap.size) (HQ : Hid (Q = QG vals ex)) (i : Nat) {x : Value} (hx : vals[i]? = some (some x)) (hs : i ≠ s) : ∀ v W', Below W.heap.size W W' → v = x → RK Q W0 s q o1 (upd val i v) (L.setIfInBounds i true) W' :=
  fun _ _ hb e => h.step hQ hq0 hb (QG.put HQ hx e) hs
theorem RK.goT (h : RK Q W0 s q o1 val L W) (hQ : Still Q) (hq0 : q < W0.heap.size) {i : Nat} (hn : ∀ v W, Q i v W) (hs : i ≠ s) : ∀ v W', Below W.heap.size W W' → True → RK Q W0 s q o1 (upd val i v) (L.setIfInBounds i true) W' :=
  fun v W' hb _ => h.step hQ hq0 hb (hn v W') hs
end
end Go.Proofs.Ytnnmmojlgikdgaa

/- Blocks that are new, and old ones. -/
namespace Go.Proofs.Ytnnmmojlgikdgaa
open Go.RowKit

theorem blk_new (W : World) (o : Obj) (b : Nat) (h : W.heap.size = b) : (W.alloc o).heap[b]? = some o := by
  subst h
  show (W.heap.push _)[W.heap.size]? = _
  simp
theorem blk_old {W : World} {b : Nat} {x : Obj} (o : Obj) (h : W.heap[b]? = some x) : (W.alloc o).heap[b]? = some x := by
  have hl : b < W.heap.size := by
    rw [Array.getElem?_eq_some_iff] at h
    exact h.1
  exact (Below.heap_alloc _ _ _ hl).trans h
end Go.Proofs.Ytnnmmojlgikdgaa

/- The worlds of the reference's Step. -/
namespace Go.Proofs.Ytnnmmojlgikdgaa
open Go.RowKit

def GivesT (w : World) (p : Bool) (s : HG) (e : Ending) (w' : World) : Prop := e = .returned (.tuple #[HA s, .bool s.touched, .bool p]) ∧ Below w.heap.size w w'
/-- The world in which Step begins. -/
structure ST (w W : World) (cable charge y1 y2 len wt since cyc : Int) (cut : Bool) (k n : Int) (AX AY AV : Option Addr) (nx cx ny cy nv cv : Nat) : Prop where
  b0 : W.heap[w.heap.size]? = some (.cells #[.int .i64 cable, .slice AX nx cx, .slice AY ny cy, .slice AV nv cv, .int .i64 charge] 57 (0, 0))
  b1 : W.heap[w.heap.size + 1]? = some (.cells #[.int .i64 y1, .int .i64 y2] 27 (0, 0))
  b2 : W.heap[w.heap.size + 1 + 1]? = some (.cells #[.int .i64 len, .int .i64 wt, .int .i64 since, .int .i64 cyc, .bool cut] 61 (0, 0))
  b3 : W.heap[w.heap.size + 1 + 1 + 1]? = some (.cells #[.int .i64 k, .int .i64 n] 82 (0, 0))
  b4 : W.heap[w.heap.size + 1 + 1 + 1 + 1]? = some (.cells #[.int .i64 0, .int .i64 0, .int .i64 0, .int .i64 0, .bool false] 61 (0, 0))
  sz : W.heap.size = w.heap.size + 1 + 1 + 1 + 1 + 1
  hb : Below w.heap.size w W
structure ST6 (w W : World) (cable charge y1 y2 len wt since cyc : Int) (cut : Bool) (k n : Int) (AX AY AV : Option Addr) (nx cx ny cy nv cv : Nat) (o : Obj) : Prop where
  b0 : W.heap[w.heap.size]? = some (.cells #[.int .i64 cable, .slice AX nx cx, .slice AY ny cy, .slice AV nv cv, .int .i64 charge] 57 (0, 0))
  b1 : W.heap[w.heap.size + 1]? = some (.cells #[.int .i64 y1, .int .i64 y2] 27 (0, 0))
  b2 : W.heap[w.heap.size + 1 + 1]? = some (.cells #[.int .i64 len, .int .i64 wt, .int .i64 since, .int .i64 cyc, .bool cut] 61 (0, 0))
  b3 : W.heap[w.heap.size + 1 + 1 + 1]? = some (.cells #[.int .i64 k, .int .i64 n] 82 (0, 0))
  b4 : W.heap[w.heap.size + 1 + 1 + 1 + 1]? = some (.cells #[.int .i64 0, .int .i64 0, .int .i64 0, .int .i64 0, .bool false] 61 (0, 0))
  b5 : W.heap[w.heap.size + 1 + 1 + 1 + 1 + 1]? = some o
  sz : W.heap.size = w.heap.size + 1 + 1 + 1 + 1 + 1 + 1
  hb : Below w.heap.size w W

section
variable (cable charge y1 y2 len wt since cyc : Int) (cut tch : Bool) (k n : Int) (AX AY AV : Option Addr) (nx cx ny cy nv cv B : Nat) (X Y : List Int) (V : List (List Int)) (w : World)

theorem st_new : ST w (((((w.alloc (.cells #[.int .i64 cable, .slice AX nx cx, .slice AY ny cy, .slice AV nv cv, .int .i64 charge] 57)).alloc (.cells #[.int .i64 y1, .int .i64 y2] 27)).alloc (.cells #[.int .i64 len, .int .i64 wt, .int .i64 since, .int .i64 cyc, .bool cut] 61)).alloc (.cells #[.int .i64 k, .int .i64 n] 82)).alloc (.cells #[.int .i64 0, .int .i64 0, .int .i64 0, .int .i64 0, .bool false] 61)) cable charge y1 y2 len wt since cyc cut k n AX AY AV nx cx ny cy nv cv :=
  ⟨blk_old _ (blk_old _ (blk_old _ (blk_old _ (blk_new _ _ _ rfl)))), blk_old _ (blk_old _ (blk_old _ (blk_new _ _ _ (by simp)))), blk_old _ (blk_old _ (blk_new _ _ _ (by simp))), blk_old _ (blk_new _ _ _ (by simp)), blk_new _ _ _ (by simp), by simp, by go_grown⟩
theorem ST.stay {W W' : World} (h : ST w W cable charge y1 y2 len wt since cyc cut k n AX AY AV nx cx ny cy nv cv) (hb : Below W.heap.size W W') : Below w.heap.size w W' := h.hb.trans (hb.mono h.hb.size)
/-- .. and with the copy that it changes. -/
theorem st_next {W : World} (h : ST w W cable charge y1 y2 len wt since cyc cut k n AX AY AV nx cx ny cy nv cv) (o : Obj) : ST6 w (W.alloc o) cable charge y1 y2 len wt since cyc cut k n AX AY AV nx cx ny cy nv cv o :=
  ⟨blk_old _ h.b0, blk_old _ h.b1, blk_old _ h.b2, blk_old _ h.b3, blk_old _ h.b4, blk_new _ _ _ h.sz, by simp [h.sz], h.hb.alloc h.hb.size _⟩
structure ST7 (w W : World) (len wt since cyc : Int) (cut : Bool) (o : Obj) : Prop where
  b2 : W.heap[w.heap.size + 1 + 1]? = some (.cells #[.int .i64 len, .int .i64 wt, .int .i64 since, .int .i64 cyc, .bool cut] 61 (0, 0))
  b4 : W.heap[w.heap.size + 1 + 1 + 1 + 1]? = some (.cells #[.int .i64 0, .int .i64 0, .int .i64 0, .int .i64 0, .bool false] 61 (0, 0))
  b5 : W.heap[w.heap.size + 1 + 1 + 1 + 1 + 1]? = some o
  hb : Below w.heap.size w W
theorem ST6.stay {W W' : World} {o : Obj} (h : ST6 w W cable charge y1 y2 len wt since cyc cut k n AX AY AV nx cx ny cy nv cv o) (hb : Below W.heap.size W W') : ST7 w W' len wt since cyc cut o :=
  ⟨(hb.block _ (by rw [h.sz]; omega)).trans h.b2, (hb.block _ (by rw [h.sz]; omega)).trans h.b4, (hb.block _ (by rw [h.sz]; omega)).trans h.b5, h.hb.trans (hb.mono h.hb.size)⟩
end
end Go.Proofs.Ytnnmmojlgikdgaa

/- The reference's Step: steps 3, 5, 6. -/
namespace Go.Proofs.Ytnnmmojlgikdgaa
open Go.RowKit

section
variable (cable charge y1 y2 len wt since cyc : Int) (cut tch : Bool) (k n : Int) (AX AY AV : Option Addr) (nx cx ny cy nv cv B : Nat) (X Y : List Int) (V : List (List Int)) (w : World)

set_option maxRecDepth 100000 in
set_option maxHeartbeats 4000000 in
theorem step3 (_h : HT w B AX AY AV nx ny nv X Y V) (_z0 : 0 ≤ len) (_z1 : len ≤ cable) (_z2 : cable ≤ 100) (_w0 : 0 ≤ wt) (s0 : 0 ≤ since) (s1 : since ≤ 1000) (q0 : 0 ≤ cyc) (q1 : cyc ≤ 1000) :
    Calls Try.prog 81 #[.agg #[.int .i64 cable, .slice AX nx cx, .slice AY ny cy, .slice AV nv cv, .int .i64 charge], .agg #[.int .i64 y1, .int .i64 y2], .agg #[.int .i64 len, .int .i64 wt, .int .i64 since, .int .i64 cyc, .bool false], .bool tch, .agg #[.int .i64 3, .int .i64 n]] w (GivesT w (decide (n = 0) && decide (0 < len)) (⟨len, wt, 0, cyc, false, true⟩)) := by
  have S5 := Lib.hid (st_new cable charge y1 y2 len wt since cyc false 3 n AX AY AV nx cx ny cy nv cv w)
  have i7 : IntKind.i64.wrap (since + 1) = since + 1 := IntWalk.i64_in _ (by omega)
  have i8 : IntKind.i64.wrap (cyc + 1) = cyc + 1 := IntWalk.i64_in _ (by omega)
  clear _h
  by_cases e0 : n = 0
  · subst e0
    rw [show (decide ((0 : Int) = 0) && decide (0 < len)) = decide (0 < len) by simp]
    go_enter Try.func81, Try.ntmps81
    go_upto_region 18 with (fail)
    have S6 := Lib.hid (st_next _ _ _ _ _ _ _ _ _ _ _ _ _ _ _ _ _ _ _ _ _ S5.out (.cells #[.int .i64 (len), .int .i64 (wt), .int .i64 (0), .int .i64 (cyc), .bool false] 61))
    clear S5
    generalize World.alloc _ _ = w6 at *
    have HB6 := Lib.hid S6.out.hb
    have hb4 := S6.out.b4
    have hs6 := S6.out.sz
    have x0 := cellOf (o := 0) S6.out.b0 rfl
    have c0 := cellOf (o := 0) S6.out.b2 rfl
    have m0 := cellOf (o := 0) S6.out.b5 rfl
    have x1 := cellOf (o := 1) S6.out.b0 rfl
    have c1 := cellOf (o := 1) S6.out.b2 rfl
    have m1 := cellOf (o := 1) S6.out.b5 rfl
    have x2 := cellOf (o := 2) S6.out.b0 rfl
    have c2 := cellOf (o := 2) S6.out.b2 rfl
    have m2 := cellOf (o := 2) S6.out.b5 rfl
    have x3 := cellOf (o := 3) S6.out.b0 rfl
    have c3 := cellOf (o := 3) S6.out.b2 rfl
    have m3 := cellOf (o := 3) S6.out.b5 rfl
    have x4 := cellOf (o := 4) S6.out.b0 rfl
    have c4 := cellOf (o := 4) S6.out.b2 rfl
    have m4 := cellOf (o := 4) S6.out.b5 rfl
    have p0 := cellOf (o := 0) S6.out.b1 rfl
    have l0 := cellOf (o := 0) S6.out.b3 rfl
    have p1 := cellOf (o := 1) S6.out.b1 rfl
    have l1 := cellOf (o := 1) S6.out.b3 rfl
    clear S6
    obtain ⟨Q1, hQ1⟩ : ∃ q9 : Nat → Value → World → Prop, q9 = QG [some (.agg #[.int .i64 len, .int .i64 wt, .int .i64 0, .int .i64 cyc, .bool false]), some (.pointer (some ⟨w.heap.size + 1 + 1 + 1, 1, none⟩)), some (.int .i64 0), some (.bool true), some (.bool true), some (.pointer (some ⟨w.heap.size + 1 + 1, 0, none⟩)), some (.int .i64 len), some (.bool (decide (0 < len))), some (.bool (decide (0 < len))), none, some (.bool true), some (.bool (decide (0 < len)))] (fun _ _ _ => True) := ⟨_, rfl⟩
    have hSt : Still Q1 := by rw [hQ1]; exact QG.still
    have HQ1 := Lib.hid hQ1
    clear hQ1
    refine wpIn_wide.1 (region_inv2 (n := 9) (by kernel_rfl) (RK Q1 w6 9 (w.heap.size + 1 + 1 + 1 + 1) (.cells #[.int .i64 len, .int .i64 wt, .int .i64 0, .int .i64 cyc, .bool false] 61 (0, 0))) (by kernel_rfl) rfl (RK.start _ _ _ _ _ _) ?hstep1 ?hend1)
    case hstep1 =>
      intro i' o ho val L b' x hF hR hpre hl
      match i', ho with
      | 0, ho =>
        simp at ho; subst ho; refine step_plain rfl ?_; have e13 := hF.was 13 (by kernel_rfl) rfl; have hgoal := hR.go hSt (lt_of_block hb4) HQ1 0 rfl (by decide); have q0 := hR.1.cell m0 (by omega); have q1 := hR.1.cell m1 (by omega); have q2 := hR.1.cell m2 (by omega); have q3 := hR.1.cell m3 (by omega); have q4 := hR.1.cell m4 (by omega); clear hF hpre hl hR; go_simp; exact ⟨_, rfl, hgoal _ _ (Below.refl _ _) rfl⟩
      | 1, ho =>
        simp at ho; subst ho; refine step_plain rfl ?_; have e9 := hF.was 9 (by kernel_rfl) rfl; have hgoal := hR.go hSt (lt_of_block hb4) HQ1 1 rfl (by decide); clear hF hpre hl hR; go_simp; exact ⟨_, rfl, hgoal _ _ (Below.refl _ _) rfl⟩
      | 2, ho =>
        simp at ho; subst ho; refine step_plain rfl ?_; have e82 := hF.gv hR.2.1 HQ1 1 rfl (hpre ⟨1, .data⟩ (by simp) rfl) rfl; have hgoal := hR.go hSt (lt_of_block hb4) HQ1 2 rfl (by decide); have q0 := hR.1.cell l1 (by omega); clear hF hpre hl hR; go_simp; exact ⟨_, rfl, hgoal _ _ (Below.refl _ _) rfl⟩
      | 3, ho =>
        simp at ho; subst ho; refine step_plain rfl ?_; have e83 := hF.gv hR.2.1 HQ1 2 rfl (hpre ⟨2, .data⟩ (by simp) rfl) rfl; have hgoal := hR.go hSt (lt_of_block hb4) HQ1 3 rfl (by decide); clear hF hpre hl hR; go_simp; exact ⟨_, rfl, hgoal _ _ (Below.refl _ _) rfl⟩
      | 4, ho =>
        simp at ho; subst ho; refine step_plain rfl ?_; have e84 := hF.gv hR.2.1 HQ1 3 rfl (hpre ⟨3, .data⟩ (by simp) rfl) rfl; have hgoal := hR.go hSt (lt_of_block hb4) HQ1 4 rfl (by decide); clear hF hpre hl hR; go_simp; exact ⟨_, rfl, hgoal _ _ (Below.refl _ _) rfl⟩
      | 5, ho =>
        simp at ho; subst ho; refine step_gd hF hR.2.1 HQ1 (j := 4) (b := true) rfl rfl (by kernel_rfl) (hpre ⟨4, .guard⟩ (by simp) rfl) rfl ?_; have e7 := hF.was 7 (by kernel_rfl) rfl; have hgoal := hR.go hSt (lt_of_block hb4) HQ1 5 rfl (by decide); clear hF hpre hl hR; go_simp; exact ⟨_, rfl, hgoal _ _ (Below.refl _ _) rfl⟩
      | 6, ho =>
        simp at ho; subst ho; refine step_gd hF hR.2.1 HQ1 (j := 4) (b := true) rfl rfl (by kernel_rfl) (hpre ⟨4, .guard⟩ (by simp) rfl) rfl ?_; have e86 := hF.gv hR.2.1 HQ1 5 rfl (hpre ⟨5, .data⟩ (by simp) rfl) rfl; have hgoal := hR.go hSt (lt_of_block hb4) HQ1 6 rfl (by decide); have q0 := hR.1.cell c0 (by omega); clear hF hpre hl hR; go_simp; exact ⟨_, rfl, hgoal _ _ (Below.refl _ _) rfl⟩
      | 7, ho =>
        simp at ho; subst ho; refine step_gd hF hR.2.1 HQ1 (j := 4) (b := true) rfl rfl (by kernel_rfl) (hpre ⟨4, .guard⟩ (by simp) rfl) rfl ?_; have e87 := hF.gv hR.2.1 HQ1 6 rfl (hpre ⟨6, .data⟩ (by simp) rfl) rfl; have hgoal := hR.go hSt (lt_of_block hb4) HQ1 7 rfl (by decide); clear hF hpre hl hR; go_simp; exact ⟨_, rfl, hgoal _ _ (Below.refl _ _) rfl⟩
      | 8, ho =>
        simp at ho; subst ho; refine step_plain rfl ?_; have e85 := hF.gv hR.2.1 HQ1 4 rfl (hpre ⟨4, .data⟩ (by simp) rfl) rfl; have e88 := hF.gv hR.2.1 HQ1 7 rfl (hpre ⟨7, .data⟩ (by simp) rfl) rfl; have hgoal := hR.go hSt (lt_of_block hb4) HQ1 8 rfl (by decide); clear hF hpre hl hR; go_simp; exact ⟨_, rfl, hgoal _ _ (Below.refl _ _) rfl⟩
      | 9, ho =>
        simp at ho; subst ho; refine step_plain rfl ?_; have e10 := hF.was 10 (by kernel_rfl) rfl; have e81 := hF.gv hR.2.1 HQ1 0 rfl (hpre ⟨0, .data⟩ (by simp) rfl) rfl; have hN := hF.none2 hl (by decide)
        have hls : 9 < L.size := by rw [hF.lsize]; decide
        have qb := (hR.2.2.2 hN).trans hb4
        have g0 := cellOf (o := 0) qb rfl; have f0 := freeOf (o := 0) qb; have g1 := cellOf (o := 1) qb rfl; have f1 := freeOf (o := 1) qb; have g2 := cellOf (o := 2) qb rfl; have f2 := freeOf (o := 2) qb; have g3 := cellOf (o := 3) qb rfl; have f3 := freeOf (o := 3) qb; have g4 := cellOf (o := 4) qb rfl; have f4 := freeOf (o := 4) qb; have hgoal := RK.store (v := undef) hR hSt hls ((((((Kept.refl (w.heap.size + 1 + 1 + 1 + 1) x).setCell 0 (.int .i64 len)).setCell 1 (.int .i64 wt)).setCell 2 (.int .i64 0)).setCell 3 (.int .i64 cyc)).setCell 4 (.bool false)) ((block_setCell (o := 4) (.bool false) (block_setCell (o := 3) (.int .i64 cyc) (block_setCell (o := 2) (.int .i64 0) (block_setCell (o := 1) (.int .i64 wt) (block_setCell (o := 0) (.int .i64 len) qb))))).trans (by rfl)) (QG.none HQ1 9 rfl (fun _ _ => trivial) _ _)
        have hq := lt_of_block qb
        have HG := Lib.hid hgoal
        clear hF hpre hl hR hls hN qb hgoal; go_simp
        exact ⟨undef, HG.out⟩
      | 10, ho =>
        simp at ho; subst ho; refine step_plain rfl ?_; have hgoal := hR.go hSt (lt_of_block hb4) HQ1 10 rfl (by decide); clear hF hpre hl hR; go_simp; exact ⟨_, rfl, hgoal _ _ (Below.refl _ _) rfl⟩
      | 11, ho =>
        simp at ho; subst ho; refine step_plain rfl ?_; have e89 := hF.gv hR.2.1 HQ1 8 rfl (hpre ⟨8, .data⟩ (by simp) rfl) rfl; have hgoal := hR.go hSt (lt_of_block hb4) HQ1 11 rfl (by decide); clear hF hpre hl hR; go_simp; exact ⟨_, rfl, hgoal _ _ (Below.refl _ _) rfl⟩
      | i + 12, ho => simp at ho
    case hend1 =>
      intro val L b' x hF hall hR
      have e := hF.all (by kernel_rfl) hall
      have k110 := QG.val HQ1 rfl (hR.2.1 10 (hall 10 (by decide)))
      have k111 := QG.val HQ1 rfl (hR.2.1 11 (hall 11 (by decide)))
      have bk1 := hR.2.2.1 (hall 9 (by decide))
      have hK1 := Lib.hid hR.1
      clear hF hall hR hSt HQ1
      subst e
      simp [final, dstOf, List.range, List.range.loop]
      rw [k110]
      rw [k111]
      have HQ := Lib.hid (HB6.out.trans (hK1.out.low (by omega)))
      go_wp2
      have d0 := cellOf (o := 0) bk1 rfl
      have d1 := cellOf (o := 1) bk1 rfl
      have d2 := cellOf (o := 2) bk1 rfl
      have d3 := cellOf (o := 3) bk1 rfl
      have d4 := cellOf (o := 4) bk1 rfl
      exact bodyPost_ret (v := .tuple #[.agg #[.int .i64 (len), .int .i64 (wt), .int .i64 (0), .int .i64 (cyc), .bool false], .bool true, .bool (decide (0 < len))]) (by simp [results, Try.results81, go_sem, d0, d1, d2, d3, d4]) rfl ⟨rfl, HQ.out⟩
  · have e1 : (n == 0) = false := by simpa using e0
    rw [show (decide (n = 0) && decide (0 < len)) = false by simp [e0]]
    clear e0
    go_enter Try.func81, Try.ntmps81
    go_upto_region 18 with (fail)
    have S6 := Lib.hid (st_next _ _ _ _ _ _ _ _ _ _ _ _ _ _ _ _ _ _ _ _ _ S5.out (.cells #[.int .i64 (len), .int .i64 (wt), .int .i64 (0), .int .i64 (cyc), .bool false] 61))
    clear S5
    generalize World.alloc _ _ = w6 at *
    have HB6 := Lib.hid S6.out.hb
    have hb4 := S6.out.b4
    have hs6 := S6.out.sz
    have x0 := cellOf (o := 0) S6.out.b0 rfl
    have c0 := cellOf (o := 0) S6.out.b2 rfl
    have m0 := cellOf (o := 0) S6.out.b5 rfl
    have x1 := cellOf (o := 1) S6.out.b0 rfl
    have c1 := cellOf (o := 1) S6.out.b2 rfl
    have m1 := cellOf (o := 1) S6.out.b5 rfl
    have x2 := cellOf (o := 2) S6.out.b0 rfl
    have c2 := cellOf (o := 2) S6.out.b2 rfl
    have m2 := cellOf (o := 2) S6.out.b5 rfl
    have x3 := cellOf (o := 3) S6.out.b0 rfl
    have c3 := cellOf (o := 3) S6.out.b2 rfl
    have m3 := cellOf (o := 3) S6.out.b5 rfl
    have x4 := cellOf (o := 4) S6.out.b0 rfl
    have c4 := cellOf (o := 4) S6.out.b2 rfl
    have m4 := cellOf (o := 4) S6.out.b5 rfl
    have p0 := cellOf (o := 0) S6.out.b1 rfl
    have l0 := cellOf (o := 0) S6.out.b3 rfl
    have p1 := cellOf (o := 1) S6.out.b1 rfl
    have l1 := cellOf (o := 1) S6.out.b3 rfl
    clear S6
    obtain ⟨Q2, hQ2⟩ : ∃ q9 : Nat → Value → World → Prop, q9 = QG [some (.agg #[.int .i64 len, .int .i64 wt, .int .i64 0, .int .i64 cyc, .bool false]), some (.pointer (some ⟨w.heap.size + 1 + 1 + 1, 1, none⟩)), some (.int .i64 n), some (.bool false), some (.bool false), some (undef), some (undef), some (undef), some (.bool false), none, some (.bool true), some (.bool false)] (fun _ _ _ => True) := ⟨_, rfl⟩
    have hSt : Still Q2 := by rw [hQ2]; exact QG.still
    have HQ2 := Lib.hid hQ2
    clear hQ2
    refine wpIn_wide.1 (region_inv2 (n := 9) (by kernel_rfl) (RK Q2 w6 9 (w.heap.size + 1 + 1 + 1 + 1) (.cells #[.int .i64 len, .int .i64 wt, .int .i64 0, .int .i64 cyc, .bool false] 61 (0, 0))) (by kernel_rfl) rfl (RK.start _ _ _ _ _ _) ?hstep2 ?hend2)
    case hstep2 =>
      intro i' o ho val L b' x hF hR hpre hl
      match i', ho with
      | 0, ho =>
        simp at ho; subst ho; refine step_plain rfl ?_; have e13 := hF.was 13 (by kernel_rfl) rfl; have hgoal := hR.go hSt (lt_of_block hb4) HQ2 0 rfl (by decide); have q0 := hR.1.cell m0 (by omega); have q1 := hR.1.cell m1 (by omega); have q2 := hR.1.cell m2 (by omega); have q3 := hR.1.cell m3 (by omega); have q4 := hR.1.cell m4 (by omega); clear hF hpre hl hR; go_simp; exact ⟨_, rfl, hgoal _ _ (Below.refl _ _) rfl⟩
      | 1, ho =>
        simp at ho; subst ho; refine step_plain rfl ?_; have e9 := hF.was 9 (by kernel_rfl) rfl; have hgoal := hR.go hSt (lt_of_block hb4) HQ2 1 rfl (by decide); clear hF hpre hl hR; go_simp; exact ⟨_, rfl, hgoal _ _ (Below.refl _ _) rfl⟩
      | 2, ho =>
        simp at ho; subst ho; refine step_plain rfl ?_; have e82 := hF.gv hR.2.1 HQ2 1 rfl (hpre ⟨1, .data⟩ (by simp) rfl) rfl; have hgoal := hR.go hSt (lt_of_block hb4) HQ2 2 rfl (by decide); have q0 := hR.1.cell l1 (by omega); clear hF hpre hl hR; go_simp; exact ⟨_, rfl, hgoal _ _ (Below.refl _ _) rfl⟩
      | 3, ho =>
        simp at ho; subst ho; refine step_plain rfl ?_; have e83 := hF.gv hR.2.1 HQ2 2 rfl (hpre ⟨2, .data⟩ (by simp) rfl) rfl; have hgoal := hR.go hSt (lt_of_block hb4) HQ2 3 rfl (by decide); clear hF hpre hl hR; go_simp; exact ⟨_, rfl, hgoal _ _ (Below.refl _ _) rfl⟩
      | 4, ho =>
        simp at ho; subst ho; refine step_plain rfl ?_; have e84 := hF.gv hR.2.1 HQ2 3 rfl (hpre ⟨3, .data⟩ (by simp) rfl) rfl; have hgoal := hR.go hSt (lt_of_block hb4) HQ2 4 rfl (by decide); clear hF hpre hl hR; go_simp; exact ⟨_, rfl, hgoal _ _ (Below.refl _ _) rfl⟩
      | 5, ho =>
        simp at ho; subst ho; refine step_sk hF hR.2.1 HQ2 (j := 4) (b := true) rfl rfl (by kernel_rfl) (hpre ⟨4, .guard⟩ (by simp) rfl) rfl (by simp) ?_
        exact ⟨fun _ _ => trivial, hR.go hSt (lt_of_block hb4) HQ2 5 rfl (by decide) _ _ (Below.refl _ _) rfl⟩
      | 6, ho =>
        simp at ho; subst ho; refine step_sk hF hR.2.1 HQ2 (j := 4) (b := true) rfl rfl (by kernel_rfl) (hpre ⟨4, .guard⟩ (by simp) rfl) rfl (by simp) ?_
        exact ⟨fun _ _ => trivial, hR.go hSt (lt_of_block hb4) HQ2 6 rfl (by decide) _ _ (Below.refl _ _) rfl⟩
      | 7, ho =>
        simp at ho; subst ho; refine step_sk hF hR.2.1 HQ2 (j := 4) (b := true) rfl rfl (by kernel_rfl) (hpre ⟨4, .guard⟩ (by simp) rfl) rfl (by simp) ?_
        exact ⟨fun _ _ => trivial, hR.go hSt (lt_of_block hb4) HQ2 7 rfl (by decide) _ _ (Below.refl _ _) rfl⟩
      | 8, ho =>
        simp at ho; subst ho; refine step_plain rfl ?_; have e85 := hF.gv hR.2.1 HQ2 4 rfl (hpre ⟨4, .data⟩ (by simp) rfl) rfl; have e88 := hF.gv hR.2.1 HQ2 7 rfl (hpre ⟨7, .data⟩ (by simp) rfl) rfl; have hgoal := hR.go hSt (lt_of_block hb4) HQ2 8 rfl (by decide); clear hF hpre hl hR; go_simp; exact ⟨_, rfl, hgoal _ _ (Below.refl _ _) rfl⟩
      | 9, ho =>
        simp at ho; subst ho; refine step_plain rfl ?_; have e10 := hF.was 10 (by kernel_rfl) rfl; have e81 := hF.gv hR.2.1 HQ2 0 rfl (hpre ⟨0, .data⟩ (by simp) rfl) rfl; have hN := hF.none2 hl (by decide)
        have hls : 9 < L.size := by rw [hF.lsize]; decide
        have qb := (hR.2.2.2 hN).trans hb4
        have g0 := cellOf (o := 0) qb rfl; have f0 := freeOf (o := 0) qb; have g1 := cellOf (o := 1) qb rfl; have f1 := freeOf (o := 1) qb; have g2 := cellOf (o := 2) qb rfl; have f2 := freeOf (o := 2) qb; have g3 := cellOf (o := 3) qb rfl; have f3 := freeOf (o := 3) qb; have g4 := cellOf (o := 4) qb rfl; have f4 := freeOf (o := 4) qb; have hgoal := RK.store (v := undef) hR hSt hls ((((((Kept.refl (w.heap.size + 1 + 1 + 1 + 1) x).setCell 0 (.int .i64 len)).setCell 1 (.int .i64 wt)).setCell 2 (.int .i64 0)).setCell 3 (.int .i64 cyc)).setCell 4 (.bool false)) ((block_setCell (o := 4) (.bool false) (block_setCell (o := 3) (.int .i64 cyc) (block_setCell (o := 2) (.int .i64 0) (block_setCell (o := 1) (.int .i64 wt) (block_setCell (o := 0) (.int .i64 len) qb))))).trans (by rfl)) (QG.none HQ2 9 rfl (fun _ _ => trivial) _ _)
        have hq := lt_of_block qb
        have HG := Lib.hid hgoal
        clear hF hpre hl hR hls hN qb hgoal; go_simp
        exact ⟨undef, HG.out⟩
      | 10, ho =>
        simp at ho; subst ho; refine step_plain rfl ?_; have hgoal := hR.go hSt (lt_of_block hb4) HQ2 10 rfl (by decide); clear hF hpre hl hR; go_simp; exact ⟨_, rfl, hgoal _ _ (Below.refl _ _) rfl⟩
      | 11, ho =>
        simp at ho; subst ho; refine step_plain rfl ?_; have e89 := hF.gv hR.2.1 HQ2 8 rfl (hpre ⟨8, .data⟩ (by simp) rfl) rfl; have hgoal := hR.go hSt (lt_of_block hb4) HQ2 11 rfl (by decide); clear hF hpre hl hR; go_simp; exact ⟨_, rfl, hgoal _ _ (Below.refl _ _) rfl⟩
      | i + 12, ho => simp at ho
    case hend2 =>
      intro val L b' x hF hall hR
      have e := hF.all (by kernel_rfl) hall
      have k210 := QG.val HQ2 rfl (hR.2.1 10 (hall 10 (by decide)))
      have k211 := QG.val HQ2 rfl (hR.2.1 11 (hall 11 (by decide)))
      have bk2 := hR.2.2.1 (hall 9 (by decide))
      have hK2 := Lib.hid hR.1
      clear hF hall hR hSt HQ2
      subst e
      simp [final, dstOf, List.range, List.range.loop]
      rw [k210]
      rw [k211]
      have HQ := Lib.hid (HB6.out.trans (hK2.out.low (by omega)))
      go_wp2
      have d0 := cellOf (o := 0) bk2 rfl
      have d1 := cellOf (o := 1) bk2 rfl
      have d2 := cellOf (o := 2) bk2 rfl
      have d3 := cellOf (o := 3) bk2 rfl
      have d4 := cellOf (o := 4) bk2 rfl
      exact bodyPost_ret (v := .tuple #[.agg #[.int .i64 (len), .int .i64 (wt), .int .i64 (0), .int .i64 (cyc), .bool false], .bool true, .bool (false)]) (by simp [results, Try.results81, go_sem, d0, d1, d2, d3, d4]) rfl ⟨rfl, HQ.out⟩

set_option maxRecDepth 100000 in
set_option maxHeartbeats 4000000 in
theorem step5 (_h : HT w B AX AY AV nx ny nv X Y V) (_z0 : 0 ≤ len) (_z1 : len ≤ cable) (_z2 : cable ≤ 100) (_w0 : 0 ≤ wt) (s0 : 0 ≤ since) (s1 : since ≤ 1000) (q0 : 0 ≤ cyc) (q1 : cyc ≤ 1000) :
    Calls Try.prog 81 #[.agg #[.int .i64 cable, .slice AX nx cx, .slice AY ny cy, .slice AV nv cv, .int .i64 charge], .agg #[.int .i64 y1, .int .i64 y2], .agg #[.int .i64 len, .int .i64 wt, .int .i64 since, .int .i64 cyc, .bool false], .bool tch, .agg #[.int .i64 5, .int .i64 n]] w (GivesT w (decide (n = 0) && decide (0 < wt)) (⟨len, 0, since + 1, cyc + 1, false, tch⟩)) := by
  have S5 := Lib.hid (st_new cable charge y1 y2 len wt since cyc false 5 n AX AY AV nx cx ny cy nv cv w)
  have i7 : IntKind.i64.wrap (since + 1) = since + 1 := IntWalk.i64_in _ (by omega)
  have i8 : IntKind.i64.wrap (cyc + 1) = cyc + 1 := IntWalk.i64_in _ (by omega)
  clear _h
  by_cases e0 : n = 0
  · subst e0
    rw [show (decide ((0 : Int) = 0) && decide (0 < wt)) = decide (0 < wt) by simp]
    go_enter Try.func81, Try.ntmps81
    go_upto_region 25 with (fail)
    have S6 := Lib.hid (st_next _ _ _ _ _ _ _ _ _ _ _ _ _ _ _ _ _ _ _ _ _ S5.out (.cells #[.int .i64 (len), .int .i64 (0), .int .i64 (since + 1), .int .i64 (cyc + 1), .bool false] 61))
    clear S5
    generalize World.alloc _ _ = w6 at *
    have HB6 := Lib.hid S6.out.hb
    have hb4 := S6.out.b4
    have hs6 := S6.out.sz
    have x0 := cellOf (o := 0) S6.out.b0 rfl
    have c0 := cellOf (o := 0) S6.out.b2 rfl
    have m0 := cellOf (o := 0) S6.out.b5 rfl
    have x1 := cellOf (o := 1) S6.out.b0 rfl
    have c1 := cellOf (o := 1) S6.out.b2 rfl
    have m1 := cellOf (o := 1) S6.out.b5 rfl
    have x2 := cellOf (o := 2) S6.out.b0 rfl
    have c2 := cellOf (o := 2) S6.out.b2 rfl
    have m2 := cellOf (o := 2) S6.out.b5 rfl
    have x3 := cellOf (o := 3) S6.out.b0 rfl
    have c3 := cellOf (o := 3) S6.out.b2 rfl
    have m3 := cellOf (o := 3) S6.out.b5 rfl
    have x4 := cellOf (o := 4) S6.out.b0 rfl
    have c4 := cellOf (o := 4) S6.out.b2 rfl
    have m4 := cellOf (o := 4) S6.out.b5 rfl
    have p0 := cellOf (o := 0) S6.out.b1 rfl
    have l0 := cellOf (o := 0) S6.out.b3 rfl
    have p1 := cellOf (o := 1) S6.out.b1 rfl
    have l1 := cellOf (o := 1) S6.out.b3 rfl
    clear S6
    obtain ⟨Q3, hQ3⟩ : ∃ q9 : Nat → Value → World → Prop, q9 = QG [some (.agg #[.int .i64 len, .int .i64 0, .int .i64 (since + 1), .int .i64 (cyc + 1), .bool false]), some (.bool tch), some (.pointer (some ⟨w.heap.size + 1 + 1 + 1, 1, none⟩)), some (.int .i64 0), some (.bool true), some (.bool true), some (.pointer (some ⟨w.heap.size + 1 + 1, 1, none⟩)), some (.int .i64 wt), some (.bool (decide (0 < wt))), some (.bool (decide (0 < wt))), none, some (.bool tch), some (.bool (decide (0 < wt)))] (fun _ _ _ => True) := ⟨_, rfl⟩
    have hSt : Still Q3 := by rw [hQ3]; exact QG.still
    have HQ3 := Lib.hid hQ3
    clear hQ3
    refine wpIn_wide.1 (region_inv2 (n := 9) (by kernel_rfl) (RK Q3 w6 10 (w.heap.size + 1 + 1 + 1 + 1) (.cells #[.int .i64 len, .int .i64 0, .int .i64 (since + 1), .int .i64 (cyc + 1), .bool false] 61 (0, 0))) (by kernel_rfl) rfl (RK.start _ _ _ _ _ _) ?hstep3 ?hend3)
    case hstep3 =>
      intro i' o ho val L b' x hF hR hpre hl
      match i', ho with
      | 0, ho =>
        simp at ho; subst ho; refine step_plain rfl ?_; have e13 := hF.was 13 (by kernel_rfl) rfl; have hgoal := hR.go hSt (lt_of_block hb4) HQ3 0 rfl (by decide); have q0 := hR.1.cell m0 (by omega); have q1 := hR.1.cell m1 (by omega); have q2 := hR.1.cell m2 (by omega); have q3 := hR.1.cell m3 (by omega); have q4 := hR.1.cell m4 (by omega); clear hF hpre hl hR; go_simp; exact ⟨_, rfl, hgoal _ _ (Below.refl _ _) rfl⟩
      | 1, ho =>
        simp at ho; subst ho; refine step_plain rfl ?_; have e3 := hF.was 3 (by kernel_rfl) rfl; have hgoal := hR.go hSt (lt_of_block hb4) HQ3 1 rfl (by decide); clear hF hpre hl hR; go_simp; exact ⟨_, rfl, hgoal _ _ (Below.refl _ _) rfl⟩
      | 2, ho =>
        simp at ho; subst ho; refine step_plain rfl ?_; have e9 := hF.was 9 (by kernel_rfl) rfl; have hgoal := hR.go hSt (lt_of_block hb4) HQ3 2 rfl (by decide); clear hF hpre hl hR; go_simp; exact ⟨_, rfl, hgoal _ _ (Below.refl _ _) rfl⟩
      | 3, ho =>
        simp at ho; subst ho; refine step_plain rfl ?_; have e138 := hF.gv hR.2.1 HQ3 2 rfl (hpre ⟨2, .data⟩ (by simp) rfl) rfl; have hgoal := hR.go hSt (lt_of_block hb4) HQ3 3 rfl (by decide); have q0 := hR.1.cell l1 (by omega); clear hF hpre hl hR; go_simp; exact ⟨_, rfl, hgoal _ _ (Below.refl _ _) rfl⟩
      | 4, ho =>
        simp at ho; subst ho; refine step_plain rfl ?_; have e139 := hF.gv hR.2.1 HQ3 3 rfl (hpre ⟨3, .data⟩ (by simp) rfl) rfl; have hgoal := hR.go hSt (lt_of_block hb4) HQ3 4 rfl (by decide); clear hF hpre hl hR; go_simp; exact ⟨_, rfl, hgoal _ _ (Below.refl _ _) rfl⟩
      | 5, ho =>
        simp at ho; subst ho; refine step_plain rfl ?_; have e140 := hF.gv hR.2.1 HQ3 4 rfl (hpre ⟨4, .data⟩ (by simp) rfl) rfl; have hgoal := hR.go hSt (lt_of_block hb4) HQ3 5 rfl (by decide); clear hF hpre hl hR; go_simp; exact ⟨_, rfl, hgoal _ _ (Below.refl _ _) rfl⟩
      | 6, ho =>
        simp at ho; subst ho; refine step_gd hF hR.2.1 HQ3 (j := 5) (b := true) rfl rfl (by kernel_rfl) (hpre ⟨5, .guard⟩ (by simp) rfl) rfl ?_; have e7 := hF.was 7 (by kernel_rfl) rfl; have hgoal := hR.go hSt (lt_of_block hb4) HQ3 6 rfl (by decide); clear hF hpre hl hR; go_simp; exact ⟨_, rfl, hgoal _ _ (Below.refl _ _) rfl⟩
      | 7, ho =>
        simp at ho; subst ho; refine step_gd hF hR.2.1 HQ3 (j := 5) (b := true) rfl rfl (by kernel_rfl) (hpre ⟨5, .guard⟩ (by simp) rfl) rfl ?_; have e142 := hF.gv hR.2.1 HQ3 6 rfl (hpre ⟨6, .data⟩ (by simp) rfl) rfl; have hgoal := hR.go hSt (lt_of_block hb4) HQ3 7 rfl (by decide); have q0 := hR.1.cell c1 (by omega); clear hF hpre hl hR; go_simp; exact ⟨_, rfl, hgoal _ _ (Below.refl _ _) rfl⟩
      | 8, ho =>
        simp at ho; subst ho; refine step_gd hF hR.2.1 HQ3 (j := 5) (b := true) rfl rfl (by kernel_rfl) (hpre ⟨5, .guard⟩ (by simp) rfl) rfl ?_; have e143 := hF.gv hR.2.1 HQ3 7 rfl (hpre ⟨7, .data⟩ (by simp) rfl) rfl; have hgoal := hR.go hSt (lt_of_block hb4) HQ3 8 rfl (by decide); clear hF hpre hl hR; go_simp; exact ⟨_, rfl, hgoal _ _ (Below.refl _ _) rfl⟩
      | 9, ho =>
        simp at ho; subst ho; refine step_plain rfl ?_; have e141 := hF.gv hR.2.1 HQ3 5 rfl (hpre ⟨5, .data⟩ (by simp) rfl) rfl; have e144 := hF.gv hR.2.1 HQ3 8 rfl (hpre ⟨8, .data⟩ (by simp) rfl) rfl; have hgoal := hR.go hSt (lt_of_block hb4) HQ3 9 rfl (by decide); clear hF hpre hl hR; go_simp; exact ⟨_, rfl, hgoal _ _ (Below.refl _ _) rfl⟩
      | 10, ho =>
        simp at ho; subst ho; refine step_plain rfl ?_; have e10 := hF.was 10 (by kernel_rfl) rfl; have e136 := hF.gv hR.2.1 HQ3 0 rfl (hpre ⟨0, .data⟩ (by simp) rfl) rfl; have hN := hF.none2 hl (by decide)
        have hls : 10 < L.size := by rw [hF.lsize]; decide
        have qb := (hR.2.2.2 hN).trans hb4
        have g0 := cellOf (o := 0) qb rfl; have f0 := freeOf (o := 0) qb; have g1 := cellOf (o := 1) qb rfl; have f1 := freeOf (o := 1) qb; have g2 := cellOf (o := 2) qb rfl; have f2 := freeOf (o := 2) qb; have g3 := cellOf (o := 3) qb rfl; have f3 := freeOf (o := 3) qb; have g4 := cellOf (o := 4) qb rfl; have f4 := freeOf (o := 4) qb; have hgoal := RK.store (v := undef) hR hSt hls ((((((Kept.refl (w.heap.size + 1 + 1 + 1 + 1) x).setCell 0 (.int .i64 len)).setCell 1 (.int .i64 0)).setCell 2 (.int .i64 (since + 1))).setCell 3 (.int .i64 (cyc + 1))).setCell 4 (.bool false)) ((block_setCell (o := 4) (.bool false) (block_setCell (o := 3) (.int .i64 (cyc + 1)) (block_setCell (o := 2) (.int .i64 (since + 1)) (block_setCell (o := 1) (.int .i64 0) (block_setCell (o := 0) (.int .i64 len) qb))))).trans (by rfl)) (QG.none HQ3 10 rfl (fun _ _ => trivial) _ _)
        have hq := lt_of_block qb
        have HG := Lib.hid hgoal
        clear hF hpre hl hR hls hN qb hgoal; go_simp
        exact ⟨undef, HG.out⟩
      | 11, ho =>
        simp at ho; subst ho; refine step_plain rfl ?_; have e137 := hF.gv hR.2.1 HQ3 1 rfl (hpre ⟨1, .data⟩ (by simp) rfl) rfl; have hgoal := hR.go hSt (lt_of_block hb4) HQ3 11 rfl (by decide); clear hF hpre hl hR; go_simp; exact ⟨_, rfl, hgoal _ _ (Below.refl _ _) rfl⟩
      | 12, ho =>
        simp at ho; subst ho; refine step_plain rfl ?_; have e145 := hF.gv hR.2.1 HQ3 9 rfl (hpre ⟨9, .data⟩ (by simp) rfl) rfl; have hgoal := hR.go hSt (lt_of_block hb4) HQ3 12 rfl (by decide); clear hF hpre hl hR; go_simp; exact ⟨_, rfl, hgoal _ _ (Below.refl _ _) rfl⟩
      | i + 13, ho => simp at ho
    case hend3 =>
      intro val L b' x hF hall hR
      have e := hF.all (by kernel_rfl) hall
      have k311 := QG.val HQ3 rfl (hR.2.1 11 (hall 11 (by decide)))
      have k312 := QG.val HQ3 rfl (hR.2.1 12 (hall 12 (by decide)))
      have bk3 := hR.2.2.1 (hall 10 (by decide))
      have hK3 := Lib.hid hR.1
      clear hF hall hR hSt HQ3
      subst e
      simp [final, dstOf, List.range, List.range.loop]
      rw [k311]
      rw [k312]
      have HQ := Lib.hid (HB6.out.trans (hK3.out.low (by omega)))
      go_wp2
      have d0 := cellOf (o := 0) bk3 rfl
      have d1 := cellOf (o := 1) bk3 rfl
      have d2 := cellOf (o := 2) bk3 rfl
      have d3 := cellOf (o := 3) bk3 rfl
      have d4 := cellOf (o := 4) bk3 rfl
      exact bodyPost_ret (v := .tuple #[.agg #[.int .i64 (len), .int .i64 (0), .int .i64 (since + 1), .int .i64 (cyc + 1), .bool false], .bool tch, .bool (decide (0 < wt))]) (by simp [results, Try.results81, go_sem, d0, d1, d2, d3, d4]) rfl ⟨rfl, HQ.out⟩
  · have e1 : (n == 0) = false := by simpa using e0
    rw [show (decide (n = 0) && decide (0 < wt)) = false by simp [e0]]
    clear e0
    go_enter Try.func81, Try.ntmps81
    go_upto_region 25 with (fail)
    have S6 := Lib.hid (st_next _ _ _ _ _ _ _ _ _ _ _ _ _ _ _ _ _ _ _ _ _ S5.out (.cells #[.int .i64 (len), .int .i64 (0), .int .i64 (since + 1), .int .i64 (cyc + 1), .bool false] 61))
    clear S5
    generalize World.alloc _ _ = w6 at *
    have HB6 := Lib.hid S6.out.hb
    have hb4 := S6.out.b4
    have hs6 := S6.out.sz
    have x0 := cellOf (o := 0) S6.out.b0 rfl
    have c0 := cellOf (o := 0) S6.out.b2 rfl
    have m0 := cellOf (o := 0) S6.out.b5 rfl
    have x1 := cellOf (o := 1) S6.out.b0 rfl
    have c1 := cellOf (o := 1) S6.out.b2 rfl
    have m1 := cellOf (o := 1) S6.out.b5 rfl
    have x2 := cellOf (o := 2) S6.out.b0 rfl
    have c2 := cellOf (o := 2) S6.out.b2 rfl
    have m2 := cellOf (o := 2) S6.out.b5 rfl
    have x3 := cellOf (o := 3) S6.out.b0 rfl
    have c3 := cellOf (o := 3) S6.out.b2 rfl
    have m3 := cellOf (o := 3) S6.out.b5 rfl
    have x4 := cellOf (o := 4) S6.out.b0 rfl
    have c4 := cellOf (o := 4) S6.out.b2 rfl
    have m4 := cellOf (o := 4) S6.out.b5 rfl
    have p0 := cellOf (o := 0) S6.out.b1 rfl
    have l0 := cellOf (o := 0) S6.out.b3 rfl
    have p1 := cellOf (o := 1) S6.out.b1 rfl
    have l1 := cellOf (o := 1) S6.out.b3 rfl
    clear S6
    obtain ⟨Q4, hQ4⟩ : ∃ q9 : Nat → Value → World → Prop, q9 = QG [some (.agg #[.int .i64 len, .int .i64 0, .int .i64 (since + 1), .int .i64 (cyc + 1), .bool false]), some (.bool tch), some (.pointer (some ⟨w.heap.size + 1 + 1 + 1, 1, none⟩)), some (.int .i64 n), some (.bool false), some (.bool false), some (undef), some (undef), some (undef), some (.bool false), none, some (.bool tch), some (.bool false)] (fun _ _ _ => True) := ⟨_, rfl⟩
    have hSt : Still Q4 := by rw [hQ4]; exact QG.still
    have HQ4 := Lib.hid hQ4
    clear hQ4
    refine wpIn_wide.1 (region_inv2 (n := 9) (by kernel_rfl) (RK Q4 w6 10 (w.heap.size + 1 + 1 + 1 + 1) (.cells #[.int .i64 len, .int .i64 0, .int .i64 (since + 1), .int .i64 (cyc + 1), .bool false] 61 (0, 0))) (by kernel_rfl) rfl (RK.start _ _ _ _ _ _) ?hstep4 ?hend4)
    case hstep4 =>
      intro i' o ho val L b' x hF hR hpre hl
      match i', ho with
      | 0, ho =>
        simp at ho; subst ho; refine step_plain rfl ?_; have e13 := hF.was 13 (by kernel_rfl) rfl; have hgoal := hR.go hSt (lt_of_block hb4) HQ4 0 rfl (by decide); have q0 := hR.1.cell m0 (by omega); have q1 := hR.1.cell m1 (by omega); have q2 := hR.1.cell m2 (by omega); have q3 := hR.1.cell m3 (by omega); have q4 := hR.1.cell m4 (by omega); clear hF hpre hl hR; go_simp; exact ⟨_, rfl, hgoal _ _ (Below.refl _ _) rfl⟩
      | 1, ho =>
        simp at ho; subst ho; refine step_plain rfl ?_; have e3 := hF.was 3 (by kernel_rfl) rfl; have hgoal := hR.go hSt (lt_of_block hb4) HQ4 1 rfl (by decide); clear hF hpre hl hR; go_simp; exact ⟨_, rfl, hgoal _ _ (Below.refl _ _) rfl⟩
      | 2, ho =>
        simp at ho; subst ho; refine step_plain rfl ?_; have e9 := hF.was 9 (by kernel_rfl) rfl; have hgoal := hR.go hSt (lt_of_block hb4) HQ4 2 rfl (by decide); clear hF hpre hl hR; go_simp; exact ⟨_, rfl, hgoal _ _ (Below.refl _ _) rfl⟩
      | 3, ho =>
        simp at ho; subst ho; refine step_plain rfl ?_; have e138 := hF.gv hR.2.1 HQ4 2 rfl (hpre ⟨2, .data⟩ (by simp) rfl) rfl; have hgoal := hR.go hSt (lt_of_block hb4) HQ4 3 rfl (by decide); have q0 := hR.1.cell l1 (by omega); clear hF hpre hl hR; go_simp; exact ⟨_, rfl, hgoal _ _ (Below.refl _ _) rfl⟩
      | 4, ho =>
        simp at ho; subst ho; refine step_plain rfl ?_; have e139 := hF.gv hR.2.1 HQ4 3 rfl (hpre ⟨3, .data⟩ (by simp) rfl) rfl; have hgoal := hR.go hSt (lt_of_block hb4) HQ4 4 rfl (by decide); clear hF hpre hl hR; go_simp; exact ⟨_, rfl, hgoal _ _ (Below.refl _ _) rfl⟩
      | 5, ho =>
        simp at ho; subst ho; refine step_plain rfl ?_; have e140 := hF.gv hR.2.1 HQ4 4 rfl (hpre ⟨4, .data⟩ (by simp) rfl) rfl; have hgoal := hR.go hSt (lt_of_block hb4) HQ4 5 rfl (by decide); clear hF hpre hl hR; go_simp; exact ⟨_, rfl, hgoal _ _ (Below.refl _ _) rfl⟩
      | 6, ho =>
        simp at ho; subst ho; refine step_sk hF hR.2.1 HQ4 (j := 5) (b := true) rfl rfl (by kernel_rfl) (hpre ⟨5, .guard⟩ (by simp) rfl) rfl (by simp) ?_
        exact ⟨fun _ _ => trivial, hR.go hSt (lt_of_block hb4) HQ4 6 rfl (by decide) _ _ (Below.refl _ _) rfl⟩
      | 7, ho =>
        simp at ho; subst ho; refine step_sk hF hR.2.1 HQ4 (j := 5) (b := true) rfl rfl (by kernel_rfl) (hpre ⟨5, .guard⟩ (by simp) rfl) rfl (by simp) ?_
        exact ⟨fun _ _ => trivial, hR.go hSt (lt_of_block hb4) HQ4 7 rfl (by decide) _ _ (Below.refl _ _) rfl⟩
      | 8, ho =>
        simp at ho; subst ho; refine step_sk hF hR.2.1 HQ4 (j := 5) (b := true) rfl rfl (by kernel_rfl) (hpre ⟨5, .guard⟩ (by simp) rfl) rfl (by simp) ?_
        exact ⟨fun _ _ => trivial, hR.go hSt (lt_of_block hb4) HQ4 8 rfl (by decide) _ _ (Below.refl _ _) rfl⟩
      | 9, ho =>
        simp at ho; subst ho; refine step_plain rfl ?_; have e141 := hF.gv hR.2.1 HQ4 5 rfl (hpre ⟨5, .data⟩ (by simp) rfl) rfl; have e144 := hF.gv hR.2.1 HQ4 8 rfl (hpre ⟨8, .data⟩ (by simp) rfl) rfl; have hgoal := hR.go hSt (lt_of_block hb4) HQ4 9 rfl (by decide); clear hF hpre hl hR; go_simp; exact ⟨_, rfl, hgoal _ _ (Below.refl _ _) rfl⟩
      | 10, ho =>
        simp at ho; subst ho; refine step_plain rfl ?_; have e10 := hF.was 10 (by kernel_rfl) rfl; have e136 := hF.gv hR.2.1 HQ4 0 rfl (hpre ⟨0, .data⟩ (by simp) rfl) rfl; have hN := hF.none2 hl (by decide)
        have hls : 10 < L.size := by rw [hF.lsize]; decide
        have qb := (hR.2.2.2 hN).trans hb4
        have g0 := cellOf (o := 0) qb rfl; have f0 := freeOf (o := 0) qb; have g1 := cellOf (o := 1) qb rfl; have f1 := freeOf (o := 1) qb; have g2 := cellOf (o := 2) qb rfl; have f2 := freeOf (o := 2) qb; have g3 := cellOf (o := 3) qb rfl; have f3 := freeOf (o := 3) qb; have g4 := cellOf (o := 4) qb rfl; have f4 := freeOf (o := 4) qb; have hgoal := RK.store (v := undef) hR hSt hls ((((((Kept.refl (w.heap.size + 1 + 1 + 1 + 1) x).setCell 0 (.int .i64 len)).setCell 1 (.int .i64 0)).setCell 2 (.int .i64 (since + 1))).setCell 3 (.int .i64 (cyc + 1))).setCell 4 (.bool false)) ((block_setCell (o := 4) (.bool false) (block_setCell (o := 3) (.int .i64 (cyc + 1)) (block_setCell (o := 2) (.int .i64 (since + 1)) (block_setCell (o := 1) (.int .i64 0) (block_setCell (o := 0) (.int .i64 len) qb))))).trans (by rfl)) (QG.none HQ4 10 rfl (fun _ _ => trivial) _ _)
        have hq := lt_of_block qb
        have HG := Lib.hid hgoal
        clear hF hpre hl hR hls hN qb hgoal; go_simp
        exact ⟨undef, HG.out⟩
      | 11, ho =>
        simp at ho; subst ho; refine step_plain rfl ?_; have e137 := hF.gv hR.2.1 HQ4 1 rfl (hpre ⟨1, .data⟩ (by simp) rfl) rfl; have hgoal := hR.go hSt (lt_of_block hb4) HQ4 11 rfl (by decide); clear hF hpre hl hR; go_simp; exact ⟨_, rfl, hgoal _ _ (Below.refl _ _) rfl⟩
      | 12, ho =>
        simp at ho; subst ho; refine step_plain rfl ?_; have e145 := hF.gv hR.2.1 HQ4 9 rfl (hpre ⟨9, .data⟩ (by simp) rfl) rfl; have hgoal := hR.go hSt (lt_of_block hb4) HQ4 12 rfl (by decide); clear hF hpre hl hR; go_simp; exact ⟨_, rfl, hgoal _ _ (Below.refl _ _) rfl⟩
      | i + 13, ho => simp at ho
    case hend4 =>
      intro val L b' x hF hall hR
      have e := hF.all (by kernel_rfl) hall
      have k411 := QG.val HQ4 rfl (hR.2.1 11 (hall 11 (by decide)))
      have k412 := QG.val HQ4 rfl (hR.2.1 12 (hall 12 (by decide)))
      have bk4 := hR.2.2.1 (hall 10 (by decide))
      have hK4 := Lib.hid hR.1
      clear hF hall hR hSt HQ4
      subst e
      simp [final, dstOf, List.range, List.range.loop]
      rw [k411]
      rw [k412]
      have HQ := Lib.hid (HB6.out.trans (hK4.out.low (by omega)))
      go_wp2
      have d0 := cellOf (o := 0) bk4 rfl
      have d1 := cellOf (o := 1) bk4 rfl
      have d2 := cellOf (o := 2) bk4 rfl
      have d3 := cellOf (o := 3) bk4 rfl
      have d4 := cellOf (o := 4) bk4 rfl
      exact bodyPost_ret (v := .tuple #[.agg #[.int .i64 (len), .int .i64 (0), .int .i64 (since + 1), .int .i64 (cyc + 1), .bool false], .bool tch, .bool (false)]) (by simp [results, Try.results81, go_sem, d0, d1, d2, d3, d4]) rfl ⟨rfl, HQ.out⟩

set_option maxRecDepth 100000 in
set_option maxHeartbeats 4000000 in
theorem step6 (_h : HT w B AX AY AV nx ny nv X Y V) (_z0 : 0 ≤ len) (_z1 : len ≤ cable) (_z2 : cable ≤ 100) (_w0 : 0 ≤ wt) (s0 : 0 ≤ since) (s1 : since ≤ 1000) (q0 : 0 ≤ cyc) (q1 : cyc ≤ 1000) :
    Calls Try.prog 81 #[.agg #[.int .i64 cable, .slice AX nx cx, .slice AY ny cy, .slice AV nv cv, .int .i64 charge], .agg #[.int .i64 y1, .int .i64 y2], .agg #[.int .i64 len, .int .i64 wt, .int .i64 since, .int .i64 cyc, .bool false], .bool tch, .agg #[.int .i64 6, .int .i64 n]] w (GivesT w (decide (n = 0)) (⟨0, 0, since + 1, cyc, true, tch⟩)) := by
  have S5 := Lib.hid (st_new cable charge y1 y2 len wt since cyc false 6 n AX AY AV nx cx ny cy nv cv w)
  have i7 : IntKind.i64.wrap (since + 1) = since + 1 := IntWalk.i64_in _ (by omega)
  have i8 : IntKind.i64.wrap (cyc + 1) = cyc + 1 := IntWalk.i64_in _ (by omega)
  clear _h
  by_cases e0 : n = 0
  · subst e0
    rw [show decide ((0 : Int) = 0) = true by simp]
    go_enter Try.func81, Try.ntmps81
    go_upto_region 30 with (fail)
    have S6 := Lib.hid (st_next _ _ _ _ _ _ _ _ _ _ _ _ _ _ _ _ _ _ _ _ _ S5.out (.cells #[.int .i64 (0), .int .i64 (0), .int .i64 (since + 1), .int .i64 (cyc), .bool true] 61))
    clear S5
    generalize World.alloc _ _ = w6 at *
    have HB6 := Lib.hid S6.out.hb
    have hb4 := S6.out.b4
    have hs6 := S6.out.sz
    have x0 := cellOf (o := 0) S6.out.b0 rfl
    have c0 := cellOf (o := 0) S6.out.b2 rfl
    have m0 := cellOf (o := 0) S6.out.b5 rfl
    have x1 := cellOf (o := 1) S6.out.b0 rfl
    have c1 := cellOf (o := 1) S6.out.b2 rfl
    have m1 := cellOf (o := 1) S6.out.b5 rfl
    have x2 := cellOf (o := 2) S6.out.b0 rfl
    have c2 := cellOf (o := 2) S6.out.b2 rfl
    have m2 := cellOf (o := 2) S6.out.b5 rfl
    have x3 := cellOf (o := 3) S6.out.b0 rfl
    have c3 := cellOf (o := 3) S6.out.b2 rfl
    have m3 := cellOf (o := 3) S6.out.b5 rfl
    have x4 := cellOf (o := 4) S6.out.b0 rfl
    have c4 := cellOf (o := 4) S6.out.b2 rfl
    have m4 := cellOf (o := 4) S6.out.b5 rfl
    have p0 := cellOf (o := 0) S6.out.b1 rfl
    have l0 := cellOf (o := 0) S6.out.b3 rfl
    have p1 := cellOf (o := 1) S6.out.b1 rfl
    have l1 := cellOf (o := 1) S6.out.b3 rfl
    clear S6
    obtain ⟨Q5, hQ5⟩ : ∃ q9 : Nat → Value → World → Prop, q9 = QG [some (.agg #[.int .i64 0, .int .i64 0, .int .i64 (since + 1), .int .i64 cyc, .bool true]), some (.bool tch), some (.pointer (some ⟨w.heap.size + 1 + 1 + 1, 1, none⟩)), some (.int .i64 0), some (.bool true), none, some (.bool tch), some (.bool true)] (fun _ _ _ => True) := ⟨_, rfl⟩
    have hSt : Still Q5 := by rw [hQ5]; exact QG.still
    have HQ5 := Lib.hid hQ5
    clear hQ5
    refine wpIn_wide.1 (region_inv2 (n := 9) (by kernel_rfl) (RK Q5 w6 5 (w.heap.size + 1 + 1 + 1 + 1) (.cells #[.int .i64 0, .int .i64 0, .int .i64 (since + 1), .int .i64 cyc, .bool true] 61 (0, 0))) (by kernel_rfl) rfl (RK.start _ _ _ _ _ _) ?hstep5 ?hend5)
    case hstep5 =>
      intro i' o ho val L b' x hF hR hpre hl
      match i', ho with
      | 0, ho =>
        simp at ho; subst ho; refine step_plain rfl ?_; have e13 := hF.was 13 (by kernel_rfl) rfl; have hgoal := hR.go hSt (lt_of_block hb4) HQ5 0 rfl (by decide); have q0 := hR.1.cell m0 (by omega); have q1 := hR.1.cell m1 (by omega); have q2 := hR.1.cell m2 (by omega); have q3 := hR.1.cell m3 (by omega); have q4 := hR.1.cell m4 (by omega); clear hF hpre hl hR; go_simp; exact ⟨_, rfl, hgoal _ _ (Below.refl _ _) rfl⟩
      | 1, ho =>
        simp at ho; subst ho; refine step_plain rfl ?_; have e3 := hF.was 3 (by kernel_rfl) rfl; have hgoal := hR.go hSt (lt_of_block hb4) HQ5 1 rfl (by decide); clear hF hpre hl hR; go_simp; exact ⟨_, rfl, hgoal _ _ (Below.refl _ _) rfl⟩
      | 2, ho =>
        simp at ho; subst ho; refine step_plain rfl ?_; have e9 := hF.was 9 (by kernel_rfl) rfl; have hgoal := hR.go hSt (lt_of_block hb4) HQ5 2 rfl (by decide); clear hF hpre hl hR; go_simp; exact ⟨_, rfl, hgoal _ _ (Below.refl _ _) rfl⟩
      | 3, ho =>
        simp at ho; subst ho; refine step_plain rfl ?_; have e153 := hF.gv hR.2.1 HQ5 2 rfl (hpre ⟨2, .data⟩ (by simp) rfl) rfl; have hgoal := hR.go hSt (lt_of_block hb4) HQ5 3 rfl (by decide); have q0 := hR.1.cell l1 (by omega); clear hF hpre hl hR; go_simp; exact ⟨_, rfl, hgoal _ _ (Below.refl _ _) rfl⟩
      | 4, ho =>
        simp at ho; subst ho; refine step_plain rfl ?_; have e154 := hF.gv hR.2.1 HQ5 3 rfl (hpre ⟨3, .data⟩ (by simp) rfl) rfl; have hgoal := hR.go hSt (lt_of_block hb4) HQ5 4 rfl (by decide); clear hF hpre hl hR; go_simp; exact ⟨_, rfl, hgoal _ _ (Below.refl _ _) rfl⟩
      | 5, ho =>
        simp at ho; subst ho; refine step_plain rfl ?_; have e10 := hF.was 10 (by kernel_rfl) rfl; have e151 := hF.gv hR.2.1 HQ5 0 rfl (hpre ⟨0, .data⟩ (by simp) rfl) rfl; have hN := hF.none2 hl (by decide)
        have hls : 5 < L.size := by rw [hF.lsize]; decide
        have qb := (hR.2.2.2 hN).trans hb4
        have g0 := cellOf (o := 0) qb rfl; have f0 := freeOf (o := 0) qb; have g1 := cellOf (o := 1) qb rfl; have f1 := freeOf (o := 1) qb; have g2 := cellOf (o := 2) qb rfl; have f2 := freeOf (o := 2) qb; have g3 := cellOf (o := 3) qb rfl; have f3 := freeOf (o := 3) qb; have g4 := cellOf (o := 4) qb rfl; have f4 := freeOf (o := 4) qb; have hgoal := RK.store (v := undef) hR hSt hls ((((((Kept.refl (w.heap.size + 1 + 1 + 1 + 1) x).setCell 0 (.int .i64 0)).setCell 1 (.int .i64 0)).setCell 2 (.int .i64 (since + 1))).setCell 3 (.int .i64 cyc)).setCell 4 (.bool true)) ((block_setCell (o := 4) (.bool true) (block_setCell (o := 3) (.int .i64 cyc) (block_setCell (o := 2) (.int .i64 (since + 1)) (block_setCell (o := 1) (.int .i64 0) (block_setCell (o := 0) (.int .i64 0) qb))))).trans (by rfl)) (QG.none HQ5 5 rfl (fun _ _ => trivial) _ _)
        have hq := lt_of_block qb
        have HG := Lib.hid hgoal
        clear hF hpre hl hR hls hN qb hgoal; go_simp
        exact ⟨undef, HG.out⟩
      | 6, ho =>
        simp at ho; subst ho; refine step_plain rfl ?_; have e152 := hF.gv hR.2.1 HQ5 1 rfl (hpre ⟨1, .data⟩ (by simp) rfl) rfl; have hgoal := hR.go hSt (lt_of_block hb4) HQ5 6 rfl (by decide); clear hF hpre hl hR; go_simp; exact ⟨_, rfl, hgoal _ _ (Below.refl _ _) rfl⟩
      | 7, ho =>
        simp at ho; subst ho; refine step_plain rfl ?_; have e155 := hF.gv hR.2.1 HQ5 4 rfl (hpre ⟨4, .data⟩ (by simp) rfl) rfl; have hgoal := hR.go hSt (lt_of_block hb4) HQ5 7 rfl (by decide); clear hF hpre hl hR; go_simp; exact ⟨_, rfl, hgoal _ _ (Below.refl _ _) rfl⟩
      | i + 8, ho => simp at ho
    case hend5 =>
      intro val L b' x hF hall hR
      have e := hF.all (by kernel_rfl) hall
      have k56 := QG.val HQ5 rfl (hR.2.1 6 (hall 6 (by decide)))
      have k57 := QG.val HQ5 rfl (hR.2.1 7 (hall 7 (by decide)))
      have bk5 := hR.2.2.1 (hall 5 (by decide))
      have hK5 := Lib.hid hR.1
      clear hF hall hR hSt HQ5
      subst e
      simp [final, dstOf, List.range, List.range.loop]
      rw [k56]
      rw [k57]
      have HQ := Lib.hid (HB6.out.trans (hK5.out.low (by omega)))
      go_wp2
      have d0 := cellOf (o := 0) bk5 rfl
      have d1 := cellOf (o := 1) bk5 rfl
      have d2 := cellOf (o := 2) bk5 rfl
      have d3 := cellOf (o := 3) bk5 rfl
      have d4 := cellOf (o := 4) bk5 rfl
      exact bodyPost_ret (v := .tuple #[.agg #[.int .i64 (0), .int .i64 (0), .int .i64 (since + 1), .int .i64 (cyc), .bool true], .bool tch, .bool (true)]) (by simp [results, Try.results81, go_sem, d0, d1, d2, d3, d4]) rfl ⟨rfl, HQ.out⟩
  · have e1 : (n == 0) = false := by simpa using e0
    rw [show (decide (n = 0)) = false by simp [e0]]
    clear e0
    go_enter Try.func81, Try.ntmps81
    go_upto_region 30 with (fail)
    have S6 := Lib.hid (st_next _ _ _ _ _ _ _ _ _ _ _ _ _ _ _ _ _ _ _ _ _ S5.out (.cells #[.int .i64 (0), .int .i64 (0), .int .i64 (since + 1), .int .i64 (cyc), .bool true] 61))
    clear S5
    generalize World.alloc _ _ = w6 at *
    have HB6 := Lib.hid S6.out.hb
    have hb4 := S6.out.b4
    have hs6 := S6.out.sz
    have x0 := cellOf (o := 0) S6.out.b0 rfl
    have c0 := cellOf (o := 0) S6.out.b2 rfl
    have m0 := cellOf (o := 0) S6.out.b5 rfl
    have x1 := cellOf (o := 1) S6.out.b0 rfl
    have c1 := cellOf (o := 1) S6.out.b2 rfl
    have m1 := cellOf (o := 1) S6.out.b5 rfl
    have x2 := cellOf (o := 2) S6.out.b0 rfl
    have c2 := cellOf (o := 2) S6.out.b2 rfl
    have m2 := cellOf (o := 2) S6.out.b5 rfl
    have x3 := cellOf (o := 3) S6.out.b0 rfl
    have c3 := cellOf (o := 3) S6.out.b2 rfl
    have m3 := cellOf (o := 3) S6.out.b5 rfl
    have x4 := cellOf (o := 4) S6.out.b0 rfl
    have c4 := cellOf (o := 4) S6.out.b2 rfl
    have m4 := cellOf (o := 4) S6.out.b5 rfl
    have p0 := cellOf (o := 0) S6.out.b1 rfl
    have l0 := cellOf (o := 0) S6.out.b3 rfl
    have p1 := cellOf (o := 1) S6.out.b1 rfl
    have l1 := cellOf (o := 1) S6.out.b3 rfl
    clear S6
    obtain ⟨Q6, hQ6⟩ : ∃ q9 : Nat → Value → World → Prop, q9 = QG [some (.agg #[.int .i64 0, .int .i64 0, .int .i64 (since + 1), .int .i64 cyc, .bool true]), some (.bool tch), some (.pointer (some ⟨w.heap.size + 1 + 1 + 1, 1, none⟩)), some (.int .i64 n), some (.bool false), none, some (.bool tch), some (.bool false)] (fun _ _ _ => True) := ⟨_, rfl⟩
    have hSt : Still Q6 := by rw [hQ6]; exact QG.still
    have HQ6 := Lib.hid hQ6
    clear hQ6
    refine wpIn_wide.1 (region_inv2 (n := 9) (by kernel_rfl) (RK Q6 w6 5 (w.heap.size + 1 + 1 + 1 + 1) (.cells #[.int .i64 0, .int .i64 0, .int .i64 (since + 1), .int .i64 cyc, .bool true] 61 (0, 0))) (by kernel_rfl) rfl (RK.start _ _ _ _ _ _) ?hstep6 ?hend6)
    case hstep6 =>
      intro i' o ho val L b' x hF hR hpre hl
      match i', ho with
      | 0, ho =>
        simp at ho; subst ho; refine step_plain rfl ?_; have e13 := hF.was 13 (by kernel_rfl) rfl; have hgoal := hR.go hSt (lt_of_block hb4) HQ6 0 rfl (by decide); have q0 := hR.1.cell m0 (by omega); have q1 := hR.1.cell m1 (by omega); have q2 := hR.1.cell m2 (by omega); have q3 := hR.1.cell m3 (by omega); have q4 := hR.1.cell m4 (by omega); clear hF hpre hl hR; go_simp; exact ⟨_, rfl, hgoal _ _ (Below.refl _ _) rfl⟩
      | 1, ho =>
        simp at ho; subst ho; refine step_plain rfl ?_; have e3 := hF.was 3 (by kernel_rfl) rfl; have hgoal := hR.go hSt (lt_of_block hb4) HQ6 1 rfl (by decide); clear hF hpre hl hR; go_simp; exact ⟨_, rfl, hgoal _ _ (Below.refl _ _) rfl⟩
      | 2, ho =>
        simp at ho; subst ho; refine step_plain rfl ?_; have e9 := hF.was 9 (by kernel_rfl) rfl; have hgoal := hR.go hSt (lt_of_block hb4) HQ6 2 rfl (by decide); clear hF hpre hl hR; go_simp; exact ⟨_, rfl, hgoal _ _ (Below.refl _ _) rfl⟩
      | 3, ho =>
        simp at ho; subst ho; refine step_plain rfl ?_; have e153 := hF.gv hR.2.1 HQ6 2 rfl (hpre ⟨2, .data⟩ (by simp) rfl) rfl; have hgoal := hR.go hSt (lt_of_block hb4) HQ6 3 rfl (by decide); have q0 := hR.1.cell l1 (by omega); clear hF hpre hl hR; go_simp; exact ⟨_, rfl, hgoal _ _ (Below.refl _ _) rfl⟩
      | 4, ho =>
        simp at ho; subst ho; refine step_plain rfl ?_; have e154 := hF.gv hR.2.1 HQ6 3 rfl (hpre ⟨3, .data⟩ (by simp) rfl) rfl; have hgoal := hR.go hSt (lt_of_block hb4) HQ6 4 rfl (by decide); clear hF hpre hl hR; go_simp; exact ⟨_, rfl, hgoal _ _ (Below.refl _ _) rfl⟩
      | 5, ho =>
        simp at ho; subst ho; refine step_plain rfl ?_; have e10 := hF.was 10 (by kernel_rfl) rfl; have e151 := hF.gv hR.2.1 HQ6 0 rfl (hpre ⟨0, .data⟩ (by simp) rfl) rfl; have hN := hF.none2 hl (by decide)
        have hls : 5 < L.size := by rw [hF.lsize]; decide
        have qb := (hR.2.2.2 hN).trans hb4
        have g0 := cellOf (o := 0) qb rfl; have f0 := freeOf (o := 0) qb; have g1 := cellOf (o := 1) qb rfl; have f1 := freeOf (o := 1) qb; have g2 := cellOf (o := 2) qb rfl; have f2 := freeOf (o := 2) qb; have g3 := cellOf (o := 3) qb rfl; have f3 := freeOf (o := 3) qb; have g4 := cellOf (o := 4) qb rfl; have f4 := freeOf (o := 4) qb; have hgoal := RK.store (v := undef) hR hSt hls ((((((Kept.refl (w.heap.size + 1 + 1 + 1 + 1) x).setCell 0 (.int .i64 0)).setCell 1 (.int .i64 0)).setCell 2 (.int .i64 (since + 1))).setCell 3 (.int .i64 cyc)).setCell 4 (.bool true)) ((block_setCell (o := 4) (.bool true) (block_setCell (o := 3) (.int .i64 cyc) (block_setCell (o := 2) (.int .i64 (since + 1)) (block_setCell (o := 1) (.int .i64 0) (block_setCell (o := 0) (.int .i64 0) qb))))).trans (by rfl)) (QG.none HQ6 5 rfl (fun _ _ => trivial) _ _)
        have hq := lt_of_block qb
        have HG := Lib.hid hgoal
        clear hF hpre hl hR hls hN qb hgoal; go_simp
        exact ⟨undef, HG.out⟩
      | 6, ho =>
        simp at ho; subst ho; refine step_plain rfl ?_; have e152 := hF.gv hR.2.1 HQ6 1 rfl (hpre ⟨1, .data⟩ (by simp) rfl) rfl; have hgoal := hR.go hSt (lt_of_block hb4) HQ6 6 rfl (by decide); clear hF hpre hl hR; go_simp; exact ⟨_, rfl, hgoal _ _ (Below.refl _ _) rfl⟩
      | 7, ho =>
        simp at ho; subst ho; refine step_plain rfl ?_; have e155 := hF.gv hR.2.1 HQ6 4 rfl (hpre ⟨4, .data⟩ (by simp) rfl) rfl; have hgoal := hR.go hSt (lt_of_block hb4) HQ6 7 rfl (by decide); clear hF hpre hl hR; go_simp; exact ⟨_, rfl, hgoal _ _ (Below.refl _ _) rfl⟩
      | i + 8, ho => simp at ho
    case hend6 =>
      intro val L b' x hF hall hR
      have e := hF.all (by kernel_rfl) hall
      have k66 := QG.val HQ6 rfl (hR.2.1 6 (hall 6 (by decide)))
      have k67 := QG.val HQ6 rfl (hR.2.1 7 (hall 7 (by decide)))
      have bk6 := hR.2.2.1 (hall 5 (by decide))
      have hK6 := Lib.hid hR.1
      clear hF hall hR hSt HQ6
      subst e
      simp [final, dstOf, List.range, List.range.loop]
      rw [k66]
      rw [k67]
      have HQ := Lib.hid (HB6.out.trans (hK6.out.low (by omega)))
      go_wp2
      have d0 := cellOf (o := 0) bk6 rfl
      have d1 := cellOf (o := 1) bk6 rfl
      have d2 := cellOf (o := 2) bk6 rfl
      have d3 := cellOf (o := 3) bk6 rfl
      have d4 := cellOf (o := 4) bk6 rfl
      exact bodyPost_ret (v := .tuple #[.agg #[.int .i64 (0), .int .i64 (0), .int .i64 (since + 1), .int .i64 (cyc), .bool true], .bool tch, .bool (false)]) (by simp [results, Try.results81, go_sem, d0, d1, d2, d3, d4]) rfl ⟨rfl, HQ.out⟩

end
end Go.Proofs.Ytnnmmojlgikdgaa

/- The reference's Step: a cut hoist, no step. -/
namespace Go.Proofs.Ytnnmmojlgikdgaa
open Go.RowKit

section
variable (cable charge y1 y2 len wt since cyc : Int) (cut tch : Bool) (k n : Int) (AX AY AV : Option Addr) (nx cx ny cy nv cv B : Nat) (X Y : List Int) (V : List (List Int)) (w : World)

set_option maxRecDepth 100000 in
set_option maxHeartbeats 4000000 in
theorem step_cut (_h : HT w B AX AY AV nx ny nv X Y V) (_z0 : 0 ≤ len) (_z1 : len ≤ cable) (_z2 : cable ≤ 100) (_w0 : 0 ≤ wt) (_s0 : 0 ≤ since) (_s1 : since ≤ 1000) (_q0 : 0 ≤ cyc) (_q1 : cyc ≤ 1000) :
    Calls Try.prog 81 #[.agg #[.int .i64 cable, .slice AX nx cx, .slice AY ny cy, .slice AV nv cv, .int .i64 charge], .agg #[.int .i64 y1, .int .i64 y2], .agg #[.int .i64 len, .int .i64 wt, .int .i64 since, .int .i64 cyc, .bool true], .bool tch, .agg #[.int .i64 k, .int .i64 n]] w (GivesT w (false) (⟨len, wt, since, cyc, true, tch⟩)) := by
  have S5 := Lib.hid (st_new cable charge y1 y2 len wt since cyc true k n AX AY AV nx cx ny cy nv cv w)
  clear _h
  go_enter Try.func81, Try.ntmps81
  have c4 := cellOf (o := 4) S5.out.b2 rfl
  go_upto_region 2 with (fail)
  clear c4
  generalize World.alloc _ _ = w5 at *
  have HB5 := Lib.hid S5.out.hb
  have hb4 := S5.out.b4
  have hs5 := S5.out.sz
  have c0 := cellOf (o := 0) S5.out.b2 rfl
  have c1 := cellOf (o := 1) S5.out.b2 rfl
  have c2 := cellOf (o := 2) S5.out.b2 rfl
  have c3 := cellOf (o := 3) S5.out.b2 rfl
  have c4 := cellOf (o := 4) S5.out.b2 rfl
  have r0 := cellOf (o := 0) S5.out.b4 rfl
  have f0 := freeOf (o := 0) S5.out.b4
  have r1 := cellOf (o := 1) S5.out.b4 rfl
  have f1 := freeOf (o := 1) S5.out.b4
  have r2 := cellOf (o := 2) S5.out.b4 rfl
  have f2 := freeOf (o := 2) S5.out.b4
  have r3 := cellOf (o := 3) S5.out.b4 rfl
  have f3 := freeOf (o := 3) S5.out.b4
  have r4 := cellOf (o := 4) S5.out.b4 rfl
  have f4 := freeOf (o := 4) S5.out.b4
  clear S5
  go_wp2
  have hp := HX.put (s := zeroH) hb4 (len) (wt) (since) (cyc) true
  have HQ := Lib.hid (hx_below (b := w.heap.size + 1 + 1 + 1 + 1) HB5.out (by omega) (.int .i64 (len)) (.int .i64 (wt)) (.int .i64 (since)) (.int .i64 (cyc)) (.bool true))
  clear r0 r1 r2 r3 r4 f0 f1 f2 f3 f4
  generalize ((((World.setCell w5 _ _).setCell _ _).setCell _ _).setCell _ _).setCell _ _ = w9 at *
  have d0 := cellOf (o := 0) hp rfl
  have d1 := cellOf (o := 1) hp rfl
  have d2 := cellOf (o := 2) hp rfl
  have d3 := cellOf (o := 3) hp rfl
  have d4 := cellOf (o := 4) hp rfl
  exact bodyPost_ret (v := .tuple #[.agg #[.int .i64 (len), .int .i64 (wt), .int .i64 (since), .int .i64 (cyc), .bool true], .bool tch, .bool (false)]) (by simp [results, Try.results81, go_sem, d0, d1, d2, d3, d4]) rfl ⟨rfl, HQ.out⟩

set_option maxRecDepth 100000 in
set_option maxHeartbeats 4000000 in
theorem step0 (_h : HT w B AX AY AV nx ny nv X Y V) (_z0 : 0 ≤ len) (_z1 : len ≤ cable) (_z2 : cable ≤ 100) (_w0 : 0 ≤ wt) (s0 : 0 ≤ since) (s1 : since ≤ 1000) (q0 : 0 ≤ cyc) (q1 : cyc ≤ 1000) (k1 : k ≠ 1) (k2 : k ≠ 2) (k3 : k ≠ 3) (k4 : k ≠ 4) (k5 : k ≠ 5) (k6 : k ≠ 6) :
    Calls Try.prog 81 #[.agg #[.int .i64 cable, .slice AX nx cx, .slice AY ny cy, .slice AV nv cv, .int .i64 charge], .agg #[.int .i64 y1, .int .i64 y2], .agg #[.int .i64 len, .int .i64 wt, .int .i64 since, .int .i64 cyc, .bool false], .bool tch, .agg #[.int .i64 k, .int .i64 n]] w (GivesT w (false) (⟨len, wt, since, cyc, false, tch⟩)) := by
  have S5 := Lib.hid (st_new cable charge y1 y2 len wt since cyc false k n AX AY AV nx cx ny cy nv cv w)
  have i7 : IntKind.i64.wrap (since + 1) = since + 1 := IntWalk.i64_in _ (by omega)
  have i8 : IntKind.i64.wrap (cyc + 1) = cyc + 1 := IntWalk.i64_in _ (by omega)
  have e1 : (k == 1) = false := by simpa using k1
  have e2 : (k == 2) = false := by simpa using k2
  have e3 : (k == 3) = false := by simpa using k3
  have e4 : (k == 4) = false := by simpa using k4
  have e5 : (k == 5) = false := by simpa using k5
  have e6 : (k == 6) = false := by simpa using k6
  clear _h k1 k2 k3 k4 k5 k6
  go_enter Try.func81, Try.ntmps81
  go_upto_region 31 with (fail)
  have S6 := Lib.hid (st_next _ _ _ _ _ _ _ _ _ _ _ _ _ _ _ _ _ _ _ _ _ S5.out (.cells #[.int .i64 (len), .int .i64 (wt), .int .i64 (since + 1), .int .i64 (cyc), .bool false] 61))
  clear S5
  generalize World.alloc _ _ = w6 at *
  have HB6 := Lib.hid S6.out.hb
  have hb4 := S6.out.b4
  have hs6 := S6.out.sz
  have x0 := cellOf (o := 0) S6.out.b0 rfl
  have c0 := cellOf (o := 0) S6.out.b2 rfl
  have m0 := cellOf (o := 0) S6.out.b5 rfl
  have x1 := cellOf (o := 1) S6.out.b0 rfl
  have c1 := cellOf (o := 1) S6.out.b2 rfl
  have m1 := cellOf (o := 1) S6.out.b5 rfl
  have x2 := cellOf (o := 2) S6.out.b0 rfl
  have c2 := cellOf (o := 2) S6.out.b2 rfl
  have m2 := cellOf (o := 2) S6.out.b5 rfl
  have x3 := cellOf (o := 3) S6.out.b0 rfl
  have c3 := cellOf (o := 3) S6.out.b2 rfl
  have m3 := cellOf (o := 3) S6.out.b5 rfl
  have x4 := cellOf (o := 4) S6.out.b0 rfl
  have c4 := cellOf (o := 4) S6.out.b2 rfl
  have m4 := cellOf (o := 4) S6.out.b5 rfl
  have p0 := cellOf (o := 0) S6.out.b1 rfl
  have l0 := cellOf (o := 0) S6.out.b3 rfl
  have p1 := cellOf (o := 1) S6.out.b1 rfl
  have l1 := cellOf (o := 1) S6.out.b3 rfl
  clear S6
  have r0 := cellOf (o := 0) hb4 rfl
  have f0 := freeOf (o := 0) hb4
  have r1 := cellOf (o := 1) hb4 rfl
  have f1 := freeOf (o := 1) hb4
  have r2 := cellOf (o := 2) hb4 rfl
  have f2 := freeOf (o := 2) hb4
  have r3 := cellOf (o := 3) hb4 rfl
  have f3 := freeOf (o := 3) hb4
  have r4 := cellOf (o := 4) hb4 rfl
  have f4 := freeOf (o := 4) hb4
  go_wp2
  have hp := HX.put (s := zeroH) hb4 (len) (wt) (since) (cyc) false
  have HQ := Lib.hid (hx_below (b := w.heap.size + 1 + 1 + 1 + 1) HB6.out (by omega) (.int .i64 (len)) (.int .i64 (wt)) (.int .i64 (since)) (.int .i64 (cyc)) (.bool false))
  clear r0 r1 r2 r3 r4 f0 f1 f2 f3 f4
  generalize ((((World.setCell w6 _ _).setCell _ _).setCell _ _).setCell _ _).setCell _ _ = w9 at *
  have d0 := cellOf (o := 0) hp rfl
  have d1 := cellOf (o := 1) hp rfl
  have d2 := cellOf (o := 2) hp rfl
  have d3 := cellOf (o := 3) hp rfl
  have d4 := cellOf (o := 4) hp rfl
  exact bodyPost_ret (v := .tuple #[.agg #[.int .i64 (len), .int .i64 (wt), .int .i64 (since), .int .i64 (cyc), .bool false], .bool tch, .bool (false)]) (by simp [results, Try.results81, go_sem, d0, d1, d2, d3, d4]) rfl ⟨rfl, HQ.out⟩

end
end Go.Proofs.Ytnnmmojlgikdgaa

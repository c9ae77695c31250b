/- Contracts of the functions that the statement reaches: JDoes, JIdx, JHaul0, Rk, JStep0, JSets1, JRw. -/
import Derived.Test.YtnnmmojlgikdgaaM10
import Derived.Test.YtnnmmojlgikdgaaM5
import Derived.Test.YtnnmmojlgikdgaaM4
import Derived.Test.YtnnmmojlgikdgaaM7
import Derived.Test.YtnnmmojlgikdgaaM6

/- The winch plays a step. -/
namespace Go.Proofs.Ytnnmmojlgikdgaa
open Go.RowKit

section
variable (g : Nat) (cable charge y1 y2 len wt since cyc : Int) (cut tch : Bool) (k n : Int) (AX AY AV : Option Addr) (nx cx ny cy nv cv B : Nat) (X Y : List Int) (V : List (List Int)) (w : World)

def GivesW (b : Bool) (s : HG) (e : Ending) (w' : World) : Prop := e = .returned (.bool b) ∧ WN w' g cable AX nx cx AY ny cy AV nv cv charge s y1 y2 ∧ Kept g w w'

set_option maxRecDepth 100000 in
set_option maxHeartbeats 4000000 in
theorem does_cut (_ht : HT w B AX AY AV nx ny nv X Y V) (h : WN w g cable AX nx cx AY ny cy AV nv cv charge ⟨len, wt, since, cyc, true, tch⟩ y1 y2) (_z0 : 0 ≤ len) (_z1 : len ≤ cable) (_z2 : cable ≤ 100) (_s0 : 0 ≤ since) (_s1 : since ≤ 1000) (_q0 : 0 ≤ cyc) (_q1 : cyc ≤ 1000) :
    Calls Try.prog 80 #[.pointer (some ⟨g, 0, none⟩), .agg #[.int .i64 k, .int .i64 n]] w (GivesW g cable charge y1 y2 AX AY AV nx cx ny cy nv cv w false ⟨len, wt, since, cyc, true, tch⟩) := by
  have HW := Lib.hid h
  have L0 := Lib.hid (show (w.alloc (.cells #[.int .i64 k, .int .i64 n] 82)).cell? ⟨w.heap.size, 0, none⟩ = some (.int .i64 k) by rw [cell_newest]; rfl)
  have L1 := Lib.hid (show (w.alloc (.cells #[.int .i64 k, .int .i64 n] 82)).cell? ⟨w.heap.size, 1, none⟩ = some (.int .i64 n) by rw [cell_newest]; rfl)
  have hg := h.lt
  have c9 := cellOf (o := 9) h rfl
  clear h _ht
  go_enter Try.func80, Try.ntmps80
  go_wp2
  go_ret
  exact ⟨rfl, HW.out.stay ((Below.refl _ _).alloc (Nat.le_refl _) _), Kept.of ((Below.refl _ _).alloc (Nat.le_refl _) _) (Nat.le_of_lt HW.out.lt)⟩

set_option maxRecDepth 100000 in
set_option maxHeartbeats 4000000 in
theorem does_no (ht : HT w B AX AY AV nx ny nv X Y V) (h : WN w g cable AX nx cx AY ny cy AV nv cv charge ⟨len, wt, since, cyc, false, tch⟩ y1 y2) (z0 : 0 ≤ len) (z1 : len ≤ cable) (z2 : cable ≤ 100) (_s0 : 0 ≤ since) (_s1 : since ≤ 1000) (_q0 : 0 ≤ cyc) (_q1 : cyc ≤ 1000) (hp : posB (fun l u => carB X Y V l l y1 y2 u) cable charge ⟨len, wt, since, cyc, false, tch⟩ k n = false) :
    Calls Try.prog 80 #[.pointer (some ⟨g, 0, none⟩), .agg #[.int .i64 k, .int .i64 n]] w (GivesW g cable charge y1 y2 AX AY AV nx cx ny cy nv cv w false ⟨len, wt, since, cyc, false, tch⟩) := by
  have HW := Lib.hid h
  have L0 := Lib.hid (show (w.alloc (.cells #[.int .i64 k, .int .i64 n] 82)).cell? ⟨w.heap.size, 0, none⟩ = some (.int .i64 k) by rw [cell_newest]; rfl)
  have L1 := Lib.hid (show (w.alloc (.cells #[.int .i64 k, .int .i64 n] 82)).cell? ⟨w.heap.size, 1, none⟩ = some (.int .i64 n) by rw [cell_newest]; rfl)
  have HPO := Lib.hid (fun (W : World) (hW : Below w.heap.size w W) => possible_any g cable charge y1 y2 len wt since cyc false tch k n AX AY AV nx cx ny cy nv cv B X Y V W (ht.below hW) (h.stay hW) z0 z1 z2)
  rw [hp] at HPO
  have hg := h.lt
  have c9 := cellOf (o := 9) h rfl
  clear h ht hp
  go_enter Try.func80, Try.ntmps80
  go_wp2_with (go_at_call 110; refine Calls.mono (HPO.out _ ((Below.refl _ _).alloc (Nat.le_refl _) _)) ?_; rintro e w3 ⟨rfl, hb3⟩; have r0 := cell_keep hb3 L0.out; have r1 := cell_keep hb3 L1.out; have hw3 : WN w3 g cable AX nx cx AY ny cy AV nv cv charge ⟨len, wt, since, cyc, false, tch⟩ y1 y2 := (HW.out.stay ((Below.refl _ _).alloc (Nat.le_refl _) _)).stay hb3; have hk3 : Kept g w w3 := (Kept.of ((Below.refl _ _).alloc (Nat.le_refl _) _) (Nat.le_of_lt HW.out.lt)).trans (Kept.of hb3 (Nat.le_of_lt (HW.out.stay ((Below.refl _ _).alloc (Nat.le_refl _) _)).lt)); clear hb3)
  go_ret
  exact ⟨rfl, hw3, hk3⟩

set_option maxRecDepth 100000 in
set_option maxHeartbeats 4000000 in
theorem does1 (ht : HT w B AX AY AV nx ny nv X Y V) (h : WN w g cable AX nx cx AY ny cy AV nv cv charge ⟨len, wt, since, cyc, false, tch⟩ y1 y2) (z0 : 0 ≤ len) (z1 : len ≤ cable) (z2 : cable ≤ 100) (s0 : 0 ≤ since) (s1 : since ≤ 1000) (q0 : 0 ≤ cyc) (q1 : cyc ≤ 1000) (hp : posB (fun l u => carB X Y V l l y1 y2 u) cable charge ⟨len, wt, since, cyc, false, tch⟩ 1 n = true) :
    Calls Try.prog 80 #[.pointer (some ⟨g, 0, none⟩), .agg #[.int .i64 1, .int .i64 n]] w (GivesW g cable charge y1 y2 AX AY AV nx cx ny cy nv cv w true (plS ⟨len, wt, since, cyc, false, tch⟩ 1 n)) := by
  have HW := Lib.hid h
  have L0 := Lib.hid (show (w.alloc (.cells #[.int .i64 1, .int .i64 n] 82)).cell? ⟨w.heap.size, 0, none⟩ = some (.int .i64 1) by rw [cell_newest]; rfl)
  have L1 := Lib.hid (show (w.alloc (.cells #[.int .i64 1, .int .i64 n] 82)).cell? ⟨w.heap.size, 1, none⟩ = some (.int .i64 n) by rw [cell_newest]; rfl)
  have HPO := Lib.hid (fun (W : World) (hW : Below w.heap.size w W) => possible_any g cable charge y1 y2 len wt since cyc false tch 1 n AX AY AV nx cx ny cy nv cv B X Y V W (ht.below hW) (h.stay hW) z0 z1 z2)
  rw [hp] at HPO
  have hg := h.lt
  have c9 := cellOf (o := 9) h rfl
  have hn : posB (fun l u => carB X Y V l l y1 y2 u) cable charge ⟨len, wt, since, cyc, false, tch⟩ 1 n = true := hp
  unfold posB at hn
  simp at hn
  have i7 : IntKind.i64.wrap (since + 1) = since + 1 := IntWalk.i64_in _ (by omega)
  have i8 : IntKind.i64.wrap (cyc + 1) = cyc + 1 := IntWalk.i64_in _ (by omega)
  have i5 : IntKind.i64.wrap (len + n) = len + n := IntWalk.i64_in _ (by omega)
  clear h ht hp hn
  go_enter Try.func80, Try.ntmps80
  go_upto_region 3 with (go_at_call 110; refine Calls.mono (HPO.out _ ((Below.refl _ _).alloc (Nat.le_refl _) _)) ?_; rintro e w3 ⟨rfl, hb3⟩; have r0 := cell_keep hb3 L0.out; have r1 := cell_keep hb3 L1.out; have hw3 : WN w3 g cable AX nx cx AY ny cy AV nv cv charge ⟨len, wt, since, cyc, false, tch⟩ y1 y2 := (HW.out.stay ((Below.refl _ _).alloc (Nat.le_refl _) _)).stay hb3; have hk3 : Kept g w w3 := (Kept.of ((Below.refl _ _).alloc (Nat.le_refl _) _) (Nat.le_of_lt HW.out.lt)).trans (Kept.of hb3 (Nat.le_of_lt (HW.out.stay ((Below.refl _ _).alloc (Nat.le_refl _) _)).lt)); clear hb3)
  have HW3 := Lib.hid hw3
  have HK3 := Lib.hid hk3
  have hg3 := hw3.lt
  have c5 := cellOf (o := 5) hw3 rfl
  have f5 := freeOf (o := 5) hw3
  have c6 := cellOf (o := 6) hw3 rfl
  have f6 := freeOf (o := 6) hw3
  have c7 := cellOf (o := 7) hw3 rfl
  have f7 := freeOf (o := 7) hw3
  have c8 := cellOf (o := 8) hw3 rfl
  have f8 := freeOf (o := 8) hw3
  have c9 := cellOf (o := 9) hw3 rfl
  have f9 := freeOf (o := 9) hw3
  have c12 := cellOf (o := 12) hw3 rfl
  have f12 := freeOf (o := 12) hw3
  clear hw3 hk3
  go_upto_region 6 with (fail)
  have hw4 : WN (w3.setCell ⟨g, 7, none⟩ (.int .i64 (since + 1))) g cable AX nx cx AY ny cy AV nv cv charge ⟨len, wt, since + 1, cyc, false, tch⟩ y1 y2 := (block_setCell (o := 7) _ HW3.out).trans (by rfl)
  have HK4 := Lib.hid (HK3.out.setCell 7 (.int .i64 (since + 1)))
  have r0' := HK4.out
  have m1 : (w3.setCell ⟨g, 7, none⟩ (.int .i64 (since + 1))).cell? ⟨w.heap.size, 1, none⟩ = some (.int .i64 n) := ((Kept.refl g w3).setCell 7 (.int .i64 (since + 1))).cell r1 (by omega)
  clear r0' HK3 r0 r1 HW3 c5 c6 c7 c8 c9 c12 f5 f6 f7 f8 f9 f12 hg3
  generalize w3.setCell _ _ = w4 at *
  have d5 := cellOf (o := 5) hw4 rfl
  have f5 := freeOf (o := 5) hw4
  have hg4 := hw4.lt
  obtain ⟨Q, hQ⟩ : ∃ q9 : Nat → Value → World → Prop, q9 = QG [some (.pointer (some ⟨g, 0, none⟩)), some (.pointer (some ⟨g, 0, none⟩)), some (.pointer (some ⟨g, 5, none⟩)), some (.pointer (some ⟨g, 5, none⟩)), some (.int .i64 len), some (.pointer (some ⟨w.heap.size, 1, none⟩)), some (.int .i64 n), some (.int .i64 (len + n)), some (.pointer (some ⟨g, 0, none⟩)), some (.pointer (some ⟨g, 5, none⟩)), some (.pointer (some ⟨g, 5, none⟩)), none] (fun _ _ _ => True) := ⟨_, rfl⟩
  have hst : Stays Q := by rw [hQ]; exact QG.stays (fun _ _ _ _ _ _ => trivial)
  have HQ := Lib.hid hQ
  clear hQ
  obtain ⟨fX, hfX⟩ : ∃ f9 : World → World, f9 = (fun y => (y.setCell ⟨g, 5, none⟩ (.int .i64 (len + n)))) := ⟨_, rfl⟩
  have HfX := Lib.hid hfX
  clear hfX
  refine wpIn_wide.1 (region_inv2 (n := 9) (by kernel_rfl) (RT Q w4 11 fX) (by kernel_rfl) rfl (RT.start _ _ _ _ _) ?hstep ?hend)
  case hstep =>
    intro i' o ho val L b' x hF hR hpre hl
    match i', ho with
    | 0, ho =>
      simp at ho; subst ho; refine step_plain rfl ?_; have hN := hF.later hl 11 rfl (e := ⟨0, .phase⟩) (by simp) rfl rfl
      have hR := hR.1 hN
      have e0 := hF.was 0 (by kernel_rfl) rfl; have hgoal := RT.go (f := fX) hR hst HQ 0 rfl (by decide) hN; clear hF hpre hl hR hN; go_simp; exact ⟨_, rfl, hgoal _ _ (Below.refl _ _) rfl⟩
    | 1, ho =>
      simp at ho; subst ho; refine step_plain rfl ?_; have hN := hF.later hl 11 rfl (e := ⟨1, .phase⟩) (by simp) rfl rfl
      have hR := hR.1 hN
      have e29 := hF.gv hR.2 HQ 0 rfl (hpre ⟨0, .data⟩ (by simp) rfl) rfl; have hgoal := RT.go (f := fX) hR hst HQ 1 rfl (by decide) hN; clear hF hpre hl hR hN; go_simp; exact ⟨_, rfl, hgoal _ _ (Below.refl _ _) rfl⟩
    | 2, ho =>
      simp at ho; subst ho; refine step_plain rfl ?_; have hN := hF.later hl 11 rfl (e := ⟨2, .phase⟩) (by simp) rfl rfl
      have hR := hR.1 hN
      have e30 := hF.gv hR.2 HQ 1 rfl (hpre ⟨1, .data⟩ (by simp) rfl) rfl; have hgoal := RT.go (f := fX) hR hst HQ 2 rfl (by decide) hN; clear hF hpre hl hR hN; go_simp; exact ⟨_, rfl, hgoal _ _ (Below.refl _ _) rfl⟩
    | 3, ho =>
      simp at ho; subst ho; refine step_plain rfl ?_; have hN := hF.later hl 11 rfl (e := ⟨3, .phase⟩) (by simp) rfl rfl
      have hR := hR.1 hN
      have e31 := hF.gv hR.2 HQ 2 rfl (hpre ⟨2, .data⟩ (by simp) rfl) rfl; have hgoal := RT.go (f := fX) hR hst HQ 3 rfl (by decide) hN; clear hF hpre hl hR hN; go_simp; exact ⟨_, rfl, hgoal _ _ (Below.refl _ _) rfl⟩
    | 4, ho =>
      simp at ho; subst ho; refine step_plain rfl ?_; have hN := hF.later hl 11 rfl (e := ⟨4, .phase⟩) (by simp) rfl rfl
      have hR := hR.1 hN
      have e32 := hF.gv hR.2 HQ 3 rfl (hpre ⟨3, .data⟩ (by simp) rfl) rfl; have hgoal := RT.go (f := fX) hR hst HQ 4 rfl (by decide) hN; have q0 := cell_keep hR.1 d5; clear hF hpre hl hR hN; go_simp; exact ⟨_, rfl, hgoal _ _ (Below.refl _ _) rfl⟩
    | 5, ho =>
      simp at ho; subst ho; refine step_plain rfl ?_; have hN := hF.later hl 11 rfl (e := ⟨5, .phase⟩) (by simp) rfl rfl
      have hR := hR.1 hN
      have e3 := hF.was 3 (by kernel_rfl) rfl; have hgoal := RT.go (f := fX) hR hst HQ 5 rfl (by decide) hN; clear hF hpre hl hR hN; go_simp; exact ⟨_, rfl, hgoal _ _ (Below.refl _ _) rfl⟩
    | 6, ho =>
      simp at ho; subst ho; refine step_plain rfl ?_; have hN := hF.later hl 11 rfl (e := ⟨6, .phase⟩) (by simp) rfl rfl
      have hR := hR.1 hN
      have e34 := hF.gv hR.2 HQ 5 rfl (hpre ⟨5, .data⟩ (by simp) rfl) rfl; have hgoal := RT.go (f := fX) hR hst HQ 6 rfl (by decide) hN; have q0 := cell_keep hR.1 m1; clear hF hpre hl hR hN; go_simp; exact ⟨_, rfl, hgoal _ _ (Below.refl _ _) rfl⟩
    | 7, ho =>
      simp at ho; subst ho; refine step_plain rfl ?_; have hN := hF.later hl 11 rfl (e := ⟨7, .phase⟩) (by simp) rfl rfl
      have hR := hR.1 hN
      have e33 := hF.gv hR.2 HQ 4 rfl (hpre ⟨4, .data⟩ (by simp) rfl) rfl; have e35 := hF.gv hR.2 HQ 6 rfl (hpre ⟨6, .data⟩ (by simp) rfl) rfl; have hgoal := RT.go (f := fX) hR hst HQ 7 rfl (by decide) hN; clear hF hpre hl hR hN; go_simp; exact ⟨_, rfl, hgoal _ _ (Below.refl _ _) rfl⟩
    | 8, ho =>
      simp at ho; subst ho; refine step_plain rfl ?_
      have hl9 := hF.later hl 9 rfl (e := ⟨8, .data⟩) (by simp) rfl rfl
      have hl10 := hF.back hl9 10 rfl (by decide) (e := ⟨9, .data⟩) (by simp) rfl rfl
      clear hl9
      have hN := hF.back hl10 11 rfl (by decide) (e := ⟨10, .data⟩) (by simp) rfl rfl
      clear hl10
      have hR := hR.1 hN
      have e29 := hF.gv hR.2 HQ 0 rfl (hpre ⟨0, .data⟩ (by simp) rfl) rfl; have hgoal := RT.go (f := fX) hR hst HQ 8 rfl (by decide) hN; clear hF hpre hl hR hN; go_simp; exact ⟨_, rfl, hgoal _ _ (Below.refl _ _) rfl⟩
    | 9, ho =>
      simp at ho; subst ho; refine step_plain rfl ?_
      have hl10 := hF.later hl 10 rfl (e := ⟨9, .data⟩) (by simp) rfl rfl
      have hN := hF.back hl10 11 rfl (by decide) (e := ⟨10, .data⟩) (by simp) rfl rfl
      clear hl10
      have hR := hR.1 hN
      have e37 := hF.gv hR.2 HQ 8 rfl (hpre ⟨8, .data⟩ (by simp) rfl) rfl; have hgoal := RT.go (f := fX) hR hst HQ 9 rfl (by decide) hN; clear hF hpre hl hR hN; go_simp; exact ⟨_, rfl, hgoal _ _ (Below.refl _ _) rfl⟩
    | 10, ho =>
      simp at ho; subst ho; refine step_plain rfl ?_; have hN := hF.later hl 11 rfl (e := ⟨10, .data⟩) (by simp) rfl rfl
      have hR := hR.1 hN
      have e38 := hF.gv hR.2 HQ 9 rfl (hpre ⟨9, .data⟩ (by simp) rfl) rfl; have hgoal := RT.go (f := fX) hR hst HQ 10 rfl (by decide) hN; clear hF hpre hl hR hN; go_simp; exact ⟨_, rfl, hgoal _ _ (Below.refl _ _) rfl⟩
    | 11, ho =>
      simp at ho; subst ho; refine step_plain rfl ?_; have hN := hF.none2 hl (by decide)
      have hls : 11 < L.size := by rw [hF.lsize]; decide
      have hR := hR.1 hN
      have e39 := hF.gv hR.2 HQ 10 rfl (hpre ⟨10, .data⟩ (by simp) rfl) rfl; have e36 := hF.gv hR.2 HQ 7 rfl (hpre ⟨7, .data⟩ (by simp) rfl) rfl
      have qb := (hR.1.block (g) (lt_of_block hw4)).trans hw4
      have g0 := cellOf (o := 5) qb rfl; have f0 := freeOf (o := 5) qb; have hgoal := RT.store (f := fX) (v := undef) hR hls
      have hq := lt_of_block qb
      have HG := Lib.hid hgoal
      clear hF hpre hl hR hls hN qb hgoal; go_simp
      exact ⟨undef, by have h9 := HG.out; rw [HfX.out] at h9 ⊢; exact h9⟩
    | i + 12, ho => simp at ho
  case hend =>
    intro val L b' x hF hall hR
    have e := hF.all (by kernel_rfl) hall
    obtain ⟨y, hy, ey, hq⟩ := hR.done (hall 11 (by decide))
    rw [HfX.out] at ey; dsimp only at ey
    have bk := (block_setCell (o := 5) (.int .i64 (len + n)) ((hy.block (g) (lt_of_block hw4)).trans hw4))
    rw [← ey] at bk
    have hX := Lib.hid (fun n9 w9 (h9 : Below n9 w9 w4) (hn9 : n9 ≤ g) => show Below n9 w9 x by rw [ey]; exact ((h9.trans (hy.mono (by have := lt_of_block hw4; omega))).setCell (p := ⟨g, 5, none⟩) hn9 (.int .i64 (len + n))))
    have hK := Lib.hid (show Kept g w4 x by rw [ey]; exact ((Kept.of hy (Nat.le_of_lt (lt_of_block hw4))).setCell 5 (.int .i64 (len + n))))
    clear hF hall hR hst HfX hq hy ey HQ 
    subst e
    simp [final, dstOf, List.range, List.range.loop]
    go_wp2
    go_ret
    exact ⟨rfl, bk, HK4.out.trans hK.out⟩

set_option maxRecDepth 100000 in
set_option maxHeartbeats 4000000 in
theorem does2 (ht : HT w B AX AY AV nx ny nv X Y V) (h : WN w g cable AX nx cx AY ny cy AV nv cv charge ⟨len, wt, since, cyc, false, tch⟩ y1 y2) (z0 : 0 ≤ len) (z1 : len ≤ cable) (z2 : cable ≤ 100) (s0 : 0 ≤ since) (s1 : since ≤ 1000) (q0 : 0 ≤ cyc) (q1 : cyc ≤ 1000) (hp : posB (fun l u => carB X Y V l l y1 y2 u) cable charge ⟨len, wt, since, cyc, false, tch⟩ 2 n = true) :
    Calls Try.prog 80 #[.pointer (some ⟨g, 0, none⟩), .agg #[.int .i64 2, .int .i64 n]] w (GivesW g cable charge y1 y2 AX AY AV nx cx ny cy nv cv w true (plS ⟨len, wt, since, cyc, false, tch⟩ 2 n)) := by
  have HW := Lib.hid h
  have L0 := Lib.hid (show (w.alloc (.cells #[.int .i64 2, .int .i64 n] 82)).cell? ⟨w.heap.size, 0, none⟩ = some (.int .i64 2) by rw [cell_newest]; rfl)
  have L1 := Lib.hid (show (w.alloc (.cells #[.int .i64 2, .int .i64 n] 82)).cell? ⟨w.heap.size, 1, none⟩ = some (.int .i64 n) by rw [cell_newest]; rfl)
  have HPO := Lib.hid (fun (W : World) (hW : Below w.heap.size w W) => possible_any g cable charge y1 y2 len wt since cyc false tch 2 n AX AY AV nx cx ny cy nv cv B X Y V W (ht.below hW) (h.stay hW) z0 z1 z2)
  rw [hp] at HPO
  have hg := h.lt
  have c9 := cellOf (o := 9) h rfl
  have hn : posB (fun l u => carB X Y V l l y1 y2 u) cable charge ⟨len, wt, since, cyc, false, tch⟩ 2 n = true := hp
  unfold posB at hn
  simp at hn
  have i7 : IntKind.i64.wrap (since + 1) = since + 1 := IntWalk.i64_in _ (by omega)
  have i8 : IntKind.i64.wrap (cyc + 1) = cyc + 1 := IntWalk.i64_in _ (by omega)
  have i5 : IntKind.i64.wrap (len - n) = len - n := IntWalk.i64_in _ (by omega)
  clear h ht hp hn
  go_enter Try.func80, Try.ntmps80
  go_upto_region 3 with (go_at_call 110; refine Calls.mono (HPO.out _ ((Below.refl _ _).alloc (Nat.le_refl _) _)) ?_; rintro e w3 ⟨rfl, hb3⟩; have r0 := cell_keep hb3 L0.out; have r1 := cell_keep hb3 L1.out; have hw3 : WN w3 g cable AX nx cx AY ny cy AV nv cv charge ⟨len, wt, since, cyc, false, tch⟩ y1 y2 := (HW.out.stay ((Below.refl _ _).alloc (Nat.le_refl _) _)).stay hb3; have hk3 : Kept g w w3 := (Kept.of ((Below.refl _ _).alloc (Nat.le_refl _) _) (Nat.le_of_lt HW.out.lt)).trans (Kept.of hb3 (Nat.le_of_lt (HW.out.stay ((Below.refl _ _).alloc (Nat.le_refl _) _)).lt)); clear hb3)
  have HW3 := Lib.hid hw3
  have HK3 := Lib.hid hk3
  have hg3 := hw3.lt
  have c5 := cellOf (o := 5) hw3 rfl
  have f5 := freeOf (o := 5) hw3
  have c6 := cellOf (o := 6) hw3 rfl
  have f6 := freeOf (o := 6) hw3
  have c7 := cellOf (o := 7) hw3 rfl
  have f7 := freeOf (o := 7) hw3
  have c8 := cellOf (o := 8) hw3 rfl
  have f8 := freeOf (o := 8) hw3
  have c9 := cellOf (o := 9) hw3 rfl
  have f9 := freeOf (o := 9) hw3
  have c12 := cellOf (o := 12) hw3 rfl
  have f12 := freeOf (o := 12) hw3
  clear hw3 hk3
  go_upto_region 8 with (fail)
  have hw4 : WN (w3.setCell ⟨g, 7, none⟩ (.int .i64 (since + 1))) g cable AX nx cx AY ny cy AV nv cv charge ⟨len, wt, since + 1, cyc, false, tch⟩ y1 y2 := (block_setCell (o := 7) _ HW3.out).trans (by rfl)
  have HK4 := Lib.hid (HK3.out.setCell 7 (.int .i64 (since + 1)))
  have r0' := HK4.out
  have m1 : (w3.setCell ⟨g, 7, none⟩ (.int .i64 (since + 1))).cell? ⟨w.heap.size, 1, none⟩ = some (.int .i64 n) := ((Kept.refl g w3).setCell 7 (.int .i64 (since + 1))).cell r1 (by omega)
  clear r0' HK3 r0 r1 HW3 c5 c6 c7 c8 c9 c12 f5 f6 f7 f8 f9 f12 hg3
  generalize w3.setCell _ _ = w4 at *
  have d5 := cellOf (o := 5) hw4 rfl
  have f5 := freeOf (o := 5) hw4
  have hg4 := hw4.lt
  obtain ⟨Q, hQ⟩ : ∃ q9 : Nat → Value → World → Prop, q9 = QG [some (.pointer (some ⟨g, 0, none⟩)), some (.pointer (some ⟨g, 0, none⟩)), some (.pointer (some ⟨g, 5, none⟩)), some (.pointer (some ⟨g, 5, none⟩)), some (.int .i64 len), some (.pointer (some ⟨w.heap.size, 1, none⟩)), some (.int .i64 n), some (.int .i64 (len - n)), some (.pointer (some ⟨g, 0, none⟩)), some (.pointer (some ⟨g, 5, none⟩)), some (.pointer (some ⟨g, 5, none⟩)), none] (fun _ _ _ => True) := ⟨_, rfl⟩
  have hst : Stays Q := by rw [hQ]; exact QG.stays (fun _ _ _ _ _ _ => trivial)
  have HQ := Lib.hid hQ
  clear hQ
  obtain ⟨fX, hfX⟩ : ∃ f9 : World → World, f9 = (fun y => (y.setCell ⟨g, 5, none⟩ (.int .i64 (len - n)))) := ⟨_, rfl⟩
  have HfX := Lib.hid hfX
  clear hfX
  refine wpIn_wide.1 (region_inv2 (n := 9) (by kernel_rfl) (RT Q w4 11 fX) (by kernel_rfl) rfl (RT.start _ _ _ _ _) ?hstep ?hend)
  case hstep =>
    intro i' o ho val L b' x hF hR hpre hl
    match i', ho with
    | 0, ho =>
      simp at ho; subst ho; refine step_plain rfl ?_; have hN := hF.later hl 11 rfl (e := ⟨0, .phase⟩) (by simp) rfl rfl
      have hR := hR.1 hN
      have e0 := hF.was 0 (by kernel_rfl) rfl; have hgoal := RT.go (f := fX) hR hst HQ 0 rfl (by decide) hN; clear hF hpre hl hR hN; go_simp; exact ⟨_, rfl, hgoal _ _ (Below.refl _ _) rfl⟩
    | 1, ho =>
      simp at ho; subst ho; refine step_plain rfl ?_; have hN := hF.later hl 11 rfl (e := ⟨1, .phase⟩) (by simp) rfl rfl
      have hR := hR.1 hN
      have e42 := hF.gv hR.2 HQ 0 rfl (hpre ⟨0, .data⟩ (by simp) rfl) rfl; have hgoal := RT.go (f := fX) hR hst HQ 1 rfl (by decide) hN; clear hF hpre hl hR hN; go_simp; exact ⟨_, rfl, hgoal _ _ (Below.refl _ _) rfl⟩
    | 2, ho =>
      simp at ho; subst ho; refine step_plain rfl ?_; have hN := hF.later hl 11 rfl (e := ⟨2, .phase⟩) (by simp) rfl rfl
      have hR := hR.1 hN
      have e43 := hF.gv hR.2 HQ 1 rfl (hpre ⟨1, .data⟩ (by simp) rfl) rfl; have hgoal := RT.go (f := fX) hR hst HQ 2 rfl (by decide) hN; clear hF hpre hl hR hN; go_simp; exact ⟨_, rfl, hgoal _ _ (Below.refl _ _) rfl⟩
    | 3, ho =>
      simp at ho; subst ho; refine step_plain rfl ?_; have hN := hF.later hl 11 rfl (e := ⟨3, .phase⟩) (by simp) rfl rfl
      have hR := hR.1 hN
      have e44 := hF.gv hR.2 HQ 2 rfl (hpre ⟨2, .data⟩ (by simp) rfl) rfl; have hgoal := RT.go (f := fX) hR hst HQ 3 rfl (by decide) hN; clear hF hpre hl hR hN; go_simp; exact ⟨_, rfl, hgoal _ _ (Below.refl _ _) rfl⟩
    | 4, ho =>
      simp at ho; subst ho; refine step_plain rfl ?_; have hN := hF.later hl 11 rfl (e := ⟨4, .phase⟩) (by simp) rfl rfl
      have hR := hR.1 hN
      have e45 := hF.gv hR.2 HQ 3 rfl (hpre ⟨3, .data⟩ (by simp) rfl) rfl; have hgoal := RT.go (f := fX) hR hst HQ 4 rfl (by decide) hN; have q0 := cell_keep hR.1 d5; clear hF hpre hl hR hN; go_simp; exact ⟨_, rfl, hgoal _ _ (Below.refl _ _) rfl⟩
    | 5, ho =>
      simp at ho; subst ho; refine step_plain rfl ?_; have hN := hF.later hl 11 rfl (e := ⟨5, .phase⟩) (by simp) rfl rfl
      have hR := hR.1 hN
      have e3 := hF.was 3 (by kernel_rfl) rfl; have hgoal := RT.go (f := fX) hR hst HQ 5 rfl (by decide) hN; clear hF hpre hl hR hN; go_simp; exact ⟨_, rfl, hgoal _ _ (Below.refl _ _) rfl⟩
    | 6, ho =>
      simp at ho; subst ho; refine step_plain rfl ?_; have hN := hF.later hl 11 rfl (e := ⟨6, .phase⟩) (by simp) rfl rfl
      have hR := hR.1 hN
      have e47 := hF.gv hR.2 HQ 5 rfl (hpre ⟨5, .data⟩ (by simp) rfl) rfl; have hgoal := RT.go (f := fX) hR hst HQ 6 rfl (by decide) hN; have q0 := cell_keep hR.1 m1; clear hF hpre hl hR hN; go_simp; exact ⟨_, rfl, hgoal _ _ (Below.refl _ _) rfl⟩
    | 7, ho =>
      simp at ho; subst ho; refine step_plain rfl ?_; have hN := hF.later hl 11 rfl (e := ⟨7, .phase⟩) (by simp) rfl rfl
      have hR := hR.1 hN
      have e46 := hF.gv hR.2 HQ 4 rfl (hpre ⟨4, .data⟩ (by simp) rfl) rfl; have e48 := hF.gv hR.2 HQ 6 rfl (hpre ⟨6, .data⟩ (by simp) rfl) rfl; have hgoal := RT.go (f := fX) hR hst HQ 7 rfl (by decide) hN; clear hF hpre hl hR hN; go_simp; exact ⟨_, rfl, hgoal _ _ (Below.refl _ _) rfl⟩
    | 8, ho =>
      simp at ho; subst ho; refine step_plain rfl ?_
      have hl9 := hF.later hl 9 rfl (e := ⟨8, .data⟩) (by simp) rfl rfl
      have hl10 := hF.back hl9 10 rfl (by decide) (e := ⟨9, .data⟩) (by simp) rfl rfl
      clear hl9
      have hN := hF.back hl10 11 rfl (by decide) (e := ⟨10, .data⟩) (by simp) rfl rfl
      clear hl10
      have hR := hR.1 hN
      have e42 := hF.gv hR.2 HQ 0 rfl (hpre ⟨0, .data⟩ (by simp) rfl) rfl; have hgoal := RT.go (f := fX) hR hst HQ 8 rfl (by decide) hN; clear hF hpre hl hR hN; go_simp; exact ⟨_, rfl, hgoal _ _ (Below.refl _ _) rfl⟩
    | 9, ho =>
      simp at ho; subst ho; refine step_plain rfl ?_
      have hl10 := hF.later hl 10 rfl (e := ⟨9, .data⟩) (by simp) rfl rfl
      have hN := hF.back hl10 11 rfl (by decide) (e := ⟨10, .data⟩) (by simp) rfl rfl
      clear hl10
      have hR := hR.1 hN
      have e50 := hF.gv hR.2 HQ 8 rfl (hpre ⟨8, .data⟩ (by simp) rfl) rfl; have hgoal := RT.go (f := fX) hR hst HQ 9 rfl (by decide) hN; clear hF hpre hl hR hN; go_simp; exact ⟨_, rfl, hgoal _ _ (Below.refl _ _) rfl⟩
    | 10, ho =>
      simp at ho; subst ho; refine step_plain rfl ?_; have hN := hF.later hl 11 rfl (e := ⟨10, .data⟩) (by simp) rfl rfl
      have hR := hR.1 hN
      have e51 := hF.gv hR.2 HQ 9 rfl (hpre ⟨9, .data⟩ (by simp) rfl) rfl; have hgoal := RT.go (f := fX) hR hst HQ 10 rfl (by decide) hN; clear hF hpre hl hR hN; go_simp; exact ⟨_, rfl, hgoal _ _ (Below.refl _ _) rfl⟩
    | 11, ho =>
      simp at ho; subst ho; refine step_plain rfl ?_; have hN := hF.none2 hl (by decide)
      have hls : 11 < L.size := by rw [hF.lsize]; decide
      have hR := hR.1 hN
      have e52 := hF.gv hR.2 HQ 10 rfl (hpre ⟨10, .data⟩ (by simp) rfl) rfl; have e49 := hF.gv hR.2 HQ 7 rfl (hpre ⟨7, .data⟩ (by simp) rfl) rfl
      have qb := (hR.1.block (g) (lt_of_block hw4)).trans hw4
      have g0 := cellOf (o := 5) qb rfl; have f0 := freeOf (o := 5) qb; have hgoal := RT.store (f := fX) (v := undef) hR hls
      have hq := lt_of_block qb
      have HG := Lib.hid hgoal
      clear hF hpre hl hR hls hN qb hgoal; go_simp
      exact ⟨undef, by have h9 := HG.out; rw [HfX.out] at h9 ⊢; exact h9⟩
    | i + 12, ho => simp at ho
  case hend =>
    intro val L b' x hF hall hR
    have e := hF.all (by kernel_rfl) hall
    obtain ⟨y, hy, ey, hq⟩ := hR.done (hall 11 (by decide))
    rw [HfX.out] at ey; dsimp only at ey
    have bk := (block_setCell (o := 5) (.int .i64 (len - n)) ((hy.block (g) (lt_of_block hw4)).trans hw4))
    rw [← ey] at bk
    have hX := Lib.hid (fun n9 w9 (h9 : Below n9 w9 w4) (hn9 : n9 ≤ g) => show Below n9 w9 x by rw [ey]; exact ((h9.trans (hy.mono (by have := lt_of_block hw4; omega))).setCell (p := ⟨g, 5, none⟩) hn9 (.int .i64 (len - n))))
    have hK := Lib.hid (show Kept g w4 x by rw [ey]; exact ((Kept.of hy (Nat.le_of_lt (lt_of_block hw4))).setCell 5 (.int .i64 (len - n))))
    clear hF hall hR hst HfX hq hy ey HQ 
    subst e
    simp [final, dstOf, List.range, List.range.loop]
    go_wp2
    go_ret
    exact ⟨rfl, bk, HK4.out.trans hK.out⟩

set_option maxRecDepth 100000 in
set_option maxHeartbeats 4000000 in
theorem does3 (ht : HT w B AX AY AV nx ny nv X Y V) (h : WN w g cable AX nx cx AY ny cy AV nv cv charge ⟨len, wt, since, cyc, false, tch⟩ y1 y2) (z0 : 0 ≤ len) (z1 : len ≤ cable) (z2 : cable ≤ 100) (s0 : 0 ≤ since) (s1 : since ≤ 1000) (q0 : 0 ≤ cyc) (q1 : cyc ≤ 1000) (hp : posB (fun l u => carB X Y V l l y1 y2 u) cable charge ⟨len, wt, since, cyc, false, tch⟩ 3 n = true) :
    Calls Try.prog 80 #[.pointer (some ⟨g, 0, none⟩), .agg #[.int .i64 3, .int .i64 n]] w (GivesW g cable charge y1 y2 AX AY AV nx cx ny cy nv cv w true (plS ⟨len, wt, since, cyc, false, tch⟩ 3 n)) := by
  have HW := Lib.hid h
  have L0 := Lib.hid (show (w.alloc (.cells #[.int .i64 3, .int .i64 n] 82)).cell? ⟨w.heap.size, 0, none⟩ = some (.int .i64 3) by rw [cell_newest]; rfl)
  have L1 := Lib.hid (show (w.alloc (.cells #[.int .i64 3, .int .i64 n] 82)).cell? ⟨w.heap.size, 1, none⟩ = some (.int .i64 n) by rw [cell_newest]; rfl)
  have HPO := Lib.hid (fun (W : World) (hW : Below w.heap.size w W) => possible_any g cable charge y1 y2 len wt since cyc false tch 3 n AX AY AV nx cx ny cy nv cv B X Y V W (ht.below hW) (h.stay hW) z0 z1 z2)
  rw [hp] at HPO
  have hg := h.lt
  have c9 := cellOf (o := 9) h rfl
  have hn : posB (fun l u => carB X Y V l l y1 y2 u) cable charge ⟨len, wt, since, cyc, false, tch⟩ 3 n = true := hp
  unfold posB at hn
  simp at hn
  have i7 : IntKind.i64.wrap (since + 1) = since + 1 := IntWalk.i64_in _ (by omega)
  have i8 : IntKind.i64.wrap (cyc + 1) = cyc + 1 := IntWalk.i64_in _ (by omega)
  clear h ht hp hn
  go_enter Try.func80, Try.ntmps80
  go_upto_region 3 with (go_at_call 110; refine Calls.mono (HPO.out _ ((Below.refl _ _).alloc (Nat.le_refl _) _)) ?_; rintro e w3 ⟨rfl, hb3⟩; have r0 := cell_keep hb3 L0.out; have r1 := cell_keep hb3 L1.out; have hw3 : WN w3 g cable AX nx cx AY ny cy AV nv cv charge ⟨len, wt, since, cyc, false, tch⟩ y1 y2 := (HW.out.stay ((Below.refl _ _).alloc (Nat.le_refl _) _)).stay hb3; have hk3 : Kept g w w3 := (Kept.of ((Below.refl _ _).alloc (Nat.le_refl _) _) (Nat.le_of_lt HW.out.lt)).trans (Kept.of hb3 (Nat.le_of_lt (HW.out.stay ((Below.refl _ _).alloc (Nat.le_refl _) _)).lt)); clear hb3)
  have HW3 := Lib.hid hw3
  have HK3 := Lib.hid hk3
  have hg3 := hw3.lt
  have c5 := cellOf (o := 5) hw3 rfl
  have f5 := freeOf (o := 5) hw3
  have c6 := cellOf (o := 6) hw3 rfl
  have f6 := freeOf (o := 6) hw3
  have c7 := cellOf (o := 7) hw3 rfl
  have f7 := freeOf (o := 7) hw3
  have c8 := cellOf (o := 8) hw3 rfl
  have f8 := freeOf (o := 8) hw3
  have c9 := cellOf (o := 9) hw3 rfl
  have f9 := freeOf (o := 9) hw3
  have c12 := cellOf (o := 12) hw3 rfl
  have f12 := freeOf (o := 12) hw3
  clear hw3 hk3
  go_wp2
  go_ret
  exact ⟨rfl, (block_setCell _ (block_setCell _ (block_setCell _ HW3.out))).trans (by rfl), (((HK3.out.setCell 7 _).setCell 7 _).setCell 12 _)⟩

set_option maxRecDepth 100000 in
set_option maxHeartbeats 4000000 in
theorem does4 (ht : HT w B AX AY AV nx ny nv X Y V) (h : WN w g cable AX nx cx AY ny cy AV nv cv charge ⟨len, wt, since, cyc, false, tch⟩ y1 y2) (z0 : 0 ≤ len) (z1 : len ≤ cable) (z2 : cable ≤ 100) (s0 : 0 ≤ since) (s1 : since ≤ 1000) (q0 : 0 ≤ cyc) (q1 : cyc ≤ 1000) (hp : posB (fun l u => carB X Y V l l y1 y2 u) cable charge ⟨len, wt, since, cyc, false, tch⟩ 4 n = true) :
    Calls Try.prog 80 #[.pointer (some ⟨g, 0, none⟩), .agg #[.int .i64 4, .int .i64 n]] w (GivesW g cable charge y1 y2 AX AY AV nx cx ny cy nv cv w true (plS ⟨len, wt, since, cyc, false, tch⟩ 4 n)) := by
  have HW := Lib.hid h
  have L0 := Lib.hid (show (w.alloc (.cells #[.int .i64 4, .int .i64 n] 82)).cell? ⟨w.heap.size, 0, none⟩ = some (.int .i64 4) by rw [cell_newest]; rfl)
  have L1 := Lib.hid (show (w.alloc (.cells #[.int .i64 4, .int .i64 n] 82)).cell? ⟨w.heap.size, 1, none⟩ = some (.int .i64 n) by rw [cell_newest]; rfl)
  have HPO := Lib.hid (fun (W : World) (hW : Below w.heap.size w W) => possible_any g cable charge y1 y2 len wt since cyc false tch 4 n AX AY AV nx cx ny cy nv cv B X Y V W (ht.below hW) (h.stay hW) z0 z1 z2)
  rw [hp] at HPO
  have hg := h.lt
  have c9 := cellOf (o := 9) h rfl
  have hn : posB (fun l u => carB X Y V l l y1 y2 u) cable charge ⟨len, wt, since, cyc, false, tch⟩ 4 n = true := hp
  unfold posB at hn
  simp at hn
  have i7 : IntKind.i64.wrap (since + 1) = since + 1 := IntWalk.i64_in _ (by omega)
  have i8 : IntKind.i64.wrap (cyc + 1) = cyc + 1 := IntWalk.i64_in _ (by omega)
  clear h ht hp hn
  go_enter Try.func80, Try.ntmps80
  go_upto_region 3 with (go_at_call 110; refine Calls.mono (HPO.out _ ((Below.refl _ _).alloc (Nat.le_refl _) _)) ?_; rintro e w3 ⟨rfl, hb3⟩; have r0 := cell_keep hb3 L0.out; have r1 := cell_keep hb3 L1.out; have hw3 : WN w3 g cable AX nx cx AY ny cy AV nv cv charge ⟨len, wt, since, cyc, false, tch⟩ y1 y2 := (HW.out.stay ((Below.refl _ _).alloc (Nat.le_refl _) _)).stay hb3; have hk3 : Kept g w w3 := (Kept.of ((Below.refl _ _).alloc (Nat.le_refl _) _) (Nat.le_of_lt HW.out.lt)).trans (Kept.of hb3 (Nat.le_of_lt (HW.out.stay ((Below.refl _ _).alloc (Nat.le_refl _) _)).lt)); clear hb3)
  have HW3 := Lib.hid hw3
  have HK3 := Lib.hid hk3
  have hg3 := hw3.lt
  have c5 := cellOf (o := 5) hw3 rfl
  have f5 := freeOf (o := 5) hw3
  have c6 := cellOf (o := 6) hw3 rfl
  have f6 := freeOf (o := 6) hw3
  have c7 := cellOf (o := 7) hw3 rfl
  have f7 := freeOf (o := 7) hw3
  have c8 := cellOf (o := 8) hw3 rfl
  have f8 := freeOf (o := 8) hw3
  have c9 := cellOf (o := 9) hw3 rfl
  have f9 := freeOf (o := 9) hw3
  have c12 := cellOf (o := 12) hw3 rfl
  have f12 := freeOf (o := 12) hw3
  clear hw3 hk3
  go_wp2
  go_ret
  exact ⟨rfl, (block_setCell _ (block_setCell _ HW3.out)).trans (by rfl), ((HK3.out.setCell 7 _).setCell 6 _)⟩

set_option maxRecDepth 100000 in
set_option maxHeartbeats 4000000 in
theorem does5 (ht : HT w B AX AY AV nx ny nv X Y V) (h : WN w g cable AX nx cx AY ny cy AV nv cv charge ⟨len, wt, since, cyc, false, tch⟩ y1 y2) (z0 : 0 ≤ len) (z1 : len ≤ cable) (z2 : cable ≤ 100) (s0 : 0 ≤ since) (s1 : since ≤ 1000) (q0 : 0 ≤ cyc) (q1 : cyc ≤ 1000) (hp : posB (fun l u => carB X Y V l l y1 y2 u) cable charge ⟨len, wt, since, cyc, false, tch⟩ 5 n = true) :
    Calls Try.prog 80 #[.pointer (some ⟨g, 0, none⟩), .agg #[.int .i64 5, .int .i64 n]] w (GivesW g cable charge y1 y2 AX AY AV nx cx ny cy nv cv w true (plS ⟨len, wt, since, cyc, false, tch⟩ 5 n)) := by
  have HW := Lib.hid h
  have L0 := Lib.hid (show (w.alloc (.cells #[.int .i64 5, .int .i64 n] 82)).cell? ⟨w.heap.size, 0, none⟩ = some (.int .i64 5) by rw [cell_newest]; rfl)
  have L1 := Lib.hid (show (w.alloc (.cells #[.int .i64 5, .int .i64 n] 82)).cell? ⟨w.heap.size, 1, none⟩ = some (.int .i64 n) by rw [cell_newest]; rfl)
  have HPO := Lib.hid (fun (W : World) (hW : Below w.heap.size w W) => possible_any g cable charge y1 y2 len wt since cyc false tch 5 n AX AY AV nx cx ny cy nv cv B X Y V W (ht.below hW) (h.stay hW) z0 z1 z2)
  rw [hp] at HPO
  have hg := h.lt
  have c9 := cellOf (o := 9) h rfl
  have hn : posB (fun l u => carB X Y V l l y1 y2 u) cable charge ⟨len, wt, since, cyc, false, tch⟩ 5 n = true := hp
  unfold posB at hn
  simp at hn
  have i7 : IntKind.i64.wrap (since + 1) = since + 1 := IntWalk.i64_in _ (by omega)
  have i8 : IntKind.i64.wrap (cyc + 1) = cyc + 1 := IntWalk.i64_in _ (by omega)
  clear h ht hp hn
  go_enter Try.func80, Try.ntmps80
  go_upto_region 3 with (go_at_call 110; refine Calls.mono (HPO.out _ ((Below.refl _ _).alloc (Nat.le_refl _) _)) ?_; rintro e w3 ⟨rfl, hb3⟩; have r0 := cell_keep hb3 L0.out; have r1 := cell_keep hb3 L1.out; have hw3 : WN w3 g cable AX nx cx AY ny cy AV nv cv charge ⟨len, wt, since, cyc, false, tch⟩ y1 y2 := (HW.out.stay ((Below.refl _ _).alloc (Nat.le_refl _) _)).stay hb3; have hk3 : Kept g w w3 := (Kept.of ((Below.refl _ _).alloc (Nat.le_refl _) _) (Nat.le_of_lt HW.out.lt)).trans (Kept.of hb3 (Nat.le_of_lt (HW.out.stay ((Below.refl _ _).alloc (Nat.le_refl _) _)).lt)); clear hb3)
  have HW3 := Lib.hid hw3
  have HK3 := Lib.hid hk3
  have hg3 := hw3.lt
  have c5 := cellOf (o := 5) hw3 rfl
  have f5 := freeOf (o := 5) hw3
  have c6 := cellOf (o := 6) hw3 rfl
  have f6 := freeOf (o := 6) hw3
  have c7 := cellOf (o := 7) hw3 rfl
  have f7 := freeOf (o := 7) hw3
  have c8 := cellOf (o := 8) hw3 rfl
  have f8 := freeOf (o := 8) hw3
  have c9 := cellOf (o := 9) hw3 rfl
  have f9 := freeOf (o := 9) hw3
  have c12 := cellOf (o := 12) hw3 rfl
  have f12 := freeOf (o := 12) hw3
  clear hw3 hk3
  go_wp2
  go_ret
  exact ⟨rfl, (block_setCell _ (block_setCell _ (block_setCell _ HW3.out))).trans (by rfl), (((HK3.out.setCell 7 _).setCell 6 _).setCell 8 _)⟩

set_option maxRecDepth 100000 in
set_option maxHeartbeats 4000000 in
theorem does6 (ht : HT w B AX AY AV nx ny nv X Y V) (h : WN w g cable AX nx cx AY ny cy AV nv cv charge ⟨len, wt, since, cyc, false, tch⟩ y1 y2) (z0 : 0 ≤ len) (z1 : len ≤ cable) (z2 : cable ≤ 100) (s0 : 0 ≤ since) (s1 : since ≤ 1000) (q0 : 0 ≤ cyc) (q1 : cyc ≤ 1000) (hp : posB (fun l u => carB X Y V l l y1 y2 u) cable charge ⟨len, wt, since, cyc, false, tch⟩ 6 n = true) :
    Calls Try.prog 80 #[.pointer (some ⟨g, 0, none⟩), .agg #[.int .i64 6, .int .i64 n]] w (GivesW g cable charge y1 y2 AX AY AV nx cx ny cy nv cv w true (plS ⟨len, wt, since, cyc, false, tch⟩ 6 n)) := by
  have HW := Lib.hid h
  have L0 := Lib.hid (show (w.alloc (.cells #[.int .i64 6, .int .i64 n] 82)).cell? ⟨w.heap.size, 0, none⟩ = some (.int .i64 6) by rw [cell_newest]; rfl)
  have L1 := Lib.hid (show (w.alloc (.cells #[.int .i64 6, .int .i64 n] 82)).cell? ⟨w.heap.size, 1, none⟩ = some (.int .i64 n) by rw [cell_newest]; rfl)
  have HPO := Lib.hid (fun (W : World) (hW : Below w.heap.size w W) => possible_any g cable charge y1 y2 len wt since cyc false tch 6 n AX AY AV nx cx ny cy nv cv B X Y V W (ht.below hW) (h.stay hW) z0 z1 z2)
  rw [hp] at HPO
  have hg := h.lt
  have c9 := cellOf (o := 9) h rfl
  have hn : posB (fun l u => carB X Y V l l y1 y2 u) cable charge ⟨len, wt, since, cyc, false, tch⟩ 6 n = true := hp
  unfold posB at hn
  simp at hn
  have i7 : IntKind.i64.wrap (since + 1) = since + 1 := IntWalk.i64_in _ (by omega)
  have i8 : IntKind.i64.wrap (cyc + 1) = cyc + 1 := IntWalk.i64_in _ (by omega)
  clear h ht hp hn
  go_enter Try.func80, Try.ntmps80
  go_upto_region 3 with (go_at_call 110; refine Calls.mono (HPO.out _ ((Below.refl _ _).alloc (Nat.le_refl _) _)) ?_; rintro e w3 ⟨rfl, hb3⟩; have r0 := cell_keep hb3 L0.out; have r1 := cell_keep hb3 L1.out; have hw3 : WN w3 g cable AX nx cx AY ny cy AV nv cv charge ⟨len, wt, since, cyc, false, tch⟩ y1 y2 := (HW.out.stay ((Below.refl _ _).alloc (Nat.le_refl _) _)).stay hb3; have hk3 : Kept g w w3 := (Kept.of ((Below.refl _ _).alloc (Nat.le_refl _) _) (Nat.le_of_lt HW.out.lt)).trans (Kept.of hb3 (Nat.le_of_lt (HW.out.stay ((Below.refl _ _).alloc (Nat.le_refl _) _)).lt)); clear hb3)
  have HW3 := Lib.hid hw3
  have HK3 := Lib.hid hk3
  have hg3 := hw3.lt
  have c5 := cellOf (o := 5) hw3 rfl
  have f5 := freeOf (o := 5) hw3
  have c6 := cellOf (o := 6) hw3 rfl
  have f6 := freeOf (o := 6) hw3
  have c7 := cellOf (o := 7) hw3 rfl
  have f7 := freeOf (o := 7) hw3
  have c8 := cellOf (o := 8) hw3 rfl
  have f8 := freeOf (o := 8) hw3
  have c9 := cellOf (o := 9) hw3 rfl
  have f9 := freeOf (o := 9) hw3
  have c12 := cellOf (o := 12) hw3 rfl
  have f12 := freeOf (o := 12) hw3
  clear hw3 hk3
  go_wp2
  go_ret
  exact ⟨rfl, (block_setCell _ (block_setCell _ (block_setCell _ (block_setCell _ HW3.out)))).trans (by rfl), ((((HK3.out.setCell 7 _).setCell 5 _).setCell 6 _).setCell 9 _)⟩

theorem does_any (s : HG) (ht : HT w B AX AY AV nx ny nv X Y V) (h : WN w g cable AX nx cx AY ny cy AV nv cv charge s y1 y2) (z0 : 0 ≤ s.len) (z1 : s.len ≤ cable) (z2 : cable ≤ 100) (s0 : 0 ≤ s.since) (s1 : s.since ≤ 1000) (q0 : 0 ≤ s.cyc) (q1 : s.cyc ≤ 1000) :
    Calls Try.prog 80 #[.pointer (some ⟨g, 0, none⟩), .agg #[.int .i64 k, .int .i64 n]] w (GivesW g cable charge y1 y2 AX AY AV nx cx ny cy nv cv w (doB (fun l u => carB X Y V l l y1 y2 u) cable charge s k n) (if doB (fun l u => carB X Y V l l y1 y2 u) cable charge s k n then plS s k n else s)) := by
  obtain ⟨len, wt, since, cyc, cut, tch⟩ := s
  unfold doB
  cases cut with
  | true => exact does_cut g cable charge y1 y2 len wt since cyc tch k n AX AY AV nx cx ny cy nv cv B X Y V w ht h z0 z1 z2 s0 s1 q0 q1
  | false =>
    simp only [Bool.not_false, Bool.true_and]
    cases hp : posB (fun l u => carB X Y V l l y1 y2 u) cable charge ⟨len, wt, since, cyc, false, tch⟩ k n with
    | false => exact does_no g cable charge y1 y2 len wt since cyc tch k n AX AY AV nx cx ny cy nv cv B X Y V w ht h z0 z1 z2 s0 s1 q0 q1 hp
    | true =>
      simp only [if_true]
      by_cases k1 : k = 1
      · subst k1; exact does1 g cable charge y1 y2 len wt since cyc tch n AX AY AV nx cx ny cy nv cv B X Y V w ht h z0 z1 z2 s0 s1 q0 q1 hp
      by_cases k2 : k = 2
      · subst k2; exact does2 g cable charge y1 y2 len wt since cyc tch n AX AY AV nx cx ny cy nv cv B X Y V w ht h z0 z1 z2 s0 s1 q0 q1 hp
      by_cases k3 : k = 3
      · subst k3; exact does3 g cable charge y1 y2 len wt since cyc tch n AX AY AV nx cx ny cy nv cv B X Y V w ht h z0 z1 z2 s0 s1 q0 q1 hp
      by_cases k4 : k = 4
      · subst k4; exact does4 g cable charge y1 y2 len wt since cyc tch n AX AY AV nx cx ny cy nv cv B X Y V w ht h z0 z1 z2 s0 s1 q0 q1 hp
      by_cases k5 : k = 5
      · subst k5; exact does5 g cable charge y1 y2 len wt since cyc tch n AX AY AV nx cx ny cy nv cv B X Y V w ht h z0 z1 z2 s0 s1 q0 q1 hp
      by_cases k6 : k = 6
      · subst k6; exact does6 g cable charge y1 y2 len wt since cyc tch n AX AY AV nx cx ny cy nv cv B X Y V w ht h z0 z1 z2 s0 s1 q0 q1 hp
      unfold posB at hp
      simp [k1, k2, k3, k4, k5, k6] at hp
end
end Go.Proofs.Ytnnmmojlgikdgaa

/- The winch plays steps until one is not possible. -/
namespace Go.Proofs.Ytnnmmojlgikdgaa
open Go.RowKit

theorem hauR_step {p : HG → Int → Int → Bool} {L : List (Int × Int)} {j : Nat} {x : Int × Int} {s : HG} (h : L[j]? = some x) : hauR p (L.drop j) s j = if p s x.1 x.2 then hauR p (L.drop (j + 1)) (plS s x.1 x.2) ((j + 1 : Nat) : Int) else (s, (j : Int)) := by
  have hl : j < L.length := by
    rw [List.getElem?_eq_some_iff] at h
    exact h.1
  have e : L.drop j = x :: L.drop (j + 1) := by
    rw [List.drop_eq_getElem_cons hl]
    rw [List.getElem?_eq_getElem hl] at h
    injection h with h
    rw [h]
  rw [e]
  obtain ⟨a, b⟩ := x
  simp [hauR]
theorem doB_pos {car : Int → Int → Bool} {cable charge : Int} {s : HG} {k n : Int} (h : doB car cable charge s k n = true) : posB car cable charge s k n = true := by
  unfold doB at h
  simp at h
  exact h.2

section
variable (g q : Nat) (cable charge y1 y2 : Int) (k n : Int) (AX AY AV : Option Addr) (nx cx ny cy nv cv B : Nat) (X Y : List Int) (V : List (List Int)) (w : World)

set_option maxRecDepth 100000 in
theorem haul1_any (m : Nat) (hm : m ≤ 1000) (s : HG) (ht : HT w B AX AY AV nx ny nv X Y V) (h : WN w g cable AX nx cx AY ny cy AV nv cv charge s y1 y2) (hq : w.cell? ⟨q, 0, none⟩ = some (.pointer (some ⟨g, 0, none⟩))) (hG : GD cable m s) (z2 : cable ≤ 100) :
    Calls Try.prog 79 #[.agg #[.int .i64 k, .int .i64 n], .pointer (some ⟨q, 0, none⟩)] w (GivesW g cable charge y1 y2 AX AY AV nx cx ny cy nv cv w (!doB (fun l u => carB X Y V l l y1 y2 u) cable charge s k n) (if doB (fun l u => carB X Y V l l y1 y2 u) cable charge s k n then plS s k n else s)) := by
  have hl := World.block_lt_of_cell? _ _ hq
  have hW1 : WN (w.alloc (.cells #[.int .i64 k, .int .i64 n] 82)) g cable AX nx cx AY ny cy AV nv cv charge s y1 y2 := h.stay ((Below.refl _ _).alloc (Nat.le_refl _) _)
  have HK1 := Lib.hid (Kept.of ((Below.refl w.heap.size w).alloc (Nat.le_refl _) (.cells #[.int .i64 k, .int .i64 n] 82)) (Nat.le_of_lt h.lt))
  have HD := Lib.hid (does_any g cable charge y1 y2 k n AX AY AV nx cx ny cy nv cv B X Y V (w.alloc (.cells #[.int .i64 k, .int .i64 n] 82)) s (ht.below ((Below.refl _ _).alloc (Nat.le_refl _) _)) hW1 hG.l0 hG.l1 z2 hG.s0 (by have := hG.s1; omega) hG.c0 (by have := hG.c1; omega))
  generalize doB (fun l u => carB X Y V l l y1 y2 u) cable charge s k n = d at *
  generalize (if d = true then plS s k n else s) = s' at *
  have hq1 : (w.alloc (.cells #[.int .i64 k, .int .i64 n] 82)).cell? ⟨q, 0, none⟩ = some (.pointer (some ⟨g, 0, none⟩)) := cell_keep ((Below.refl _ _).alloc (Nat.le_refl _) _) hq
  clear h ht hW1 hG
  go_enter Try.func79, Try.ntmps79
  go_wp2_with (go_at_call 80; refine Calls.mono HD.out ?_; rintro e w3 ⟨rfl, hw3, hk3⟩; have HW3 := Lib.hid hw3; have HK3 := Lib.hid hk3; clear hw3 hk3)
  go_ret
  exact ⟨ret_bool (by simp), HW3.out, HK1.out.trans HK3.out⟩

set_option maxRecDepth 100000 in
set_option maxHeartbeats 1000000 in
theorem indexFunc_any (A : Option Addr) (na c : Nat) (L : List (Int × Int)) (s0 : HG) (hL : L.length = na) (hn : na ≤ 100) (hr : RS w B A L) (hBg : B ≤ g) (hqg : q ≠ g) (ht : HT w B AX AY AV nx ny nv X Y V) (h : WN w g cable AX nx cx AY ny cy AV nv cv charge s0 y1 y2) (hq : w.cell? ⟨q, 0, none⟩ = some (.pointer (some ⟨g, 0, none⟩))) (hG : GD cable 0 s0) (z1 : 0 ≤ cable) (z2 : cable ≤ 100) :
    Calls Try.prog 78 #[.slice A na c, .func (.func 79) #[] #[.pointer (some ⟨q, 0, none⟩)]] w fun e w' =>
      e = .returned (.int .i64 (hauR (doB (fun l u => carB X Y V l l y1 y2 u) cable charge) L s0 0).2) ∧ WN w' g cable AX nx cx AY ny cy AV nv cv charge (hauR (doB (fun l u => carB X Y V l l y1 y2 u) cable charge) L s0 0).1 y1 y2 ∧ Kept g w w' := by
  subst hL
  have hcar : ∀ s k n, doB (fun l u => carB X Y V l l y1 y2 u) cable charge s k n = true → posB (fun l u => carB X Y V l l y1 y2 u) cable charge s k n = true := fun s k n h => doB_pos h
  have HC1 := Lib.hid (fun (W : World) (hW : Kept g w W) (m : Nat) (hm : m ≤ 1000) (s : HG) (k n : Int) (h : WN W g cable AX nx cx AY ny cy AV nv cv charge s y1 y2) (hG : GD cable m s) => haul1_any g q cable charge y1 y2 k n AX AY AV nx cx ny cy nv cv B X Y V W m hm s (hW.ht hBg ht) h (hW.cell hq hqg) hG z2)
  obtain ⟨P, hP⟩ : ∃ P, doB (fun l u => carB X Y V l l y1 y2 u) cable charge = P := ⟨_, rfl⟩
  obtain ⟨R, hR⟩ : ∃ R, hauR P L s0 0 = R := ⟨_, rfl⟩
  have HPL := Lib.hid (fun (m : Nat) (s : HG) (k n : Int) (hG : GD cable m s) (hp : P s k n = true) => GD.play hG z1 (hcar s k n (by rw [hP]; exact hp)))
  simp only [hP] at HC1 ⊢
  rw [hR]
  have HR := Lib.hid hR
  have HRS := Lib.hid hr
  have HW0 := Lib.hid h
  have HG0 := Lib.hid hG
  clear hcar hP hR h hr hG ht hq
  have eg : ∀ args W, Sem.run Try.prog (callFunc 79 args) W = Result.ok (Next.enter 79 args) W := Try.call79
  go_enter Try.func78, Try.ntmps78
  go_wp2
  go_loopw [8] (fun i wr => ∃ (j : Nat) (s : HG), j ≤ L.length ∧ i = .int .i64 j ∧ hauR P (L.drop j) s j = R ∧ GD cable j s ∧ WN wr g cable AX nx cx AY ny cy AV nv cv charge s y1 y2 ∧ Kept g w wr) (fun i _ => L.length - (intOf i).toNat)
  case atStart => exact ⟨0, s0, Nat.zero_le _, rfl, by simpa using HR.out, HG0.out, HW0.out, Kept.refl _ _⟩
  case round =>
    obtain ⟨j, s, hj, rfl, hs, hg, hw, hk⟩ := hrel
    by_cases hlt : j < L.length
    · obtain ⟨b, off, x, rfl, hb, hx, hc1, hc2⟩ := (HRS.out.below (hk.low hBg)).at_ hlt
      have hb' : b < wr.heap.size := World.block_lt_of_cell? _ _ hc1
      obtain ⟨x1, x2⟩ := x
      simp only at hc1 hc2
      have hst := hauR_step (p := P) (s := s) hx
      rw [hs] at hst
      have HGJ := Lib.hid hg
      have HK := Lib.hid hk
      have HC := Lib.hid (HC1.out wr hk j (by omega) s x1 x2 hw hg)
      clear hs hg hw hk hx
      simp only at hst
      cases hp : P s x1 x2 with
      | false =>
        rw [hp] at hst HC
        simp only [Bool.false_eq_true, if_false, Bool.not_false] at hst HC
        have HST := Lib.hid hst
        clear hst hp
        go_wp2_with (refine Calls.mono HC.out ?_; rintro e w3 ⟨rfl, hw3, hk3⟩; have HW3 := Lib.hid hw3; have HK3 := Lib.hid hk3; clear hw3 hk3)
        go_ret
        rw [HST.out]
        exact ⟨rfl, HW3.out, HK.out.trans HK3.out⟩
      | true =>
        have hg2 := HPL.out j s x1 x2 HGJ.out hp
        rw [hp] at hst HC
        simp only [if_true, Bool.not_true] at hst HC
        have HST := Lib.hid hst
        have HG2 := Lib.hid hg2
        clear hst hp hg2
        go_wp2_with (refine Calls.mono HC.out ?_; rintro e w3 ⟨rfl, hw3, hk3⟩; have HW3 := Lib.hid hw3; have HK3 := Lib.hid hk3; clear hw3 hk3)
        go_roundw
        case rel => exact ⟨j + 1, plS s x1 x2, by omega, by go_num, HST.out.symm, HG2.out, HW3.out, HK.out.trans HK3.out⟩
        case measure => simp [intOf]; omega
    · have e : j = L.length := by omega
      subst e
      have hs' : R = (s, -1) := by rw [← hs]; simp [hauR]
      have HS := Lib.hid hs'
      have HWr := Lib.hid hw
      have HK := Lib.hid hk
      clear hs hg hw hk hs'
      go_wp2
      go_ret
      rw [HS.out]
      exact ⟨rfl, HWr.out, HK.out⟩
end
end Go.Proofs.Ytnnmmojlgikdgaa

/- Haul. -/
namespace Go.Proofs.Ytnnmmojlgikdgaa
open Go.RowKit

def HA (s : HG) : Value := .agg #[.int .i64 s.len, .int .i64 s.wt, .int .i64 s.since, .int .i64 s.cyc, .bool s.cut]
/-- How a hoist stands, in a box. -/
def HX (W : World) (b : Nat) (s : HG) : Prop := W.heap[b]? = some (.cells #[.int .i64 s.len, .int .i64 s.wt, .int .i64 s.since, .int .i64 s.cyc, .bool s.cut] 61 (0, 0))
section
variable {W W' : World} {b : Nat} {s : HG}
theorem HX.lt (h : HX W b s) : b < W.heap.size := lt_of_block h
theorem HX.stay (h : HX W b s) (hb : Below W.heap.size W W') : HX W' b s := (hb.block b h.lt).trans h
theorem HX.keep {g : Nat} (h : HX W b s) (hb : Kept g W W') (hn : b ≠ g) : HX W' b s := (hb.2 b h.lt hn).trans h
theorem HX.put (h : HX W b s) (a c d e : Int) (f : Bool) : HX (((((W.setCell ⟨b, 0, none⟩ (.int .i64 a)).setCell ⟨b, 1, none⟩ (.int .i64 c)).setCell ⟨b, 2, none⟩ (.int .i64 d)).setCell ⟨b, 3, none⟩ (.int .i64 e)).setCell ⟨b, 4, none⟩ (.bool f)) b ⟨a, c, d, e, f, false⟩ :=
  (block_setCell _ (block_setCell _ (block_setCell _ (block_setCell _ (block_setCell _ h))))).trans (by rfl)
theorem hx_below {W0 : World} {n : Nat} (h : Below n W0 W) (hn : n ≤ b) (v0 v1 v2 v3 v4 : Value) : Below n W0 (((((W.setCell ⟨b, 0, none⟩ v0).setCell ⟨b, 1, none⟩ v1).setCell ⟨b, 2, none⟩ v2).setCell ⟨b, 3, none⟩ v3).setCell ⟨b, 4, none⟩ v4) :=
  ((((h.setCell hn _).setCell hn _).setCell hn _).setCell hn _).setCell hn _
theorem HX.new (W : World) : HX (W.alloc (.cells #[.int .i64 0, .int .i64 0, .int .i64 0, .int .i64 0, .bool false] 61)) W.heap.size zeroH := by show (W.heap.push _)[W.heap.size]? = _; simp [zeroH]
theorem HX.congr {t : HG} (h : HX W b s) (e : HA s = HA t) : HX W b t := by
  unfold HX HA at *
  injection e with e
  rw [← e]
  exact h
end

/-- Haul: how the hoist stands, the step, the error. -/
def hauN (X Y : List Int) (V : List (List Int)) (cable charge y1 y2 : Int) (L : List (Int × Int)) : HG × Int × Int :=
  if hwE X Y V cable charge y1 y2 = 0 then
    if L.length ≤ 100 then
      if osB Y (y1, y2) then
        if 0 ≤ (hauR (doB (fun l u => carB X Y V l l y1 y2 u) cable charge) L zeroH 0).2 then (zeroH, (hauR (doB (fun l u => carB X Y V l l y1 y2 u) cable charge) L zeroH 0).2, 72) else ((hauR (doB (fun l u => carB X Y V l l y1 y2 u) cable charge) L zeroH 0).1, 0, 0)
      else (zeroH, 0, 1)
    else (zeroH, 0, 2)
  else (zeroH, 0, hwE X Y V cable charge y1 y2)
theorem zero_good {cable : Int} (h : 0 ≤ cable) : GD cable 0 zeroH := by constructor <;> simp [zeroH] <;> omega

end Go.Proofs.Ytnnmmojlgikdgaa

/- A drawn region with one store into a box that was there, anywhere among its operations; all other blocks stay. -/
namespace Go.Proofs.Ytnnmmojlgikdgaa
open Go.RowKit

def RK (Q : Nat → Value → World → Prop) (W0 : World) (s q : Nat) (o1 : Obj) (val : Nat → Value) (L : Array Bool) (W : World) : Prop :=
  Kept q W0 W ∧ (∀ j, L.getD j false = true → Q j (val j) W) ∧ (L.getD s false = true → W.heap[q]? = some o1) ∧ (L.getD s false = false → W.heap[q]? = W0.heap[q]?)
section
variable {Q : Nat → Value → World → Prop} {W0 W W' : World} {s q i : Nat} {o1 : Obj} {v : Value} {val : Nat → Value} {L : Array Bool}
theorem RK.start (Q : Nat → Value → World → Prop) (W0 : World) (s q : Nat) (o1 : Obj) (n : Nat) : RK Q W0 s q o1 (fun _ => undef) (Array.replicate n false) W0.drew :=
  ⟨⟨(Below.refl _ _).drew, fun _ _ _ => rfl⟩, fun j h => (by rw [getD_replicate_no] at h; cases h), fun h => (by rw [getD_replicate_no] at h; cases h), fun _ => rfl⟩
theorem RK.vals (h : RK Q W0 s q o1 val L W) (hQ : Still Q) (hq : Q i v W') : ∀ j, (L.setIfInBounds i true).getD j false = true → Q j (upd val i v j) W' := fun j hj => by
  by_cases e : j = i
  · subst e; rw [upd_same]; exact hq
  · rw [upd_other e]
    rw [getD_set_other (fun h => e h.symm)] at hj
    exact hQ _ _ _ _ (h.2.1 j hj)
theorem RK.step (h : RK Q W0 s q o1 val L W) (hQ : Still Q) (hq0 : q < W0.heap.size) (hb : Below W.heap.size W W') (hq : Q i v W') (hs : i ≠ s) : RK Q W0 s q o1 (upd val i v) (L.setIfInBounds i true) W' := by
  have hlt : q < W.heap.size := Nat.lt_of_lt_of_le hq0 h.1.1.size
  refine ⟨h.1.trans (Kept.of hb (Nat.le_of_lt hlt)), h.vals hQ hq, fun hl => ?_, fun hl => ?_⟩
  · rw [getD_set_other hs] at hl
    exact (hb.block q hlt).trans (h.2.2.1 hl)
  · rw [getD_set_other hs] at hl
    exact (hb.block q hlt).trans (h.2.2.2 hl)
theorem RK.store (h : RK Q W0 s q o1 val L W) (hQ : Still Q) (hls : s < L.size) (hk : Kept q W W') (hc : W'.heap[q]? = some o1) (hq : Q s v W') : RK Q W0 s q o1 (upd val s v) (L.setIfInBounds s true) W' :=
  ⟨h.1.trans hk, h.vals hQ hq, fun _ => hc, fun hl => (by rw [getD_set_eq hls] at hl; cases hl)⟩
end
section
variable {Q : Nat → Value → World → Prop} {vals : List (Option Value)} {ex : Nat → Value → World → Prop} {W0 W : World} {s q : Nat} {o1 : Obj} {val : Nat → Value} {L : Array Bool}
theorem RK.go (h : RK Q W0 s q o1 val L W) (hQ : Still Q) (hq0 : q < W0.heap.size) (HQ : Hid (Q = QG vals ex)) (i : Nat) {x : Value} (hx : vals[i]? = some (some x)) (hs : i ≠ s) : ∀ v W', Below W.heap.size W W' → v = x → RK Q W0 s q o1 (upd val i v) (L.setIfInBounds i true) W' :=
  fun _ _ hb e => h.step hQ hq0 hb (QG.put HQ hx e) hs
theorem RK.goT (h : RK Q W0 s q o1 val L W) (hQ : Still Q) (hq0 : q < W0.heap.size) {i : Nat} (hn : ∀ v W, Q i v W) (hs : i ≠ s) : ∀ v W', Below W.heap.size W W' → True → RK Q W0 s q o1 (upd val i v) (L.setIfInBounds i true) W' :=
  fun v W' hb _ => h.step hQ hq0 hb (hn v W') hs
end
end Go.Proofs.Ytnnmmojlgikdgaa

/- The worlds of the reference's Step. -/
namespace Go.Proofs.Ytnnmmojlgikdgaa
open Go.RowKit

theorem blk_new (W : World) (o : Obj) (b : Nat) (h : W.heap.size = b) : (W.alloc o).heap[b]? = some o := by
  subst h
  show (W.heap.push _)[W.heap.size]? = _
  simp
theorem blk_old {W : World} {b : Nat} {x : Obj} (o : Obj) (h : W.heap[b]? = some x) : (W.alloc o).heap[b]? = some x := by
  have hl : b < W.heap.size := by
    rw [Array.getElem?_eq_some_iff] at h
    exact h.1
  exact (Below.heap_alloc _ _ _ hl).trans h
def GivesT (w : World) (p : Bool) (s : HG) (e : Ending) (w' : World) : Prop := e = .returned (.tuple #[HA s, .bool s.touched, .bool p]) ∧ Below w.heap.size w w'
/-- The world in which Step begins. -/
structure ST (w W : World) (cable charge y1 y2 len wt since cyc : Int) (cut : Bool) (k n : Int) (AX AY AV : Option Addr) (nx cx ny cy nv cv : Nat) : Prop where
  b0 : W.heap[w.heap.size]? = some (.cells #[.int .i64 cable, .slice AX nx cx, .slice AY ny cy, .slice AV nv cv, .int .i64 charge] 57 (0, 0))
  b1 : W.heap[w.heap.size + 1]? = some (.cells #[.int .i64 y1, .int .i64 y2] 27 (0, 0))
  b2 : W.heap[w.heap.size + 1 + 1]? = some (.cells #[.int .i64 len, .int .i64 wt, .int .i64 since, .int .i64 cyc, .bool cut] 61 (0, 0))
  b3 : W.heap[w.heap.size + 1 + 1 + 1]? = some (.cells #[.int .i64 k, .int .i64 n] 82 (0, 0))
  b4 : W.heap[w.heap.size + 1 + 1 + 1 + 1]? = some (.cells #[.int .i64 0, .int .i64 0, .int .i64 0, .int .i64 0, .bool false] 61 (0, 0))
  sz : W.heap.size = w.heap.size + 1 + 1 + 1 + 1 + 1
  hb : Below w.heap.size w W
structure ST6 (w W : World) (cable charge y1 y2 len wt since cyc : Int) (cut : Bool) (k n : Int) (AX AY AV : Option Addr) (nx cx ny cy nv cv : Nat) (o : Obj) : Prop where
  b0 : W.heap[w.heap.size]? = some (.cells #[.int .i64 cable, .slice AX nx cx, .slice AY ny cy, .slice AV nv cv, .int .i64 charge] 57 (0, 0))
  b1 : W.heap[w.heap.size + 1]? = some (.cells #[.int .i64 y1, .int .i64 y2] 27 (0, 0))
  b2 : W.heap[w.heap.size + 1 + 1]? = some (.cells #[.int .i64 len, .int .i64 wt, .int .i64 since, .int .i64 cyc, .bool cut] 61 (0, 0))
  b3 : W.heap[w.heap.size + 1 + 1 + 1]? = some (.cells #[.int .i64 k, .int .i64 n] 82 (0, 0))
  b4 : W.heap[w.heap.size + 1 + 1 + 1 + 1]? = some (.cells #[.int .i64 0, .int .i64 0, .int .i64 0, .int .i64 0, .bool false] 61 (0, 0))
  b5 : W.heap[w.heap.size + 1 + 1 + 1 + 1 + 1]? = some o
  sz : W.heap.size = w.heap.size + 1 + 1 + 1 + 1 + 1 + 1
  hb : Below w.heap.size w W

section
variable (cable charge y1 y2 len wt since cyc : Int) (cut tch : Bool) (k n : Int) (AX AY AV : Option Addr) (nx cx ny cy nv cv B : Nat) (X Y : List Int) (V : List (List Int)) (w : World)

theorem st_new : ST w (((((w.alloc (.cells #[.int .i64 cable, .slice AX nx cx, .slice AY ny cy, .slice AV nv cv, .int .i64 charge] 57)).alloc (.cells #[.int .i64 y1, .int .i64 y2] 27)).alloc (.cells #[.int .i64 len, .int .i64 wt, .int .i64 since, .int .i64 cyc, .bool cut] 61)).alloc (.cells #[.int .i64 k, .int .i64 n] 82)).alloc (.cells #[.int .i64 0, .int .i64 0, .int .i64 0, .int .i64 0, .bool false] 61)) cable charge y1 y2 len wt since cyc cut k n AX AY AV nx cx ny cy nv cv :=
  ⟨blk_old _ (blk_old _ (blk_old _ (blk_old _ (blk_new _ _ _ rfl)))), blk_old _ (blk_old _ (blk_old _ (blk_new _ _ _ (by simp)))), blk_old _ (blk_old _ (blk_new _ _ _ (by simp))), blk_old _ (blk_new _ _ _ (by simp)), blk_new _ _ _ (by simp), by simp, by go_grown⟩
theorem ST.stay {W W' : World} (h : ST w W cable charge y1 y2 len wt since cyc cut k n AX AY AV nx cx ny cy nv cv) (hb : Below W.heap.size W W') : Below w.heap.size w W' := h.hb.trans (hb.mono h.hb.size)
/-- .. and with the copy that it changes. -/
theorem st_next {W : World} (h : ST w W cable charge y1 y2 len wt since cyc cut k n AX AY AV nx cx ny cy nv cv) (o : Obj) : ST6 w (W.alloc o) cable charge y1 y2 len wt since cyc cut k n AX AY AV nx cx ny cy nv cv o :=
  ⟨blk_old _ h.b0, blk_old _ h.b1, blk_old _ h.b2, blk_old _ h.b3, blk_old _ h.b4, blk_new _ _ _ h.sz, by simp [h.sz], h.hb.alloc h.hb.size _⟩
structure ST7 (w W : World) (len wt since cyc : Int) (cut : Bool) (o : Obj) : Prop where
  b2 : W.heap[w.heap.size + 1 + 1]? = some (.cells #[.int .i64 len, .int .i64 wt, .int .i64 since, .int .i64 cyc, .bool cut] 61 (0, 0))
  b4 : W.heap[w.heap.size + 1 + 1 + 1 + 1]? = some (.cells #[.int .i64 0, .int .i64 0, .int .i64 0, .int .i64 0, .bool false] 61 (0, 0))
  b5 : W.heap[w.heap.size + 1 + 1 + 1 + 1 + 1]? = some o
  hb : Below w.heap.size w W
theorem ST6.stay {W W' : World} {o : Obj} (h : ST6 w W cable charge y1 y2 len wt since cyc cut k n AX AY AV nx cx ny cy nv cv o) (hb : Below W.heap.size W W') : ST7 w W' len wt since cyc cut o :=
  ⟨(hb.block _ (by rw [h.sz]; omega)).trans h.b2, (hb.block _ (by rw [h.sz]; omega)).trans h.b4, (hb.block _ (by rw [h.sz]; omega)).trans h.b5, h.hb.trans (hb.mono h.hb.size)⟩
end
end Go.Proofs.Ytnnmmojlgikdgaa

/- The sets of a swing: ticks, until, effects. -/
namespace Go.Proofs.Ytnnmmojlgikdgaa
open Go.RowKit

theorem map_add0 (A : Option Addr) (c s : Nat) : (if c = 0 then A else A.map (·.add (0 * s))) = A := by
  split
  · rfl
  · cases A with
    | none => rfl
    | some a => rw [Option.map_some, Nat.zero_mul, show a.add 0 = a from by rfl]
theorem OI.low {base B : Nat} {v : Value} {l : List Int} {w w' : World} (h : OI base v l w) (hb : Below B w w') (hq : ∀ q, v.ownBlock = some q → q < B) : OI base v l w' :=
  ⟨h.1, h.2.imp id fun ⟨g, cap, cur, e, hg, hc, h3⟩ => ⟨g, cap, cur, e, hg, (hb.block g (hq g (by rw [e]; rfl))).trans hc, h3⟩⟩
theorem ticks_any (N D d : Int) (A : Option Addr) (n c : Nat) (w : World) (hn : n ≤ maxLen) :
    Calls Try.prog 102 #[.agg #[.int .i64 N, .int .i64 D, .int .i64 d, .slice A n c]] w fun e w' => e = .returned (.int .i64 ((n : Int) - 2)) ∧ Below w.heap.size w w' := by
  unfold maxLen at hn
  have i1 : IntKind.i64.wrap ((n : Int) - 2) = (n : Int) - 2 := IntWalk.i64_in _ (by omega)
  go_enter Try.func102, Try.ntmps102
  go_wp2
  go_ret
  exact ⟨rfl, by go_grown⟩

set_option maxRecDepth 100000 in
set_option maxHeartbeats 2000000 in
theorem effects_any (N D d : Int) (A : Option Addr) (k n c : Nat) (w : World) (hs : slB N D d = true) (hnk : n = k + 2) (hk : k ≤ 16) :
    Calls Try.prog 100 #[.agg #[.int .i64 N, .int .i64 D, .int .i64 d, .slice A n c]] w fun e w' => ∃ u, e = .returned (.tuple #[u, .int .i64 (powI d k)]) ∧ QI (efL N D d k) u w' ∧ Below w.heap.size w w' := by
  have HNK := Lib.hid hnk
  have hn2 : 2 ≤ n := by omega
  have hn18 : n ≤ 18 := by omega
  obtain ⟨⟨d1, d2⟩, _, _⟩ := slB_get hs
  have HSL := Lib.hid hs
  have HB0 := Lib.hid ((Below.refl w.heap.size w).alloc (Nat.le_refl _) (.cells #[.int .i64 N, .int .i64 D, .int .i64 d, .slice A n c] 101))
  have HT0 := Lib.hid (blk_new w (.cells #[.int .i64 N, .int .i64 D, .int .i64 d, .slice A n c] 101) _ rfl)
  have HH := Lib.hid (fun a v W => hang_any N D d a v W)
  clear hs hnk
  go_enter Try.func100, Try.ntmps100
  go_upto_region 1 with (fail)
  generalize World.alloc w _ = w1 at *
  have HZ1 := Lib.hid (lt_of_block HT0.out)
  have b3 := cellOf (o := 3) HT0.out rfl
  have l1 := lt_of_block HT0.out
  go_upto_region 2 with (fail)
  clear b3 l1
  go_loopw [2, 3, 12] (fun ul ud ui wr => ∃ i : Nat, i ≤ n ∧ ui = .int .i64 i ∧ ud = .int .i64 (if i = 0 then 0 else powI d k) ∧ OI w1.heap.size ul ((efL N D d k).take i) wr ∧ Below w1.heap.size w1 wr) (fun _ _ ui _ => n - (intOf ui).toNat)
  case atStart => exact ⟨0, by omega, rfl, rfl, OI.nil, Below.refl _ _⟩
  case round =>
    obtain ⟨i, hi, rfl, rfl, hol, hbw⟩ := hrel
    obtain ⟨ul, hul⟩ : ∃ x, u2 = x := ⟨_, rfl⟩
    rw [hul] at hol ⊢
    clear hul
    have HOL := Lib.hid hol
    have HBW := Lib.hid hbw
    have HDD := Lib.hid (fun (h : i ≠ 0) => show (if i = 0 then 0 else powI d k) = powI d k from if_neg h)
    generalize (if i = 0 then 0 else powI d k) = dd at *
    by_cases hlt : i < n
    · have HT := Lib.hid ((hbw.block _ HZ1.out).trans HT0.out)
      have b0 := cellOf (o := 0) HT.out rfl
      have b1 := cellOf (o := 1) HT.out rfl
      have b2 := cellOf (o := 2) HT.out rfl
      have b3 := cellOf (o := 3) HT.out rfl
      have l1 := lt_of_block HT.out
      clear hol hbw
      go_upto_region 5 with (at_make; refine wpList_makeI rfl _ _ rfl n rfl rfl (by omega) ?_)
      have HRW := Lib.hid (RW.made wr n)
      have HB2 := Lib.hid ((Below.refl wr.heap.size wr).alloc (Nat.le_refl _) (.cells (madeCells #[Value.int .i64 0] n) 3))
      obtain ⟨gr, hgr⟩ : ∃ z, wr.heap.size = z := ⟨_, rfl⟩
      have HGR0 := Lib.hid hgr
      rw [hgr] at HRW ⊢
      clear b0 b1 b2 b3 l1 hgr
      generalize World.alloc wr _ = w2 at *
      have r0 := HRW.out.get (k := i) (x := 0) (by simp [hlt])
      have f0 := HRW.out.free i
      have l2 := HRW.out.lt
      go_upto_region 6 with (fail)
      have HRX := Lib.hid (show RW (w2.setCell ⟨gr, i, none⟩ (.int .i64 1)) gr (oneL n i) from HRW.out.set i 1)
      have HB3 := Lib.hid (HB2.out.setCell (p := ⟨gr, i, none⟩) (Nat.le_of_eq HGR0.out) (.int .i64 1))
      clear r0 f0 l2
      generalize World.setCell w2 _ _ = w3 at *
      have HT3 := Lib.hid ((HB3.out.block _ (lt_of_block HT.out)).trans HT.out)
      have HOL3 := Lib.hid (HOL.out.stay HB3.out)
      have b0 := cellOf (o := 0) HT3.out rfl
      have b1 := cellOf (o := 1) HT3.out rfl
      have b2 := cellOf (o := 2) HT3.out rfl
      have b3 := cellOf (o := 3) HT3.out rfl
      have l1 := lt_of_block HT3.out
      have r0 := HRX.out.get (k := 0) (x := gz (oneL n i) 0) (by rw [oneL_get n i 0 (by omega), oneL_gz n i 0 (by omega)])
      have r1 := HRX.out.get (k := 1) (x := gz (oneL n i) 1) (by rw [oneL_get n i 1 (by omega), oneL_gz n i 1 (by omega)])
      have l3 := HRX.out.lt
      obtain ⟨x0, hx0⟩ : ∃ x, gz (oneL n i) 0 = x := ⟨_, rfl⟩
      obtain ⟨x1, hx1⟩ : ∃ x, gz (oneL n i) 1 = x := ⟨_, rfl⟩
      rw [hx0] at r0
      rw [hx1] at r1
      have HX := Lib.hid (And.intro hx0 hx1)
      have hn1 : (1 : Int) < (n : Int) := by omega
      have hn0 : (0 : Int) < (n : Int) := by omega
      have hn1' : 1 < n := by omega
      have hn0' : 0 < n := by omega
      clear hx0 hx1
      obtain ⟨Q, hQ⟩ : ∃ q9 : Nat → Value → World → Prop, q9 = QG [some (.pointer (some ⟨w.heap.size, 0, none⟩)), some (.agg #[.int .i64 N, .int .i64 D, .int .i64 d]), some (.slice (some ⟨gr, 0, none⟩) n n), some (.pointer (some ⟨gr, 0, none⟩)), some (.int .i64 x0), some (.slice (some ⟨gr, 0, none⟩) n n), some (.pointer (some ⟨gr, 1, none⟩)), some (.int .i64 x1), some (.agg #[.int .i64 x0, .int .i64 x1]), some (.agg #[.int .i64 N, .int .i64 D, .int .i64 d, .int .i64 x0, .int .i64 x1, .int .i64 1]), none, none] (fun _ _ _ => True) := ⟨_, rfl⟩
      obtain ⟨E, hE⟩ : ∃ q9 : Nat → Value → World → Prop, q9 = (fun _ _ _ => True) := ⟨_, rfl⟩
      have hSt : Still Q := by rw [hQ]; exact QG.still
      have hEs : Stays E := by rw [hE]; exact fun _ _ _ _ _ _ => trivial
      have XF := Lib.hid (show ∀ j, decide (j ∈ ([] : List Nat)) = false → ∀ v0' w0', E j v0' w0' from fun j hj v0' w0' => by rw [hE]; exact trivial)
      have HQ := Lib.hid hQ
      clear hQ hE
      refine wpIn_wide.1 (region_inv2 (n := 9) (by kernel_rfl) (RB Q E w3 11 10 #[.int .i64 0, .int .i64 0, .int .i64 0, .int .i64 0, .int .i64 0, .int .i64 0] #[.int .i64 N, .int .i64 D, .int .i64 d, .int .i64 x0, .int .i64 x1, .int .i64 1] 89) (by kernel_rfl) rfl (RB.start _ _ _ _ _ _ _ _ _) ?hstep ?hend)
      case hstep =>
        intro i' o ho val L b' x hF hR hpre hl
        match i', ho with
        | 0, ho =>
          simp at ho; subst ho; refine step_plain rfl ?_; have e1 := hF.was 1 (by kernel_rfl) rfl; have hgoal := hR.go hSt hEs HQ 0 rfl (XF.out 0 (by decide)) (by decide) (by decide); clear hF hpre hl hR; go_simp; exact ⟨_, rfl, hgoal _ _ (Below.refl _ _) rfl⟩
        | 1, ho =>
          simp at ho; subst ho; refine step_plain rfl ?_; have e22 := hF.gv hR.2.1 HQ 0 rfl (hpre ⟨0, .data⟩ (by simp) rfl) rfl; have hgoal := hR.go hSt hEs HQ 1 rfl (XF.out 1 (by decide)) (by decide) (by decide); have q0 := cell_keep hR.1 b0; have q1 := cell_keep hR.1 b1; have q2 := cell_keep hR.1 b2; clear hF hpre hl hR; go_simp; exact ⟨_, rfl, hgoal _ _ (Below.refl _ _) rfl⟩
        | 2, ho =>
          simp at ho; subst ho; refine step_plain rfl ?_; have e5 := hF.was 5 (by kernel_rfl) rfl; have hgoal := hR.go hSt hEs HQ 2 rfl (XF.out 2 (by decide)) (by decide) (by decide); clear hF hpre hl hR; go_simp; exact ⟨_, rfl, hgoal _ _ (Below.refl _ _) rfl⟩
        | 3, ho =>
          simp at ho; subst ho; refine step_plain rfl ?_; have e24 := hF.gv hR.2.1 HQ 2 rfl (hpre ⟨2, .data⟩ (by simp) rfl) rfl; have hgoal := hR.go hSt hEs HQ 3 rfl (XF.out 3 (by decide)) (by decide) (by decide); clear hF hpre hl hR; go_simp; exact ⟨_, rfl, hgoal _ _ (Below.refl _ _) rfl⟩
        | 4, ho =>
          simp at ho; subst ho; refine step_plain rfl ?_; have e25 := hF.gv hR.2.1 HQ 3 rfl (hpre ⟨3, .data⟩ (by simp) rfl) rfl; have hgoal := hR.go hSt hEs HQ 4 rfl (XF.out 4 (by decide)) (by decide) (by decide); have q0 := cell_keep hR.1 r0; clear hF hpre hl hR; go_simp; exact ⟨_, rfl, hgoal _ _ (Below.refl _ _) rfl⟩
        | 5, ho =>
          simp at ho; subst ho; refine step_plain rfl ?_; have e5 := hF.was 5 (by kernel_rfl) rfl; have hgoal := hR.go hSt hEs HQ 5 rfl (XF.out 5 (by decide)) (by decide) (by decide); clear hF hpre hl hR; go_simp; exact ⟨_, rfl, hgoal _ _ (Below.refl _ _) rfl⟩
        | 6, ho =>
          simp at ho; subst ho; refine step_plain rfl ?_; have e27 := hF.gv hR.2.1 HQ 5 rfl (hpre ⟨5, .data⟩ (by simp) rfl) rfl; have hgoal := hR.go hSt hEs HQ 6 rfl (XF.out 6 (by decide)) (by decide) (by decide); clear hF hpre hl hR; go_simp; exact ⟨_, rfl, hgoal _ _ (Below.refl _ _) rfl⟩
        | 7, ho =>
          simp at ho; subst ho; refine step_plain rfl ?_; have e28 := hF.gv hR.2.1 HQ 6 rfl (hpre ⟨6, .data⟩ (by simp) rfl) rfl; have hgoal := hR.go hSt hEs HQ 7 rfl (XF.out 7 (by decide)) (by decide) (by decide); have q0 := cell_keep hR.1 r1; clear hF hpre hl hR; go_simp; exact ⟨_, rfl, hgoal _ _ (Below.refl _ _) rfl⟩
        | 8, ho =>
          simp at ho; subst ho; refine step_plain rfl ?_; have e26 := hF.gv hR.2.1 HQ 4 rfl (hpre ⟨4, .data⟩ (by simp) rfl) rfl; have e29 := hF.gv hR.2.1 HQ 7 rfl (hpre ⟨7, .data⟩ (by simp) rfl) rfl; have hgoal := hR.go hSt hEs HQ 8 rfl (XF.out 8 (by decide)) (by decide) (by decide); clear hF hpre hl hR; go_simp; exact ⟨_, rfl, hgoal _ _ (Below.refl _ _) rfl⟩
        | 9, ho =>
          simp at ho; subst ho; refine step_plain rfl ?_; have e23 := hF.gv hR.2.1 HQ 1 rfl (hpre ⟨1, .data⟩ (by simp) rfl) rfl; have e30 := hF.gv hR.2.1 HQ 8 rfl (hpre ⟨8, .data⟩ (by simp) rfl) rfl; have hgoal := hR.go hSt hEs HQ 9 rfl (XF.out 9 (by decide)) (by decide) (by decide)
          have hM := Lib.hid hR.1
          clear hF hpre hl hR; go_simp
          refine ⟨trivial, ?_⟩
          refine CallsIn.mono (callsIn_wide.2 (HH.out _ _ _)) ?_
          rintro e w9 ⟨rfl, hb9⟩
          exact ⟨_, rfl, hgoal _ _ hb9 rfl⟩
        | 10, ho =>
          simp at ho; subst ho; refine step_plain rfl ?_; have hN := hF.later hl 11 rfl (e := ⟨10, .data⟩) (by simp) rfl rfl; have hgoal := hR.made hSt hEs hN (by decide) (QG.none HQ 10 rfl (fun _ _ => trivial) _ _) (XF.out 10 (by decide) _ _); clear hF hpre hl hR hN; go_simp; exact ⟨_, rfl, hgoal⟩
        | 11, ho =>
          simp at ho; subst ho; refine step_plain rfl ?_; have e6 := hF.gave 10 rfl (hpre ⟨10, .data⟩ (by simp) rfl) rfl; have e31 := hF.gv hR.2.1 HQ 9 rfl (hpre ⟨9, .data⟩ (by simp) rfl) rfl
          have hls : 11 < L.size := by rw [hF.lsize]; decide
          have hN0 : L.getD 11 false = false := by rw [← getD_same hls]; exact hl
          obtain ⟨q, qe, qM, qb⟩ := hR.2.2.2 (hpre ⟨10, .data⟩ (by simp) rfl)
          rw [hN0] at qb
          simp only [Bool.false_eq_true, if_false] at qb
          rw [qe] at e6
          have g0 := cellOf (o := 0) qb rfl; have f0 := freeOf (o := 0) qb; have g1 := cellOf (o := 1) qb rfl; have f1 := freeOf (o := 1) qb; have g2 := cellOf (o := 2) qb rfl; have f2 := freeOf (o := 2) qb; have g3 := cellOf (o := 3) qb rfl; have f3 := freeOf (o := 3) qb; have g4 := cellOf (o := 4) qb rfl; have f4 := freeOf (o := 4) qb; have g5 := cellOf (o := 5) qb rfl; have f5 := freeOf (o := 5) qb; have hgoal := RB.filled (v := undef) hR hSt hls (QG.none HQ 11 rfl (fun _ _ => trivial) _ _) qe qM ((((((hR.1.setCell (p := ⟨q, 0, none⟩) qM (.int .i64 N)).setCell (p := ⟨q, 1, none⟩) qM (.int .i64 D)).setCell (p := ⟨q, 2, none⟩) qM (.int .i64 d)).setCell (p := ⟨q, 3, none⟩) qM (.int .i64 x0)).setCell (p := ⟨q, 4, none⟩) qM (.int .i64 x1)).setCell (p := ⟨q, 5, none⟩) qM (.int .i64 1)) ((block_setCell (o := 5) (.int .i64 1) (block_setCell (o := 4) (.int .i64 x1) (block_setCell (o := 3) (.int .i64 x0) (block_setCell (o := 2) (.int .i64 d) (block_setCell (o := 1) (.int .i64 D) (block_setCell (o := 0) (.int .i64 N) qb)))))).trans (by rfl)) (by decide)
          have hq := lt_of_block qb
          have HG := Lib.hid hgoal
          clear hF hpre hl hR hls hN0 qe qb hgoal; go_simp
          exact ⟨undef, HG.out⟩
        | i + 12, ho => simp at ho
      case hend =>
        intro val L b' x hF hall hR
        have e := hF.all (by kernel_rfl) hall
        obtain ⟨g, kp, hM, bk⟩ := hR.2.2.2 (hall 10 (by decide))
        rw [hall 11 (by decide)] at bk
        simp only [if_true] at bk
        have hB := Lib.hid hR.1
        clear hF hall hR hSt hEs XF HQ 
        subst e
        simp [final, dstOf, List.range, List.range.loop]
        rw [kp]
        clear kp
        have HWL := Lib.hid (show WL x g N D d (x0, x1, 1) from bk)
        have HNE := Lib.hid (show some g ≠ ul.ownBlock from fun e => by have := (HOL3.out.lt g e.symm).2; omega)
        have HRX6 := Lib.hid (HRX.out.stay hB.out)
        have HOL6 := Lib.hid (HOL3.out.stay hB.out)
        have HB6 := Lib.hid (HBW.out.trans ((HB3.out.trans (hB.out.mono HB3.out.size)).mono HBW.out.size))
        have HB3L := Lib.hid (fun q (hq : ul.ownBlock = some q) => (HOL3.out.lt q hq).2)
        have HB63 := Lib.hid (show w1.heap.size ≤ w3.heap.size by have := HBW.out.size; have := HB3.out.size; omega)
        have HGE := Lib.hid (show w1.heap.size ≤ g by have := HBW.out.size; have := HB3.out.size; omega)
        have HGR := Lib.hid (show gr < w3.heap.size from l3)
        clear b0 b1 b2 b3 l1 r0 r1 l3 bk hn1 hn0 hn1' hn0'
        have hn2i : (2 : Int) ≤ (n : Int) := by omega
        go_upto_region 8 with (fail)
        · have H29 := Lib.hid h
          clear h
          obtain ⟨G, hG⟩ : ∃ G, (oneL n i).drop 2 = G := ⟨_, rfl⟩
          have hGk : G.length = k := by rw [← hG]; simp [oneL_len]; have := HNK.out; omega
          have hGB : wB (-100) 100 G = true := by rw [← hG]; exact oneL_wB n i
          have hst : staB x0 x1 = true := by rw [← HX.out.1, ← HX.out.2]; have := oneL_sta k i; rw [← HNK.out] at this; exact this
          have hswb := swB_all HSL.out hst hGB (by omega)
          have heff : (swK N D d x0 x1 G k).1 = gz (efL N D d k) i := by
            have := eff_one N D d (k := k) (i := i) (by have := HNK.out; omega)
            rw [← HNK.out, HX.out.1, HX.out.2, hG] at this
            exact this
          have hden : (swK N D d x0 x1 G k).2.2 = powI d k := swK_den (by omega)
          have HG := Lib.hid hG
          have HGK := Lib.hid hGk
          have HGB := Lib.hid hGB
          have HSB := Lib.hid hswb
          have HEFF := Lib.hid heff
          have HDEN := Lib.hid hden
          clear hG hGk hGB hst hswb heff hden
          go_loopw [35] (fun ut wr2 => ∃ t : Nat, t ≤ k ∧ ut = .int .i64 t ∧ WL wr2 g N D d (swK N D d x0 x1 G t) ∧ Below w3.heap.size x wr2) (fun ut _ => k - (intOf ut).toNat)
          case atStart => exact ⟨0, Nat.zero_le _, rfl, HWL.out, Below.refl _ _⟩
          case round =>
            obtain ⟨t, ht, rfl, hwl, hb2⟩ := hrel
            have HWL2 := Lib.hid hwl
            have HBI := Lib.hid hb2
            clear hwl hb2
            have hden := swK_den (N := N) (D := D) (d := d) (a := x0) (v := x1) (G := G) (k := t) (by have := HGK.out; omega)
            by_cases hlt2 : t < k
            · exact absurd hlt2 (by have := HNK.out; have := H29.out; omega)
            · obtain rfl : k = t := by omega
              have hpa := HEFF.out
              have hpe := HDEN.out
              obtain ⟨⟨pa, pv, pe⟩, hp⟩ : ∃ p, swK N D d x0 x1 G k = p := ⟨_, rfl⟩
              rw [hp] at hpa hpe HWL2
              simp only at hpa hpe
              have HPA := Lib.hid hpa
              have HPE := Lib.hid hpe
              have HOL8 := Lib.hid (HOL6.out.low HBI.out HB3L.out)
              have HB8 := Lib.hid (HB6.out.trans (HBI.out.mono HB63.out))
              have c3 := cellOf (o := 3) HWL2.out rfl
              have c5 := cellOf (o := 5) HWL2.out rfl
              have lc := HWL2.out.lt
              have hlen : ((efL N D d k).take i).length ≤ 1000000 := by simp [efL_len]; omega
              have hbs := HB8.out.size
              have hnl : ¬ ((k : Int) < 0) := by have := HNK.out; omega
              clear hp hpa hpe hden hlt2
              obtain ⟨wr2, hwr2⟩ : ∃ z, wr = z := ⟨_, rfl⟩
              rw [hwr2] at HWL2 HBI HOL8 HB8 c3 c5 lc hbs ⊢
              clear hwr2
              go_upto_region 12 with (fail)
              obtain ⟨QA, hQA⟩ : ∃ q9 : Nat → Value → World → Prop, q9 = QG [some (ul), some (.pointer (some ⟨g, 3, none⟩)), some (.int .i64 pa), none, none, some (.pointer (some ⟨g, 5, none⟩)), some (.int .i64 pe), none, some (.int .i64 pe)] (fun _ _ _ => True) := ⟨_, rfl⟩
              obtain ⟨EA, hEA⟩ : ∃ q9 : Nat → Value → World → Prop, q9 = (fun j0' v0' w0' => (j0' = 3 → OneI pa v0' w0')) := ⟨_, rfl⟩
              have hSt : Still QA := by rw [hQA]; exact QG.still
              have hEs : Stays EA := by rw [hEA]; exact fun j v W W' h hb => fun e => (h e).stay hb
              have XA3 := Lib.hid (show ∀ v0' w0', EA 3 v0' w0' ↔ OneI pa v0' w0' from fun v0' w0' => by rw [hEA]; exact ⟨fun h => h rfl, fun h => fun _ => h⟩)
              have XAF := Lib.hid (show ∀ j, decide (j ∈ ([3] : List Nat)) = false → ∀ v0' w0', EA j v0' w0' from fun j hj v0' w0' => by rw [hEA]; exact fun e => absurd (e ▸ hj) (by decide))
              obtain ⟨PA9, hPA9⟩ : ∃ p9 : Value → World → Prop, p9 = (fun v9 w9 => OI (w1.heap.size) v9 ((efL N D d k).take i ++ [pa]) w9) := ⟨_, rfl⟩
              have HPA9 := Lib.hid hPA9
              have HQA := Lib.hid hQA
              clear hQA hEA hPA9
              refine wpIn_wide.1 (region_inv2 (n := 9) (by kernel_rfl) (RA QA EA wr2 4 7 (ul) PA9) (by kernel_rfl) rfl (RA.start _ _ _ _ _ _ _ _) ?hstepA ?hendA)
              case hstepA =>
                intro i' o ho val L b' y hF hR hpre hl
                match i', ho with
                | 0, ho =>
                  simp at ho; subst ho; refine step_plain rfl ?_; have hN := hF.later hl 4 rfl (e := ⟨0, .data⟩) (by simp) rfl rfl; have e2 := hF.wasOf 2 7 (by kernel_rfl) (hF.back hN 7 rfl (by decide) (e := ⟨4, .data⟩) (by simp) rfl rfl) rfl; have hgoal := hR.go hSt hEs hN HQA 0 rfl (XAF.out 0 (by decide)) (by decide); clear hF hpre hl hR hN; go_simp; exact ⟨_, rfl, hgoal _ _ (Below.refl _ _) rfl⟩
                | 1, ho =>
                  simp at ho; subst ho; refine step_plain rfl ?_; have hN := hF.later hl 2 rfl (e := ⟨1, .data⟩) (by simp) rfl rfl; have hN := hF.back hN 3 rfl (by decide) (e := ⟨2, .data⟩) (by simp) rfl rfl; have hN := hF.back hN 4 rfl (by decide) (e := ⟨3, .data⟩) (by simp) rfl rfl; have e6 := hF.was 6 (by kernel_rfl) rfl; have hgoal := hR.go hSt hEs hN HQA 1 rfl (XAF.out 1 (by decide)) (by decide); clear hF hpre hl hR hN; go_simp; exact ⟨_, rfl, hgoal _ _ (Below.refl _ _) rfl⟩
                | 2, ho =>
                  simp at ho; subst ho; refine step_plain rfl ?_; have hN := hF.later hl 3 rfl (e := ⟨2, .data⟩) (by simp) rfl rfl; have hN := hF.back hN 4 rfl (by decide) (e := ⟨3, .data⟩) (by simp) rfl rfl; have e43 := hF.gvs hR.1 HQA 1 (by decide) (by decide) rfl (hpre ⟨1, .data⟩ (by simp) rfl) rfl; have hgoal := hR.go hSt hEs hN HQA 2 rfl (XAF.out 2 (by decide)) (by decide); have q0 := hR.cell c3 HNE.out; clear hF hpre hl hR hN; go_simp; exact ⟨_, rfl, hgoal _ _ (Below.refl _ _) rfl⟩
                | 3, ho =>
                  simp at ho; subst ho; refine step_plain rfl ?_; have hN := hF.later hl 4 rfl (e := ⟨3, .data⟩) (by simp) rfl rfl; have e44 := hF.gvs hR.1 HQA 2 (by decide) (by decide) rfl (hpre ⟨2, .data⟩ (by simp) rfl) rfl
                  have hgoal : ∀ v0' w0', Below y.heap.size y w0' → OneI pa v0' w0' → RA QA EA wr2 4 7 (ul) PA9 (upd val 3 v0') (L.setIfInBounds 3 true) w0' := fun v0' w0' hb hq => hR.step hSt hEs hN hb (QG.none HQA 3 rfl (fun _ _ => trivial) _ _) ((XA3.out _ _).2 hq) (by decide)
                  clear hF hpre hl hR hN; go_simp; exact ⟨_, rfl, hgoal _ _ ((Below.refl _ _).alloc (Nat.le_refl _) _) OneI.new⟩
                | 4, ho =>
                  simp at ho; subst ho; refine step_plain rfl ?_
                  have hls : 4 < L.size := by rw [hF.lsize]; decide
                  have hN : L.getD 4 false = false := by rw [← getD_same hls]; exact hl
                  have hT := hF.later hl 7 rfl (e := ⟨4, .data⟩) (by simp) rfl rfl
                  have e42 := hF.gvs hR.1 HQA 0 (by decide) (by decide) rfl (hpre ⟨0, .data⟩ (by simp) rfl) rfl; have e45 := hF.gave 3 rfl (hpre ⟨3, .data⟩ (by simp) rfl) rfl
                  have v3 := (XA3.out _ _).1 ((hR.2.1 hN).2 3 (hpre ⟨3, .data⟩ (by simp) rfl))
                  have hb9 := (hR.2.1 hN).1
                  refine step_pushI (.tmp 42) (.tmp 45) rfl (w1.heap.size) (ul) ((efL N D d k).take i) (by simpa [Act.eval] using e42) (HOL8.out.stay hb9) _ (pa) (by simpa [Act.eval] using e45) v3 hlen (Nat.le_trans hbs hb9.size) ?_
                  intro v' w9 h9 g9'
                  exact ⟨_, rfl, hR.push hSt hls hN hT (by decide) (by rw [HPA9.out]; exact h9) g9'⟩
                | 5, ho =>
                  simp at ho; subst ho; refine step_plain rfl ?_; have e6 := hF.was 6 (by kernel_rfl) rfl; have hgoal := hR.goR hSt hEs HQA 5 rfl (XAF.out 5 (by decide)) (by decide) (by decide); clear hF hpre hl hR; go_simp; exact ⟨_, rfl, hgoal _ rfl⟩
                | 6, ho =>
                  simp at ho; subst ho; refine step_plain rfl ?_; have e47 := hF.gvs hR.1 HQA 5 (by decide) (by decide) rfl (hpre ⟨5, .data⟩ (by simp) rfl) rfl; have hgoal := hR.goR hSt hEs HQA 6 rfl (XAF.out 6 (by decide)) (by decide) (by decide); have q0 := hR.cell c5 HNE.out; clear hF hpre hl hR; go_simp; exact ⟨_, rfl, hgoal _ rfl⟩
                | 7, ho =>
                  simp at ho; subst ho; refine step_plain rfl ?_
                  have hs := hpre ⟨4, .data⟩ (by simp) rfl
                  have hgoal := hR.assign hs (by decide); have e46 := hF.gave 4 rfl hs rfl; clear hF hpre hl hR hs; go_simp; exact ⟨_, rfl, hgoal⟩
                | 8, ho =>
                  simp at ho; subst ho; refine step_plain rfl ?_; have e48 := hF.gvs hR.1 HQA 6 (by decide) (by decide) rfl (hpre ⟨6, .data⟩ (by simp) rfl) rfl; have hgoal := hR.goR hSt hEs HQA 8 rfl (XAF.out 8 (by decide)) (by decide) (by decide); clear hF hpre hl hR; go_simp; exact ⟨_, rfl, hgoal _ rfl⟩
                | i + 9, ho => simp at ho
              case hendA =>
                intro val L b' y hF hall hR
                have e := hF.all (by kernel_rfl) hall
                obtain ⟨ownA, asgA, grwA⟩ := hR.2.2 (hall 4 (by decide))
                have asgA := asgA (hall 7 (by decide))
                rw [HPA9.out] at ownA; (try dsimp only at ownA)
                have OWNA := Lib.hid ownA
                have GRWA := Lib.hid grwA
                have kA8 := QG.val HQA rfl (hR.1 8 (hall 8 (by decide)) (by decide) (by decide))
                clear hF hall hR hSt hEs ownA grwA HQA XAF HPA9 XA3
                subst e
                simp [final, dstOf, List.range, List.range.loop]
                rw [asgA, kA8]
                clear asgA kA8
                obtain ⟨uA9, huA9⟩ : ∃ u9, val 4 = u9 := ⟨_, rfl⟩
                rw [huA9] at OWNA ⊢
                clear huA9
                obtain ⟨y9, hy9, gy9⟩ := GRWA.out
                have HB9 := Lib.hid (OI.below (HOL8.out.stay hy9) gy9 (HB8.out.trans (hy9.mono HB8.out.size)) (Nat.le_trans HB8.out.size hy9.size) (Nat.le_refl _))
                clear hy9 gy9 c3 c5 lc
                go_wp2
                go_roundw
                case rel =>
                  refine ⟨_, _, _, _, _, _, _, ⟨i + 1, by have := HNK.out; have := H29.out; omega, by go_num, ?_, ?_, HB9.out⟩, H29.out.symm, rfl, rfl, rfl, rfl, rfl, rfl, H29.out.symm, by have := H29.out; omega, rfl⟩
                  · rw [if_neg (Nat.succ_ne_zero i), HPE.out]
                  · have h9 := OWNA.out
                    rw [HPA.out, take_more (by rw [efL_len]; have := HNK.out; omega)] at h9
                    exact h9
                case measure => simp [intOf] <;> omega
        · obtain ⟨G, hG⟩ : ∃ G, (oneL n i).drop 2 = G := ⟨_, rfl⟩
          have hGk : G.length = k := by rw [← hG]; simp [oneL_len]; have := HNK.out; omega
          have hGB : wB (-100) 100 G = true := by rw [← hG]; exact oneL_wB n i
          have hst : staB x0 x1 = true := by rw [← HX.out.1, ← HX.out.2]; have := oneL_sta k i; rw [← HNK.out] at this; exact this
          have hswb := swB_all HSL.out hst hGB (by omega)
          have heff : (swK N D d x0 x1 G k).1 = gz (efL N D d k) i := by
            have := eff_one N D d (k := k) (i := i) (by have := HNK.out; omega)
            rw [← HNK.out, HX.out.1, HX.out.2, hG] at this
            exact this
          have hden : (swK N D d x0 x1 G k).2.2 = powI d k := swK_den (by omega)
          have HG := Lib.hid hG
          have HGK := Lib.hid hGk
          have HGB := Lib.hid hGB
          have HSB := Lib.hid hswb
          have HEFF := Lib.hid heff
          have HDEN := Lib.hid hden
          clear hG hGk hGB hst hswb heff hden
          go_loopw [35] (fun ut wr2 => ∃ t : Nat, t ≤ k ∧ ut = .int .i64 t ∧ WL wr2 g N D d (swK N D d x0 x1 G t) ∧ Below w3.heap.size x wr2) (fun ut _ => k - (intOf ut).toNat)
          case atStart => exact ⟨0, Nat.zero_le _, rfl, HWL.out, Below.refl _ _⟩
          case round =>
            obtain ⟨t, ht, rfl, hwl, hb2⟩ := hrel
            have HWL2 := Lib.hid hwl
            have HBI := Lib.hid hb2
            clear hwl hb2
            have hden := swK_den (N := N) (D := D) (d := d) (a := x0) (v := x1) (G := G) (k := t) (by have := HGK.out; omega)
            by_cases hlt2 : t < k
            · obtain ⟨gg, hgg⟩ : ∃ x, G[t]? = some x := ⟨_, List.getElem?_eq_getElem (by have := HGK.out; omega)⟩
              have hcg := (show RW wr gr (oneL n i) from (HBI.out.block _ HGR.out).trans HRX6.out).get (k := 2 + t) (x := gg) (by rw [← hgg, ← HG.out, List.getElem?_drop])
              have hsu := swK_succ (N := N) (D := D) (d := d) (a := x0) (v := x1) hgg
              have hbd := HSB.out t (by have := HGK.out; omega)
              have hgb := wB_mem HGB.out hgg
              have hpw := powI_bd d1 d2 t
              have hpw3 := powI_4 (show t ≤ 16 by omega)
              have hpw2 := hpw.2 (by omega)
              obtain ⟨⟨pa, pv, pe⟩, hp⟩ : ∃ p, swK N D d x0 x1 G t = p := ⟨_, rfl⟩
              rw [hp] at hsu hbd hden HWL2
              simp only at hbd hden
              have HSW := Lib.hid (swing_any g N D d pa pv pe gg wr HSL.out hbd.1 hbd.2 ⟨by rw [hden]; exact hpw.1, by rw [hden]; omega⟩ hgb HWL2.out)
              rw [← hsu] at HSW
              have htn : t < n - 2 := by have := HNK.out; omega
              have hlg : gr < wr.heap.size := World.block_lt_of_cell? _ _ hcg
              clear hgg hsu hbd hgb hpw hpw2 hpw3 hden hp
              go_wp2_with (go_at_call 53; refine Calls.mono HSW.out ?_; rintro e w7 ⟨rfl, hw7, hg7⟩; have HW7 := Lib.hid hw7; have HBI7 := Lib.hid (HBI.out.grown hg7 (Nat.le_trans hB.out.size HBI.out.size) (fun q hq => (by cases hq; exact hM))); clear hw7 hg7)
              go_roundw
              case rel => exact ⟨t + 1, by omega, by go_num, HW7.out, HBI7.out⟩
              case measure => simp [intOf] <;> omega
            · obtain rfl : k = t := by omega
              have hpa := HEFF.out
              have hpe := HDEN.out
              obtain ⟨⟨pa, pv, pe⟩, hp⟩ : ∃ p, swK N D d x0 x1 G k = p := ⟨_, rfl⟩
              rw [hp] at hpa hpe HWL2
              simp only at hpa hpe
              have HPA := Lib.hid hpa
              have HPE := Lib.hid hpe
              have HOL8 := Lib.hid (HOL6.out.low HBI.out HB3L.out)
              have HB8 := Lib.hid (HB6.out.trans (HBI.out.mono HB63.out))
              have c3 := cellOf (o := 3) HWL2.out rfl
              have c5 := cellOf (o := 5) HWL2.out rfl
              have lc := HWL2.out.lt
              have hlen : ((efL N D d k).take i).length ≤ 1000000 := by simp [efL_len]; omega
              have hbs := HB8.out.size
              have hnl : ¬ (k < n - 2) := by have := HNK.out; omega
              clear hp hpa hpe hden hlt2
              obtain ⟨wr2, hwr2⟩ : ∃ z, wr = z := ⟨_, rfl⟩
              rw [hwr2] at HWL2 HBI HOL8 HB8 c3 c5 lc hbs ⊢
              clear hwr2
              go_upto_region 12 with (fail)
              obtain ⟨QB, hQB⟩ : ∃ q9 : Nat → Value → World → Prop, q9 = QG [some (ul), some (.pointer (some ⟨g, 3, none⟩)), some (.int .i64 pa), none, none, some (.pointer (some ⟨g, 5, none⟩)), some (.int .i64 pe), none, some (.int .i64 pe)] (fun _ _ _ => True) := ⟨_, rfl⟩
              obtain ⟨EB, hEB⟩ : ∃ q9 : Nat → Value → World → Prop, q9 = (fun j0' v0' w0' => (j0' = 3 → OneI pa v0' w0')) := ⟨_, rfl⟩
              have hSt : Still QB := by rw [hQB]; exact QG.still
              have hEs : Stays EB := by rw [hEB]; exact fun j v W W' h hb => fun e => (h e).stay hb
              have XB3 := Lib.hid (show ∀ v0' w0', EB 3 v0' w0' ↔ OneI pa v0' w0' from fun v0' w0' => by rw [hEB]; exact ⟨fun h => h rfl, fun h => fun _ => h⟩)
              have XBF := Lib.hid (show ∀ j, decide (j ∈ ([3] : List Nat)) = false → ∀ v0' w0', EB j v0' w0' from fun j hj v0' w0' => by rw [hEB]; exact fun e => absurd (e ▸ hj) (by decide))
              obtain ⟨PB9, hPB9⟩ : ∃ p9 : Value → World → Prop, p9 = (fun v9 w9 => OI (w1.heap.size) v9 ((efL N D d k).take i ++ [pa]) w9) := ⟨_, rfl⟩
              have HPB9 := Lib.hid hPB9
              have HQB := Lib.hid hQB
              clear hQB hEB hPB9
              refine wpIn_wide.1 (region_inv2 (n := 9) (by kernel_rfl) (RA QB EB wr2 4 7 (ul) PB9) (by kernel_rfl) rfl (RA.start _ _ _ _ _ _ _ _) ?hstepB ?hendB)
              case hstepB =>
                intro i' o ho val L b' y hF hR hpre hl
                match i', ho with
                | 0, ho =>
                  simp at ho; subst ho; refine step_plain rfl ?_; have hN := hF.later hl 4 rfl (e := ⟨0, .data⟩) (by simp) rfl rfl; have e2 := hF.wasOf 2 7 (by kernel_rfl) (hF.back hN 7 rfl (by decide) (e := ⟨4, .data⟩) (by simp) rfl rfl) rfl; have hgoal := hR.go hSt hEs hN HQB 0 rfl (XBF.out 0 (by decide)) (by decide); clear hF hpre hl hR hN; go_simp; exact ⟨_, rfl, hgoal _ _ (Below.refl _ _) rfl⟩
                | 1, ho =>
                  simp at ho; subst ho; refine step_plain rfl ?_; have hN := hF.later hl 2 rfl (e := ⟨1, .data⟩) (by simp) rfl rfl; have hN := hF.back hN 3 rfl (by decide) (e := ⟨2, .data⟩) (by simp) rfl rfl; have hN := hF.back hN 4 rfl (by decide) (e := ⟨3, .data⟩) (by simp) rfl rfl; have e6 := hF.was 6 (by kernel_rfl) rfl; have hgoal := hR.go hSt hEs hN HQB 1 rfl (XBF.out 1 (by decide)) (by decide); clear hF hpre hl hR hN; go_simp; exact ⟨_, rfl, hgoal _ _ (Below.refl _ _) rfl⟩
                | 2, ho =>
                  simp at ho; subst ho; refine step_plain rfl ?_; have hN := hF.later hl 3 rfl (e := ⟨2, .data⟩) (by simp) rfl rfl; have hN := hF.back hN 4 rfl (by decide) (e := ⟨3, .data⟩) (by simp) rfl rfl; have e43 := hF.gvs hR.1 HQB 1 (by decide) (by decide) rfl (hpre ⟨1, .data⟩ (by simp) rfl) rfl; have hgoal := hR.go hSt hEs hN HQB 2 rfl (XBF.out 2 (by decide)) (by decide); have q0 := hR.cell c3 HNE.out; clear hF hpre hl hR hN; go_simp; exact ⟨_, rfl, hgoal _ _ (Below.refl _ _) rfl⟩
                | 3, ho =>
                  simp at ho; subst ho; refine step_plain rfl ?_; have hN := hF.later hl 4 rfl (e := ⟨3, .data⟩) (by simp) rfl rfl; have e44 := hF.gvs hR.1 HQB 2 (by decide) (by decide) rfl (hpre ⟨2, .data⟩ (by simp) rfl) rfl
                  have hgoal : ∀ v0' w0', Below y.heap.size y w0' → OneI pa v0' w0' → RA QB EB wr2 4 7 (ul) PB9 (upd val 3 v0') (L.setIfInBounds 3 true) w0' := fun v0' w0' hb hq => hR.step hSt hEs hN hb (QG.none HQB 3 rfl (fun _ _ => trivial) _ _) ((XB3.out _ _).2 hq) (by decide)
                  clear hF hpre hl hR hN; go_simp; exact ⟨_, rfl, hgoal _ _ ((Below.refl _ _).alloc (Nat.le_refl _) _) OneI.new⟩
                | 4, ho =>
                  simp at ho; subst ho; refine step_plain rfl ?_
                  have hls : 4 < L.size := by rw [hF.lsize]; decide
                  have hN : L.getD 4 false = false := by rw [← getD_same hls]; exact hl
                  have hT := hF.later hl 7 rfl (e := ⟨4, .data⟩) (by simp) rfl rfl
                  have e42 := hF.gvs hR.1 HQB 0 (by decide) (by decide) rfl (hpre ⟨0, .data⟩ (by simp) rfl) rfl; have e45 := hF.gave 3 rfl (hpre ⟨3, .data⟩ (by simp) rfl) rfl
                  have v3 := (XB3.out _ _).1 ((hR.2.1 hN).2 3 (hpre ⟨3, .data⟩ (by simp) rfl))
                  have hb9 := (hR.2.1 hN).1
                  refine step_pushI (.tmp 42) (.tmp 45) rfl (w1.heap.size) (ul) ((efL N D d k).take i) (by simpa [Act.eval] using e42) (HOL8.out.stay hb9) _ (pa) (by simpa [Act.eval] using e45) v3 hlen (Nat.le_trans hbs hb9.size) ?_
                  intro v' w9 h9 g9'
                  exact ⟨_, rfl, hR.push hSt hls hN hT (by decide) (by rw [HPB9.out]; exact h9) g9'⟩
                | 5, ho =>
                  simp at ho; subst ho; refine step_plain rfl ?_; have e6 := hF.was 6 (by kernel_rfl) rfl; have hgoal := hR.goR hSt hEs HQB 5 rfl (XBF.out 5 (by decide)) (by decide) (by decide); clear hF hpre hl hR; go_simp; exact ⟨_, rfl, hgoal _ rfl⟩
                | 6, ho =>
                  simp at ho; subst ho; refine step_plain rfl ?_; have e47 := hF.gvs hR.1 HQB 5 (by decide) (by decide) rfl (hpre ⟨5, .data⟩ (by simp) rfl) rfl; have hgoal := hR.goR hSt hEs HQB 6 rfl (XBF.out 6 (by decide)) (by decide) (by decide); have q0 := hR.cell c5 HNE.out; clear hF hpre hl hR; go_simp; exact ⟨_, rfl, hgoal _ rfl⟩
                | 7, ho =>
                  simp at ho; subst ho; refine step_plain rfl ?_
                  have hs := hpre ⟨4, .data⟩ (by simp) rfl
                  have hgoal := hR.assign hs (by decide); have e46 := hF.gave 4 rfl hs rfl; clear hF hpre hl hR hs; go_simp; exact ⟨_, rfl, hgoal⟩
                | 8, ho =>
                  simp at ho; subst ho; refine step_plain rfl ?_; have e48 := hF.gvs hR.1 HQB 6 (by decide) (by decide) rfl (hpre ⟨6, .data⟩ (by simp) rfl) rfl; have hgoal := hR.goR hSt hEs HQB 8 rfl (XBF.out 8 (by decide)) (by decide) (by decide); clear hF hpre hl hR; go_simp; exact ⟨_, rfl, hgoal _ rfl⟩
                | i + 9, ho => simp at ho
              case hendB =>
                intro val L b' y hF hall hR
                have e := hF.all (by kernel_rfl) hall
                obtain ⟨ownB, asgB, grwB⟩ := hR.2.2 (hall 4 (by decide))
                have asgB := asgB (hall 7 (by decide))
                rw [HPB9.out] at ownB; (try dsimp only at ownB)
                have OWNB := Lib.hid ownB
                have GRWB := Lib.hid grwB
                have kB8 := QG.val HQB rfl (hR.1 8 (hall 8 (by decide)) (by decide) (by decide))
                clear hF hall hR hSt hEs ownB grwB HQB XBF HPB9 XB3
                subst e
                simp [final, dstOf, List.range, List.range.loop]
                rw [asgB, kB8]
                clear asgB kB8
                obtain ⟨uB9, huB9⟩ : ∃ u9, val 4 = u9 := ⟨_, rfl⟩
                rw [huB9] at OWNB ⊢
                clear huB9
                obtain ⟨y9, hy9, gy9⟩ := GRWB.out
                have HB9 := Lib.hid (OI.below (HOL8.out.stay hy9) gy9 (HB8.out.trans (hy9.mono HB8.out.size)) (Nat.le_trans HB8.out.size hy9.size) (Nat.le_refl _))
                clear hy9 gy9 c3 c5 lc
                go_wp2
                go_roundw
                case rel =>
                  refine ⟨i + 1, hlt, by go_num, ?_, ?_, HB9.out⟩
                  · rw [if_neg (Nat.succ_ne_zero i), HPE.out]
                  · have h9 := OWNB.out
                    rw [HPA.out, take_more (by rw [efL_len]; have := HNK.out; omega)] at h9
                    exact h9
                case measure => simp [intOf] <;> omega
    · obtain rfl : i = n := by omega
      have hd0 : dd = powI d k := HDD.out (by omega)
      have hq := hol.qi
      rw [show (efL N D d k).take i = efL N D d k from List.take_of_length_le (by rw [efL_len]; have := HNK.out; omega)] at hq
      have HQ9 := Lib.hid hq
      have HBF := Lib.hid (HB0.out.trans (hbw.mono HB0.out.size))
      have HDQ := Lib.hid hd0
      clear hol hbw hq hd0
      go_wp2
      go_ret2
      exact ⟨ul, by have e9 := HDQ.out; subst e9; rfl, HQ9.out, HBF.out⟩
end Go.Proofs.Ytnnmmojlgikdgaa

/- The reference's weights. -/
namespace Go.Proofs.Ytnnmmojlgikdgaa
open Go.RowKit

theorem oneL_drop (n t : Nat) : (oneL (n + 2) (t + 2)).drop 2 = oneL n t := by
  unfold oneL
  rw [List.replicate_succ, List.replicate_succ]
  rfl
theorem oneL_drop0 (n i : Nat) (hi : i < 2) : (oneL (n + 2) i).drop 2 = zG n := by
  unfold oneL zG
  rw [List.replicate_succ, List.replicate_succ]
  match i, hi with
  | 0, _ => rfl
  | 1, _ => rfl
theorem w_first {N D d : Int} {n : Nat} : (swK N D d 1 0 (zG n) n).1 = gz (efL N D d n) 0 := by
  have := eff_one N D d (k := n) (i := 0) (by omega)
  rw [oneL_gz _ _ _ (by omega), oneL_gz _ _ _ (by omega), oneL_drop0 _ _ (by omega)] at this
  exact this
theorem w_second {N D d : Int} {n : Nat} : (swK N D d 0 1 (zG n) n).1 = gz (efL N D d n) 1 := by
  have := eff_one N D d (k := n) (i := 1) (by omega)
  rw [oneL_gz _ _ _ (by omega), oneL_gz _ _ _ (by omega), oneL_drop0 _ _ (by omega)] at this
  exact this
theorem w_gust {N D d : Int} {n t : Nat} (ht : t < n) : (swK N D d 0 0 (oneL n t) n).1 = gz (efL N D d n) (t + 2) := by
  have := eff_one N D d (k := n) (i := t + 2) (by omega)
  rw [oneL_gz _ _ _ (by omega), oneL_gz _ _ _ (by omega), oneL_drop, if_neg (by omega), if_neg (by omega)] at this
  exact this
theorem swList_last (N D d a v : Int) (G : List Int) (n : Nat) : (swList N D d a v G n)[n]? = some (swK N D d a v G n).1 := by
  unfold swList
  rw [List.getElem?_map, List.getElem?_range (by omega)]
  rfl
/-- A pointer to a number. -/
def PtI (x : Int) (v : Value) (W : World) : Prop := ∃ b off, v = .pointer (some ⟨b, off, none⟩) ∧ W.cell? ⟨b, off, none⟩ = some (.int .i64 x)
theorem PtI.stay {x : Int} {v : Value} {W W' : World} (h : PtI x v W) (hb : Below W.heap.size W W') : PtI x v W' := by
  obtain ⟨b, off, e, h⟩ := h
  exact ⟨b, off, e, cell_keep hb h⟩
def OwnI (B : Nat) (l : List Int) (v : Value) (W : World) : Prop := OI B v l W
theorem OwnI.stay {B : Nat} {l : List Int} {v : Value} {W W' : World} (h : OwnI B l v W) (hb : Below W.heap.size W W') : OwnI B l v W' := OI.stay h hb
theorem OI.lit2 {W : World} {B : Nat} (a b : Int) (hB : B ≤ W.heap.size) : OI B (.slice (some ⟨W.heap.size, 0, none⟩) 2 2) [a, b] (W.alloc (.cells #[.int .i64 a, .int .i64 b] 3)) := by
  have := (World.ownsRow_lit (base := W.heap.size) (e := 3) (size := 1) W #[.int .i64 a, .int .i64 b] 2 (by simp) (le_maxLen (by omega)) (by simp)).mono hB
  simpa [OI] using this

set_option maxRecDepth 100000 in
set_option maxHeartbeats 2000000 in
theorem weights_any (N D d : Int) (n : Nat) (w : World) (hs : slB N D d = true) (hn : n ≤ 16) :
    Calls Try.prog 101 #[.agg #[.int .i64 N, .int .i64 D, .int .i64 d], .int .i64 n] w fun e w' => ∃ u, e = .returned u ∧ QI (efL N D d n) u w' ∧ Below w.heap.size w w' := by
  have hz : ∀ a v, staB a v = true → SwB N D d a v (zG n) := fun a v h => swB_all hs h (zG_wB n) (by rw [zG_len]; exact hn)
  have HSZ := Lib.hid (fun (a v : Int) (h : staB a v = true) (A9 : Option Addr) (c9 : Nat) (W : World) (hr : RI W W.heap.size A9 (zG n)) => swung_any N D d a v A9 n c9 W.heap.size (zG n) W hs (zG_len n) hn (zG_wB n) (hz a v h) (Nat.le_refl _) hr)
  have HSO := Lib.hid (fun (t : Nat) (ht : t < n) (A9 : Option Addr) (c9 : Nat) (W : World) (hr : RI W W.heap.size A9 (oneL n t)) => swung_any N D d 0 0 A9 n c9 W.heap.size (oneL n t) W hs (oneL_len n t) hn (by have := oneL_wB (n + 2) (t + 2); rwa [oneL_drop] at this) (swB_all hs (by decide) (by have := oneL_wB (n + 2) (t + 2); rwa [oneL_drop] at this) (by rw [oneL_len]; exact hn)) (Nat.le_refl _) hr)
  have HB0 := Lib.hid ((Below.refl w.heap.size w).alloc (Nat.le_refl _) (.cells #[.int .i64 N, .int .i64 D, .int .i64 d] 23))
  have HT0 := Lib.hid (blk_new w (.cells #[.int .i64 N, .int .i64 D, .int .i64 d] 23) _ rfl)
  have HEL := Lib.hid (efL_len N D d n)
  clear hs hz
  go_enter Try.func101, Try.ntmps101
  go_upto_region 1 with (fail)
  generalize World.alloc w _ = w1 at *
  go_upto_region 2 with (at_make; refine wpList_makeI rfl _ _ rfl n rfl rfl (by omega) ?_)
  have HQ2 := Lib.hid (QI.made w1 n)
  have HB2 := Lib.hid (HB0.out.alloc HB0.out.size (.cells (madeCells #[Value.int .i64 0] n) 3))
  have HT2 := Lib.hid (blk_old (.cells (madeCells #[Value.int .i64 0] n) 3) HT0.out)
  obtain ⟨gr, hgr⟩ : ∃ z, w1.heap.size = z := ⟨_, rfl⟩
  rw [hgr] at HQ2 ⊢
  clear hgr
  generalize World.alloc w1 _ = w2 at *
  have b0 := cellOf (o := 0) HT2.out rfl
  have b1 := cellOf (o := 1) HT2.out rfl
  have b2 := cellOf (o := 2) HT2.out rfl
  have l1 := lt_of_block HT2.out
  have HRZ := Lib.hid (show RI w2 w2.heap.size (some ⟨gr, 0, none⟩) (zG n) by
    obtain ⟨A, c, e, _, hr⟩ := HQ2.out
    rw [zG_len] at e
    injection e with e1 e2 e3
    rw [e1]; exact hr)
  have hnl : n < n + 1 := by omega
  have h0n : (0 : Int) ≤ (n : Int) := by omega
  have hnli : (n : Int) < (n : Int) + 1 := by omega
  obtain ⟨Q, hQ⟩ : ∃ q9 : Nat → Value → World → Prop, q9 = QG [some (.agg #[.int .i64 N, .int .i64 D, .int .i64 d]), some (.slice (some ⟨gr, 0, none⟩) n n), none, some (.int .i64 ((n : Int))), none, some (.int .i64 ((swK N D d 1 0 (zG n) n).1)), some (.agg #[.int .i64 N, .int .i64 D, .int .i64 d]), some (.slice (some ⟨gr, 0, none⟩) n n), none, some (.int .i64 ((n : Int))), none, some (.int .i64 ((swK N D d 0 1 (zG n) n).1)), none, none] (fun j0' v0' w0' => (j0' = 2 → QI (swList N D d 1 0 (zG n) n) v0' w0') ∧ (j0' = 8 → QI (swList N D d 0 1 (zG n) n) v0' w0') ∧ (j0' = 4 → PtI (swK N D d 1 0 (zG n) n).1 v0' w0') ∧ (j0' = 10 → PtI (swK N D d 0 1 (zG n) n).1 v0' w0') ∧ (j0' = 12 → OwnI w2.heap.size [(swK N D d 1 0 (zG n) n).1, (swK N D d 0 1 (zG n) n).1] v0' w0') ∧ (j0' = 13 → OwnI w2.heap.size [(swK N D d 1 0 (zG n) n).1, (swK N D d 0 1 (zG n) n).1] v0' w0')) := ⟨_, rfl⟩
  have hst : Stays Q := by rw [hQ]; exact QG.stays (fun j v W W' h hb => ⟨fun e => (h.1 e).stay hb, fun e => (h.2.1 e).stay hb, fun e => (h.2.2.1 e).stay hb, fun e => (h.2.2.2.1 e).stay hb, fun e => (h.2.2.2.2.1 e).stay hb, fun e => (h.2.2.2.2.2 e).stay hb⟩)
  have U2 := Lib.hid (show ∀ v0' w0', Q 2 v0' w0' ↔ QI (swList N D d 1 0 (zG n) n) v0' w0' from fun v0' w0' => by rw [hQ]; exact ⟨fun h => h.1 rfl, fun h => ⟨fun _ => h, fun e => absurd e (by decide), fun e => absurd e (by decide), fun e => absurd e (by decide), fun e => absurd e (by decide), fun e => absurd e (by decide)⟩⟩)
  have U4 := Lib.hid (show ∀ v0' w0', Q 4 v0' w0' ↔ PtI (swK N D d 1 0 (zG n) n).1 v0' w0' from fun v0' w0' => by rw [hQ]; exact ⟨fun h => h.2.2.1 rfl, fun h => ⟨fun e => absurd e (by decide), fun e => absurd e (by decide), fun _ => h, fun e => absurd e (by decide), fun e => absurd e (by decide), fun e => absurd e (by decide)⟩⟩)
  have U8 := Lib.hid (show ∀ v0' w0', Q 8 v0' w0' ↔ QI (swList N D d 0 1 (zG n) n) v0' w0' from fun v0' w0' => by rw [hQ]; exact ⟨fun h => h.2.1 rfl, fun h => ⟨fun e => absurd e (by decide), fun _ => h, fun e => absurd e (by decide), fun e => absurd e (by decide), fun e => absurd e (by decide), fun e => absurd e (by decide)⟩⟩)
  have U10 := Lib.hid (show ∀ v0' w0', Q 10 v0' w0' ↔ PtI (swK N D d 0 1 (zG n) n).1 v0' w0' from fun v0' w0' => by rw [hQ]; exact ⟨fun h => h.2.2.2.1 rfl, fun h => ⟨fun e => absurd e (by decide), fun e => absurd e (by decide), fun e => absurd e (by decide), fun _ => h, fun e => absurd e (by decide), fun e => absurd e (by decide)⟩⟩)
  have U12 := Lib.hid (show ∀ v0' w0', Q 12 v0' w0' ↔ OwnI w2.heap.size [(swK N D d 1 0 (zG n) n).1, (swK N D d 0 1 (zG n) n).1] v0' w0' from fun v0' w0' => by rw [hQ]; exact ⟨fun h => h.2.2.2.2.1 rfl, fun h => ⟨fun e => absurd e (by decide), fun e => absurd e (by decide), fun e => absurd e (by decide), fun e => absurd e (by decide), fun _ => h, fun e => absurd e (by decide)⟩⟩)
  have U13 := Lib.hid (show ∀ v0' w0', Q 13 v0' w0' ↔ OwnI w2.heap.size [(swK N D d 1 0 (zG n) n).1, (swK N D d 0 1 (zG n) n).1] v0' w0' from fun v0' w0' => by rw [hQ]; exact ⟨fun h => h.2.2.2.2.2 rfl, fun h => ⟨fun e => absurd e (by decide), fun e => absurd e (by decide), fun e => absurd e (by decide), fun e => absurd e (by decide), fun e => absurd e (by decide), fun _ => h⟩⟩)
  have HQ := Lib.hid hQ
  clear hQ
  refine wpIn_wide.1 (region_inv2 (n := 9) (by kernel_rfl) (RQ Q w2) (by kernel_rfl) rfl (RQ.start _ _ _) ?hstep ?hend)
  case hstep =>
    intro i' o ho val L b' x hF hR hpre hl
    match i', ho with
    | 0, ho =>
      simp at ho; subst ho; refine step_plain rfl ?_; have e2 := hF.was 2 (by kernel_rfl) rfl; have hgoal := hR.go hst HQ 0 rfl; have q0 := cell_keep hR.1 b0; have q1 := cell_keep hR.1 b1; have q2 := cell_keep hR.1 b2; clear hF hpre hl hR; go_simp; exact ⟨_, rfl, hgoal _ _ (Below.refl _ _) rfl⟩
    | 1, ho =>
      simp at ho; subst ho; refine step_plain rfl ?_; have e5 := hF.was 5 (by kernel_rfl) rfl; have hgoal := hR.go hst HQ 1 rfl; clear hF hpre hl hR; go_simp; exact ⟨_, rfl, hgoal _ _ (Below.refl _ _) rfl⟩
    | 2, ho =>
      simp at ho; subst ho; refine step_plain rfl ?_; have e11 := hF.gv hR.2 HQ 0 rfl (hpre ⟨0, .data⟩ (by simp) rfl) rfl; have e12 := hF.gv hR.2 HQ 1 rfl (hpre ⟨1, .data⟩ (by simp) rfl) rfl
      have hgoal : ∀ v0' w0', Below x.heap.size x w0' → QI (swList N D d 1 0 (zG n) n) v0' w0' → RQ Q w2 (upd val 2 v0') (L.setIfInBounds 2 true) w0' := fun v0' w0' hb hq => hR.step hst hb ((U2.out _ _).2 hq)
      have hM := Lib.hid hR.1
      clear hF hpre hl hR; go_simp
      refine ⟨trivial, ?_⟩
      refine CallsIn.mono (callsIn_wide.2 (HSZ.out 1 0 (by decide) _ _ _ ((HRZ.out.below hM.out).more hM.out.size))) ?_
      rintro e w9 ⟨u, rfl, hq9, hb9⟩
      exact ⟨_, rfl, hgoal _ _ hb9 hq9⟩
    | 3, ho =>
      simp at ho; subst ho; refine step_plain rfl ?_; have e1 := hF.was 1 (by kernel_rfl) rfl; have hgoal := hR.go hst HQ 3 rfl; clear hF hpre hl hR; go_simp; exact ⟨_, rfl, hgoal _ _ (Below.refl _ _) rfl⟩
    | 4, ho =>
      simp at ho; subst ho; refine step_plain rfl ?_; have e13 := hF.gave 2 rfl (hpre ⟨2, .data⟩ (by simp) rfl) rfl
      have v2 := (U2.out _ _).1 (hR.2 2 (hpre ⟨2, .data⟩ (by simp) rfl))
      have e14 := hF.gv hR.2 HQ 3 rfl (hpre ⟨3, .data⟩ (by simp) rfl) rfl
      have hgoal : ∀ v0' w0', Below x.heap.size x w0' → PtI (swK N D d 1 0 (zG n) n).1 v0' w0' → RQ Q w2 (upd val 4 v0') (L.setIfInBounds 4 true) w0' := fun v0' w0' hb hq => hR.step hst hb ((U4.out _ _).2 hq)
      have hM := Lib.hid hR.1
      clear hF hpre hl hR
      obtain ⟨A, c, e, _, hr⟩ := v2
      rw [e, swList_len] at e13
      obtain ⟨bb, off, x, rfl, _, hx, hcx⟩ := hr.at_ (k := n) (by rw [swList_len]; omega)
      rw [swList_last] at hx
      injection hx with hx
      rw [← hx] at hcx
      clear hr e
      go_simp; exact ⟨_, rfl, hgoal _ _ (Below.refl _ _) ⟨bb, off + n, rfl, hcx⟩⟩
    | 5, ho =>
      simp at ho; subst ho; refine step_plain rfl ?_; have e15 := hF.gave 4 rfl (hpre ⟨4, .data⟩ (by simp) rfl) rfl
      have v4 := (U4.out _ _).1 (hR.2 4 (hpre ⟨4, .data⟩ (by simp) rfl))
      have hgoal := hR.go hst HQ 5 rfl
      have hM := Lib.hid hR.1
      clear hF hpre hl hR
      obtain ⟨bb, off, e, hcx⟩ := v4
      rw [e] at e15
      go_simp; exact ⟨_, rfl, hgoal _ _ (Below.refl _ _) rfl⟩
    | 6, ho =>
      simp at ho; subst ho; refine step_plain rfl ?_; have e2 := hF.was 2 (by kernel_rfl) rfl; have hgoal := hR.go hst HQ 6 rfl; have q0 := cell_keep hR.1 b0; have q1 := cell_keep hR.1 b1; have q2 := cell_keep hR.1 b2; clear hF hpre hl hR; go_simp; exact ⟨_, rfl, hgoal _ _ (Below.refl _ _) rfl⟩
    | 7, ho =>
      simp at ho; subst ho; refine step_plain rfl ?_; have e5 := hF.was 5 (by kernel_rfl) rfl; have hgoal := hR.go hst HQ 7 rfl; clear hF hpre hl hR; go_simp; exact ⟨_, rfl, hgoal _ _ (Below.refl _ _) rfl⟩
    | 8, ho =>
      simp at ho; subst ho; refine step_plain rfl ?_; have e17 := hF.gv hR.2 HQ 6 rfl (hpre ⟨6, .data⟩ (by simp) rfl) rfl; have e18 := hF.gv hR.2 HQ 7 rfl (hpre ⟨7, .data⟩ (by simp) rfl) rfl
      have hgoal : ∀ v0' w0', Below x.heap.size x w0' → QI (swList N D d 0 1 (zG n) n) v0' w0' → RQ Q w2 (upd val 8 v0') (L.setIfInBounds 8 true) w0' := fun v0' w0' hb hq => hR.step hst hb ((U8.out _ _).2 hq)
      have hM := Lib.hid hR.1
      clear hF hpre hl hR; go_simp
      refine ⟨trivial, ?_⟩
      refine CallsIn.mono (callsIn_wide.2 (HSZ.out 0 1 (by decide) _ _ _ ((HRZ.out.below hM.out).more hM.out.size))) ?_
      rintro e w9 ⟨u, rfl, hq9, hb9⟩
      exact ⟨_, rfl, hgoal _ _ hb9 hq9⟩
    | 9, ho =>
      simp at ho; subst ho; refine step_plain rfl ?_; have e1 := hF.was 1 (by kernel_rfl) rfl; have hgoal := hR.go hst HQ 9 rfl; clear hF hpre hl hR; go_simp; exact ⟨_, rfl, hgoal _ _ (Below.refl _ _) rfl⟩
    | 10, ho =>
      simp at ho; subst ho; refine step_plain rfl ?_; have e19 := hF.gave 8 rfl (hpre ⟨8, .data⟩ (by simp) rfl) rfl
      have v8 := (U8.out _ _).1 (hR.2 8 (hpre ⟨8, .data⟩ (by simp) rfl))
      have e20 := hF.gv hR.2 HQ 9 rfl (hpre ⟨9, .data⟩ (by simp) rfl) rfl
      have hgoal : ∀ v0' w0', Below x.heap.size x w0' → PtI (swK N D d 0 1 (zG n) n).1 v0' w0' → RQ Q w2 (upd val 10 v0') (L.setIfInBounds 10 true) w0' := fun v0' w0' hb hq => hR.step hst hb ((U10.out _ _).2 hq)
      have hM := Lib.hid hR.1
      clear hF hpre hl hR
      obtain ⟨A, c, e, _, hr⟩ := v8
      rw [e, swList_len] at e19
      obtain ⟨bb, off, x, rfl, _, hx, hcx⟩ := hr.at_ (k := n) (by rw [swList_len]; omega)
      rw [swList_last] at hx
      injection hx with hx
      rw [← hx] at hcx
      clear hr e
      go_simp; exact ⟨_, rfl, hgoal _ _ (Below.refl _ _) ⟨bb, off + n, rfl, hcx⟩⟩
    | 11, ho =>
      simp at ho; subst ho; refine step_plain rfl ?_; have e21 := hF.gave 10 rfl (hpre ⟨10, .data⟩ (by simp) rfl) rfl
      have v10 := (U10.out _ _).1 (hR.2 10 (hpre ⟨10, .data⟩ (by simp) rfl))
      have hgoal := hR.go hst HQ 11 rfl
      have hM := Lib.hid hR.1
      clear hF hpre hl hR
      obtain ⟨bb, off, e, hcx⟩ := v10
      rw [e] at e21
      go_simp; exact ⟨_, rfl, hgoal _ _ (Below.refl _ _) rfl⟩
    | 12, ho =>
      simp at ho; subst ho; refine step_plain rfl ?_; have e16 := hF.gv hR.2 HQ 5 rfl (hpre ⟨5, .data⟩ (by simp) rfl) rfl; have e22 := hF.gv hR.2 HQ 11 rfl (hpre ⟨11, .data⟩ (by simp) rfl) rfl
      have hgoal : ∀ v0' w0', Below x.heap.size x w0' → OwnI w2.heap.size [(swK N D d 1 0 (zG n) n).1, (swK N D d 0 1 (zG n) n).1] v0' w0' → RQ Q w2 (upd val 12 v0') (L.setIfInBounds 12 true) w0' := fun v0' w0' hb hq => hR.step hst hb ((U12.out _ _).2 hq)
      have hM := Lib.hid hR.1
      clear hF hpre hl hR; go_simp; exact ⟨_, rfl, hgoal _ _ ((Below.refl _ _).alloc (Nat.le_refl _) _) (OI.lit2 _ _ hM.out.size)⟩
    | 13, ho =>
      simp at ho; subst ho; refine step_plain rfl ?_; have e23 := hF.gave 12 rfl (hpre ⟨12, .data⟩ (by simp) rfl) rfl
      have v12 := (U12.out _ _).1 (hR.2 12 (hpre ⟨12, .data⟩ (by simp) rfl))
      have hgoal : ∀ v0' w0', Below x.heap.size x w0' → OwnI w2.heap.size [(swK N D d 1 0 (zG n) n).1, (swK N D d 0 1 (zG n) n).1] v0' w0' → RQ Q w2 (upd val 13 v0') (L.setIfInBounds 13 true) w0' := fun v0' w0' hb hq => hR.step hst hb ((U13.out _ _).2 hq)
      have hM := Lib.hid hR.1
      clear hF hpre hl hR; go_simp; exact ⟨_, rfl, hgoal _ _ (Below.refl _ _) v12⟩
    | i + 14, ho => simp at ho
  case hend =>
    intro val L b' x hF hall hR
    have e := hF.all (by kernel_rfl) hall
    have k13 := (U13.out _ _).1 (hR.2 13 (hall 13 (by decide)))
    have hB := Lib.hid hR.1
    clear hF hall hR hst HQ U2 U8 U4 U10 U12 U13
    subst e
    simp [final, dstOf, List.range, List.range.loop]
    obtain ⟨u6, hu6⟩ : ∃ u, val 13 = u := ⟨_, rfl⟩
    rw [hu6] at k13 ⊢
    have HOW := Lib.hid (show OI w2.heap.size u6 ((efL N D d n).take 2) x by
      have h9 : OI w2.heap.size u6 [(swK N D d 1 0 (zG n) n).1, (swK N D d 0 1 (zG n) n).1] x := k13
      rw [w_first, w_second] at h9
      exact h9)
    have HBX := Lib.hid hB.out
    clear hu6 k13 b0 b1 b2 l1 hnl h0n hnli
    go_upto_region 4 with (fail)
    go_loopw [6, 7] (fun ul ui wr => ∃ t : Nat, t ≤ n ∧ ui = .int .i64 t ∧ OI w2.heap.size ul ((efL N D d n).take (t + 2)) wr ∧ Below w2.heap.size w2 wr) (fun _ ui _ => n - (intOf ui).toNat)
    case atStart => exact ⟨0, Nat.zero_le _, rfl, HOW.out, HBX.out⟩
    case round =>
      obtain ⟨t, ht, rfl, hol, hbw⟩ := hrel
      have HOL := Lib.hid hol
      have HBW := Lib.hid hbw
      by_cases hlt : t < n
      · have HT := Lib.hid ((hbw.block _ (lt_of_block HT2.out)).trans HT2.out)
        clear hol hbw
        go_upto_region 7 with (at_make; refine wpList_makeI rfl _ _ rfl n rfl rfl (by omega) ?_)
        have HRW := Lib.hid (RW.made wr n)
        have HBA := Lib.hid ((Below.refl wr.heap.size wr).alloc (Nat.le_refl _) (.cells (madeCells #[Value.int .i64 0] n) 3))
        obtain ⟨gs, hgs⟩ : ∃ z, wr.heap.size = z := ⟨_, rfl⟩
        have HGS := Lib.hid hgs
        rw [hgs] at HRW ⊢
        clear hgs
        generalize World.alloc wr _ = w4 at *
        have r0 := HRW.out.get (k := t) (x := 0) (by simp [hlt])
        have f0 := HRW.out.free t
        have l2 := HRW.out.lt
        go_upto_region 8 with (fail)
        have HRX := Lib.hid (show RW (w4.setCell ⟨gs, t, none⟩ (.int .i64 1)) gs (oneL n t) from HRW.out.set t 1)
        have HBS := Lib.hid (HBA.out.setCell (p := ⟨gs, t, none⟩) (Nat.le_of_eq HGS.out) (.int .i64 1))
        clear r0 f0 l2
        generalize World.setCell w4 _ _ = w5 at *
        have HT5 := Lib.hid ((HBS.out.block _ (lt_of_block HT.out)).trans HT.out)
        have HO5 := Lib.hid (HOL.out.stay HBS.out)
        have HB5 := Lib.hid (HBW.out.trans (HBS.out.mono HBW.out.size))
        have b0 := cellOf (o := 0) HT5.out rfl
        have b1 := cellOf (o := 1) HT5.out rfl
        have b2 := cellOf (o := 2) HT5.out rfl
        have l1 := lt_of_block HT5.out
        have HRO := Lib.hid HRX.out.ri
        have hmo := take_more (l := efL N D d n) (i := t + 2) (by rw [HEL.out]; omega)
        rw [← w_gust hlt] at hmo
        have HMO := Lib.hid hmo
        have hlen : ((efL N D d n).take (t + 2)).length ≤ 1000000 := by have := HEL.out; simp; omega
        have HSW := Lib.hid (HSO.out t hlt _ n w5 HRO.out)
        clear hmo
        go_wp2_with (first
          | (go_at_call 56; refine Calls.mono HSW.out ?_; rintro e w7 ⟨u, rfl, hq7, hb7⟩; obtain ⟨A7, c7, rfl, _, hr7⟩ := hq7; rw [swList_len]; obtain ⟨bb, off, y, rfl, _, hx, hcx⟩ := hr7.at_ (k := n) (by rw [swList_len]; omega); rw [swList_last] at hx; injection hx with hx; have HO7 := Lib.hid (HO5.out.stay hb7); have HB7 := Lib.hid (HB5.out.trans (hb7.mono HB5.out.size)); have lb7 := World.block_lt_of_cell? _ _ hcx; have hnl : n < n + 1 := (by omega); have hnli : (n : Int) < (n : Int) + 1 := (by omega); have h0n : (0 : Int) ≤ (n : Int) := (by omega); have HY := Lib.hid hx; clear hb7 hr7 hx b0 b1 b2 l1)
          | (at_builtin; refine wpList_pushJ rfl _ _ rfl _ _ rfl HO7.out HB7.out _ rfl rfl rfl rfl rfl hlen ?_; intro v' w' hv' hb'; have HV' := Lib.hid hv'; have HB' := Lib.hid hb'; clear hv' hb'))
        go_roundw
        case rel => exact ⟨t + 1, hlt, by go_num, by have h9 := HV'.out; rw [← HY.out, HMO.out] at h9; exact h9, HB'.out⟩
        case measure => simp [intOf] <;> omega
      · obtain rfl : t = n := by omega
        have hq := hol.qi
        rw [show (efL N D d t).take (t + 2) = efL N D d t from List.take_of_length_le (by rw [HEL.out]; exact Nat.le_refl _)] at hq
        have HQ9 := Lib.hid hq
        have HBF := Lib.hid (HB2.out.trans (hbw.mono HB2.out.size))
        clear hol hbw hq
        go_wp2
        go_ret
        exact ⟨_, rfl, HQ9.out, HBF.out⟩
end Go.Proofs.Ytnnmmojlgikdgaa

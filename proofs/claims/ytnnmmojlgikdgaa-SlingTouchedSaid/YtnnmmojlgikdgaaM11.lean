/- Contracts of the functions that the statement reaches: JStep3, JStep4. -/
import Derived.Test.YtnnmmojlgikdgaaM10

/- The reference's Step: step 1. -/
namespace Go.Proofs.Ytnnmmojlgikdgaa
open Go.RowKit

section
variable (cable charge y1 y2 len wt since cyc : Int) (cut tch : Bool) (k n : Int) (AX AY AV : Option Addr) (nx cx ny cy nv cv B : Nat) (X Y : List Int) (V : List (List Int)) (w : World)

set_option maxRecDepth 100000 in
set_option maxHeartbeats 4000000 in
theorem step1 (h : HT w B AX AY AV nx ny nv X Y V) (z0 : 0 ≤ len) (z1 : len ≤ cable) (z2 : cable ≤ 100) (w0 : 0 ≤ wt) (s0 : 0 ≤ since) (s1 : since ≤ 1000) (q0 : 0 ≤ cyc) (q1 : cyc ≤ 1000) :
    Calls Try.prog 81 #[.agg #[.int .i64 cable, .slice AX nx cx, .slice AY ny cy, .slice AV nv cv, .int .i64 charge], .agg #[.int .i64 y1, .int .i64 y2], .agg #[.int .i64 len, .int .i64 wt, .int .i64 since, .int .i64 cyc, .bool false], .bool tch, .agg #[.int .i64 1, .int .i64 n]] w (GivesT w (posB (fun l u => carB X Y V l l y1 y2 u) cable charge ⟨len, wt, since, cyc, false, tch⟩ 1 n) (if posB (fun l u => carB X Y V l l y1 y2 u) cable charge ⟨len, wt, since, cyc, false, tch⟩ 1 n then ⟨len + n, wt, since + 1, cyc, false, tch⟩ else ⟨len, wt, since, cyc, false, tch⟩)) := by
  have S5 := Lib.hid (st_new cable charge y1 y2 len wt since cyc false 1 n AX AY AV nx cx ny cy nv cv w)
  have i7 : IntKind.i64.wrap (since + 1) = since + 1 := IntWalk.i64_in _ (by omega)
  have i8 : IntKind.i64.wrap (cyc + 1) = cyc + 1 := IntWalk.i64_in _ (by omega)
  have HBE := Lib.hid (fun (W : World) (hW : Below w.heap.size w W) => bears_any cable charge y1 y2 (len + n) wt AX AY AV nx cx ny cy nv cv B X Y V W (h.below hW))
  clear h
  by_cases g1 : n < 1
  · rw [show posB (fun l u => carB X Y V l l y1 y2 u) cable charge ⟨len, wt, since, cyc, false, tch⟩ 1 n = false by unfold posB; simp; intro a; omega]
    simp only [Bool.false_eq_true, if_false]
    go_enter Try.func81, Try.ntmps81
    go_upto_region 9 with (fail)
    have S6 := Lib.hid (st_next _ _ _ _ _ _ _ _ _ _ _ _ _ _ _ _ _ _ _ _ _ S5.out (.cells #[.int .i64 (len), .int .i64 (wt), .int .i64 (since + 1), .int .i64 (cyc), .bool false] 61))
    clear S5
    generalize World.alloc _ _ = w6 at *
    have HB6 := Lib.hid S6.out.hb
    have hb4 := S6.out.b4
    have hs6 := S6.out.sz
    have x0 := cellOf (o := 0) S6.out.b0 rfl
    have c0 := cellOf (o := 0) S6.out.b2 rfl
    have m0 := cellOf (o := 0) S6.out.b5 rfl
    have x1 := cellOf (o := 1) S6.out.b0 rfl
    have c1 := cellOf (o := 1) S6.out.b2 rfl
    have m1 := cellOf (o := 1) S6.out.b5 rfl
    have x2 := cellOf (o := 2) S6.out.b0 rfl
    have c2 := cellOf (o := 2) S6.out.b2 rfl
    have m2 := cellOf (o := 2) S6.out.b5 rfl
    have x3 := cellOf (o := 3) S6.out.b0 rfl
    have c3 := cellOf (o := 3) S6.out.b2 rfl
    have m3 := cellOf (o := 3) S6.out.b5 rfl
    have x4 := cellOf (o := 4) S6.out.b0 rfl
    have c4 := cellOf (o := 4) S6.out.b2 rfl
    have m4 := cellOf (o := 4) S6.out.b5 rfl
    have p0 := cellOf (o := 0) S6.out.b1 rfl
    have l0 := cellOf (o := 0) S6.out.b3 rfl
    have p1 := cellOf (o := 1) S6.out.b1 rfl
    have l1 := cellOf (o := 1) S6.out.b3 rfl
    clear S6
    have r0 := cellOf (o := 0) hb4 rfl
    have f0 := freeOf (o := 0) hb4
    have r1 := cellOf (o := 1) hb4 rfl
    have f1 := freeOf (o := 1) hb4
    have r2 := cellOf (o := 2) hb4 rfl
    have f2 := freeOf (o := 2) hb4
    have r3 := cellOf (o := 3) hb4 rfl
    have f3 := freeOf (o := 3) hb4
    have r4 := cellOf (o := 4) hb4 rfl
    have f4 := freeOf (o := 4) hb4
    go_wp2
    have hp := HX.put (s := zeroH) hb4 (len) (wt) (since) (cyc) false
    have HQ := Lib.hid (hx_below (b := w.heap.size + 1 + 1 + 1 + 1) HB6.out (by omega) (.int .i64 (len)) (.int .i64 (wt)) (.int .i64 (since)) (.int .i64 (cyc)) (.bool false))
    clear r0 r1 r2 r3 r4 f0 f1 f2 f3 f4
    generalize ((((World.setCell w6 _ _).setCell _ _).setCell _ _).setCell _ _).setCell _ _ = w9 at *
    have d0 := cellOf (o := 0) hp rfl
    have d1 := cellOf (o := 1) hp rfl
    have d2 := cellOf (o := 2) hp rfl
    have d3 := cellOf (o := 3) hp rfl
    have d4 := cellOf (o := 4) hp rfl
    exact bodyPost_ret (v := .tuple #[.agg #[.int .i64 (len), .int .i64 (wt), .int .i64 (since), .int .i64 (cyc), .bool false], .bool tch, .bool (false)]) (by simp [results, Try.results81, go_sem, d0, d1, d2, d3, d4]) rfl ⟨rfl, HQ.out⟩
  by_cases g2 : 100 < n
  · rw [show posB (fun l u => carB X Y V l l y1 y2 u) cable charge ⟨len, wt, since, cyc, false, tch⟩ 1 n = false by unfold posB; simp; intro a b; omega]
    simp only [Bool.false_eq_true, if_false]
    go_enter Try.func81, Try.ntmps81
    go_upto_region 9 with (fail)
    have S6 := Lib.hid (st_next _ _ _ _ _ _ _ _ _ _ _ _ _ _ _ _ _ _ _ _ _ S5.out (.cells #[.int .i64 (len), .int .i64 (wt), .int .i64 (since + 1), .int .i64 (cyc), .bool false] 61))
    clear S5
    generalize World.alloc _ _ = w6 at *
    have HB6 := Lib.hid S6.out.hb
    have hb4 := S6.out.b4
    have hs6 := S6.out.sz
    have x0 := cellOf (o := 0) S6.out.b0 rfl
    have c0 := cellOf (o := 0) S6.out.b2 rfl
    have m0 := cellOf (o := 0) S6.out.b5 rfl
    have x1 := cellOf (o := 1) S6.out.b0 rfl
    have c1 := cellOf (o := 1) S6.out.b2 rfl
    have m1 := cellOf (o := 1) S6.out.b5 rfl
    have x2 := cellOf (o := 2) S6.out.b0 rfl
    have c2 := cellOf (o := 2) S6.out.b2 rfl
    have m2 := cellOf (o := 2) S6.out.b5 rfl
    have x3 := cellOf (o := 3) S6.out.b0 rfl
    have c3 := cellOf (o := 3) S6.out.b2 rfl
    have m3 := cellOf (o := 3) S6.out.b5 rfl
    have x4 := cellOf (o := 4) S6.out.b0 rfl
    have c4 := cellOf (o := 4) S6.out.b2 rfl
    have m4 := cellOf (o := 4) S6.out.b5 rfl
    have p0 := cellOf (o := 0) S6.out.b1 rfl
    have l0 := cellOf (o := 0) S6.out.b3 rfl
    have p1 := cellOf (o := 1) S6.out.b1 rfl
    have l1 := cellOf (o := 1) S6.out.b3 rfl
    clear S6
    have r0 := cellOf (o := 0) hb4 rfl
    have f0 := freeOf (o := 0) hb4
    have r1 := cellOf (o := 1) hb4 rfl
    have f1 := freeOf (o := 1) hb4
    have r2 := cellOf (o := 2) hb4 rfl
    have f2 := freeOf (o := 2) hb4
    have r3 := cellOf (o := 3) hb4 rfl
    have f3 := freeOf (o := 3) hb4
    have r4 := cellOf (o := 4) hb4 rfl
    have f4 := freeOf (o := 4) hb4
    go_wp2
    have hp := HX.put (s := zeroH) hb4 (len) (wt) (since) (cyc) false
    have HQ := Lib.hid (hx_below (b := w.heap.size + 1 + 1 + 1 + 1) HB6.out (by omega) (.int .i64 (len)) (.int .i64 (wt)) (.int .i64 (since)) (.int .i64 (cyc)) (.bool false))
    clear r0 r1 r2 r3 r4 f0 f1 f2 f3 f4
    generalize ((((World.setCell w6 _ _).setCell _ _).setCell _ _).setCell _ _).setCell _ _ = w9 at *
    have d0 := cellOf (o := 0) hp rfl
    have d1 := cellOf (o := 1) hp rfl
    have d2 := cellOf (o := 2) hp rfl
    have d3 := cellOf (o := 3) hp rfl
    have d4 := cellOf (o := 4) hp rfl
    exact bodyPost_ret (v := .tuple #[.agg #[.int .i64 (len), .int .i64 (wt), .int .i64 (since), .int .i64 (cyc), .bool false], .bool tch, .bool (false)]) (by simp [results, Try.results81, go_sem, d0, d1, d2, d3, d4]) rfl ⟨rfl, HQ.out⟩
  have i5 : IntKind.i64.wrap (len + n) = len + n := IntWalk.i64_in _ (by omega)
  by_cases g3 : cable < len + n
  · rw [show posB (fun l u => carB X Y V l l y1 y2 u) cable charge ⟨len, wt, since, cyc, false, tch⟩ 1 n = false by unfold posB; simp; intro a b; omega]
    simp only [Bool.false_eq_true, if_false]
    have H1 := Lib.hid (w7_no (a := len + n) (b := 0) (c := cable) (by omega))
    go_enter Try.func81, Try.ntmps81
    go_upto_region 13 with (fail)
    have S6 := Lib.hid (st_next _ _ _ _ _ _ _ _ _ _ _ _ _ _ _ _ _ _ _ _ _ S5.out (.cells #[.int .i64 (len + n), .int .i64 (wt), .int .i64 (since + 1), .int .i64 (cyc), .bool false] 61))
    clear S5
    generalize World.alloc _ _ = w6 at *
    have HB6 := Lib.hid S6.out.hb
    have hb4 := S6.out.b4
    have hs6 := S6.out.sz
    have x0 := cellOf (o := 0) S6.out.b0 rfl
    have c0 := cellOf (o := 0) S6.out.b2 rfl
    have m0 := cellOf (o := 0) S6.out.b5 rfl
    have x1 := cellOf (o := 1) S6.out.b0 rfl
    have c1 := cellOf (o := 1) S6.out.b2 rfl
    have m1 := cellOf (o := 1) S6.out.b5 rfl
    have x2 := cellOf (o := 2) S6.out.b0 rfl
    have c2 := cellOf (o := 2) S6.out.b2 rfl
    have m2 := cellOf (o := 2) S6.out.b5 rfl
    have x3 := cellOf (o := 3) S6.out.b0 rfl
    have c3 := cellOf (o := 3) S6.out.b2 rfl
    have m3 := cellOf (o := 3) S6.out.b5 rfl
    have x4 := cellOf (o := 4) S6.out.b0 rfl
    have c4 := cellOf (o := 4) S6.out.b2 rfl
    have m4 := cellOf (o := 4) S6.out.b5 rfl
    have p0 := cellOf (o := 0) S6.out.b1 rfl
    have l0 := cellOf (o := 0) S6.out.b3 rfl
    have p1 := cellOf (o := 1) S6.out.b1 rfl
    have l1 := cellOf (o := 1) S6.out.b3 rfl
    have S6' := Lib.hid S6.out
    clear S6
    go_upto_region 14 with (go_at_call 50; refine Calls.mono (H1.out _) ?_; rintro e w7 ⟨rfl, rfl⟩)
    have r0 := cellOf (o := 0) hb4 rfl
    have f0 := freeOf (o := 0) hb4
    have r1 := cellOf (o := 1) hb4 rfl
    have f1 := freeOf (o := 1) hb4
    have r2 := cellOf (o := 2) hb4 rfl
    have f2 := freeOf (o := 2) hb4
    have r3 := cellOf (o := 3) hb4 rfl
    have f3 := freeOf (o := 3) hb4
    have r4 := cellOf (o := 4) hb4 rfl
    have f4 := freeOf (o := 4) hb4
    go_wp2
    have hp := HX.put (s := zeroH) hb4 (len) (wt) (since) (cyc) false
    have HQ := Lib.hid (hx_below (b := w.heap.size + 1 + 1 + 1 + 1) HB6.out (by omega) (.int .i64 (len)) (.int .i64 (wt)) (.int .i64 (since)) (.int .i64 (cyc)) (.bool false))
    clear r0 r1 r2 r3 r4 f0 f1 f2 f3 f4
    generalize ((((World.setCell w6 _ _).setCell _ _).setCell _ _).setCell _ _).setCell _ _ = w9 at *
    have d0 := cellOf (o := 0) hp rfl
    have d1 := cellOf (o := 1) hp rfl
    have d2 := cellOf (o := 2) hp rfl
    have d3 := cellOf (o := 3) hp rfl
    have d4 := cellOf (o := 4) hp rfl
    exact bodyPost_ret (v := .tuple #[.agg #[.int .i64 (len), .int .i64 (wt), .int .i64 (since), .int .i64 (cyc), .bool false], .bool tch, .bool (false)]) (by simp [results, Try.results81, go_sem, d0, d1, d2, d3, d4]) rfl ⟨rfl, HQ.out⟩
  have H1 := Lib.hid (w7_yes (a := len + n) (b := 0) (c := cable) (by omega) (by omega))
  have g4 : 1 ≤ n ∧ n ≤ cable - len := by omega
  by_cases g5 : wt = 0
  · rw [show posB (fun l u => carB X Y V l l y1 y2 u) cable charge ⟨len, wt, since, cyc, false, tch⟩ 1 n = true by unfold posB; simp [g4, carB, g5]]
    simp only [if_true]
    have g6 : ¬ (0 < wt) := by omega
    clear g5
    go_enter Try.func81, Try.ntmps81
    go_upto_region 13 with (fail)
    have S6 := Lib.hid (st_next _ _ _ _ _ _ _ _ _ _ _ _ _ _ _ _ _ _ _ _ _ S5.out (.cells #[.int .i64 (len + n), .int .i64 (wt), .int .i64 (since + 1), .int .i64 (cyc), .bool false] 61))
    clear S5
    generalize World.alloc _ _ = w6 at *
    have HB6 := Lib.hid S6.out.hb
    have hb4 := S6.out.b4
    have hs6 := S6.out.sz
    have x0 := cellOf (o := 0) S6.out.b0 rfl
    have c0 := cellOf (o := 0) S6.out.b2 rfl
    have m0 := cellOf (o := 0) S6.out.b5 rfl
    have x1 := cellOf (o := 1) S6.out.b0 rfl
    have c1 := cellOf (o := 1) S6.out.b2 rfl
    have m1 := cellOf (o := 1) S6.out.b5 rfl
    have x2 := cellOf (o := 2) S6.out.b0 rfl
    have c2 := cellOf (o := 2) S6.out.b2 rfl
    have m2 := cellOf (o := 2) S6.out.b5 rfl
    have x3 := cellOf (o := 3) S6.out.b0 rfl
    have c3 := cellOf (o := 3) S6.out.b2 rfl
    have m3 := cellOf (o := 3) S6.out.b5 rfl
    have x4 := cellOf (o := 4) S6.out.b0 rfl
    have c4 := cellOf (o := 4) S6.out.b2 rfl
    have m4 := cellOf (o := 4) S6.out.b5 rfl
    have p0 := cellOf (o := 0) S6.out.b1 rfl
    have l0 := cellOf (o := 0) S6.out.b3 rfl
    have p1 := cellOf (o := 1) S6.out.b1 rfl
    have l1 := cellOf (o := 1) S6.out.b3 rfl
    have S6' := Lib.hid S6.out
    clear S6
    go_upto_region 15 with (go_at_call 50; refine Calls.mono (H1.out _) ?_; rintro e w7 ⟨rfl, rfl⟩)
    have r0 := cellOf (o := 0) hb4 rfl
    have f0 := freeOf (o := 0) hb4
    have r1 := cellOf (o := 1) hb4 rfl
    have f1 := freeOf (o := 1) hb4
    have r2 := cellOf (o := 2) hb4 rfl
    have f2 := freeOf (o := 2) hb4
    have r3 := cellOf (o := 3) hb4 rfl
    have f3 := freeOf (o := 3) hb4
    have r4 := cellOf (o := 4) hb4 rfl
    have f4 := freeOf (o := 4) hb4
    go_wp2
    have hp := HX.put (s := zeroH) hb4 (len + n) (wt) (since + 1) (cyc) false
    have HQ := Lib.hid (hx_below (b := w.heap.size + 1 + 1 + 1 + 1) HB6.out (by omega) (.int .i64 (len + n)) (.int .i64 (wt)) (.int .i64 (since + 1)) (.int .i64 (cyc)) (.bool false))
    clear r0 r1 r2 r3 r4 f0 f1 f2 f3 f4
    generalize ((((World.setCell w6 _ _).setCell _ _).setCell _ _).setCell _ _).setCell _ _ = w9 at *
    have d0 := cellOf (o := 0) hp rfl
    have d1 := cellOf (o := 1) hp rfl
    have d2 := cellOf (o := 2) hp rfl
    have d3 := cellOf (o := 3) hp rfl
    have d4 := cellOf (o := 4) hp rfl
    exact bodyPost_ret (v := .tuple #[.agg #[.int .i64 (len + n), .int .i64 (wt), .int .i64 (since + 1), .int .i64 (cyc), .bool false], .bool tch, .bool (true)]) (by simp [results, Try.results81, go_sem, d0, d1, d2, d3, d4]) rfl ⟨rfl, HQ.out⟩
  have g6 : 0 < wt := by omega
  have hpo : posB (fun l u => carB X Y V l l y1 y2 u) cable charge ⟨len, wt, since, cyc, false, tch⟩ 1 n = beaB X Y V (len + n) y1 y2 wt := by unfold posB; simp [g4, carB, g5, beaB]
  rw [hpo]
  clear hpo
  cases hbb : beaB X Y V (len + n) y1 y2 wt with
  | true =>
    rw [hbb] at HBE
    clear hbb
    simp only [if_true]
    go_enter Try.func81, Try.ntmps81
    go_upto_region 13 with (fail)
    have S6 := Lib.hid (st_next _ _ _ _ _ _ _ _ _ _ _ _ _ _ _ _ _ _ _ _ _ S5.out (.cells #[.int .i64 (len + n), .int .i64 (wt), .int .i64 (since + 1), .int .i64 (cyc), .bool false] 61))
    clear S5
    generalize World.alloc _ _ = w6 at *
    have HB6 := Lib.hid S6.out.hb
    have hb4 := S6.out.b4
    have hs6 := S6.out.sz
    have x0 := cellOf (o := 0) S6.out.b0 rfl
    have c0 := cellOf (o := 0) S6.out.b2 rfl
    have m0 := cellOf (o := 0) S6.out.b5 rfl
    have x1 := cellOf (o := 1) S6.out.b0 rfl
    have c1 := cellOf (o := 1) S6.out.b2 rfl
    have m1 := cellOf (o := 1) S6.out.b5 rfl
    have x2 := cellOf (o := 2) S6.out.b0 rfl
    have c2 := cellOf (o := 2) S6.out.b2 rfl
    have m2 := cellOf (o := 2) S6.out.b5 rfl
    have x3 := cellOf (o := 3) S6.out.b0 rfl
    have c3 := cellOf (o := 3) S6.out.b2 rfl
    have m3 := cellOf (o := 3) S6.out.b5 rfl
    have x4 := cellOf (o := 4) S6.out.b0 rfl
    have c4 := cellOf (o := 4) S6.out.b2 rfl
    have m4 := cellOf (o := 4) S6.out.b5 rfl
    have p0 := cellOf (o := 0) S6.out.b1 rfl
    have l0 := cellOf (o := 0) S6.out.b3 rfl
    have p1 := cellOf (o := 1) S6.out.b1 rfl
    have l1 := cellOf (o := 1) S6.out.b3 rfl
    have S6' := Lib.hid S6.out
    clear S6
    go_upto_region 15 with (first
      | (go_at_call 50; refine Calls.mono (H1.out _) ?_; rintro e w7 ⟨rfl, rfl⟩)
      | (go_at_call 85; refine Calls.mono (HBE.out _ HB6.out) ?_; rintro e w8 ⟨rfl, hb8⟩; have S8 := Lib.hid (ST6.stay _ _ _ _ _ _ _ _ _ _ _ _ _ _ _ _ _ _ _ _ _ S6'.out hb8); clear hb8))
    clear c0 c1 c2 c3 c4 m0 m1 m2 m3 m4
    have hb4' := S8.out.b4
    have HB8 := Lib.hid S8.out.hb
    have c0 := cellOf (o := 0) S8.out.b2 rfl
    have m0 := cellOf (o := 0) S8.out.b5 rfl
    have c1 := cellOf (o := 1) S8.out.b2 rfl
    have m1 := cellOf (o := 1) S8.out.b5 rfl
    have c2 := cellOf (o := 2) S8.out.b2 rfl
    have m2 := cellOf (o := 2) S8.out.b5 rfl
    have c3 := cellOf (o := 3) S8.out.b2 rfl
    have m3 := cellOf (o := 3) S8.out.b5 rfl
    have c4 := cellOf (o := 4) S8.out.b2 rfl
    have m4 := cellOf (o := 4) S8.out.b5 rfl
    have r0 := cellOf (o := 0) hb4' rfl
    have f0 := freeOf (o := 0) hb4'
    have r1 := cellOf (o := 1) hb4' rfl
    have f1 := freeOf (o := 1) hb4'
    have r2 := cellOf (o := 2) hb4' rfl
    have f2 := freeOf (o := 2) hb4'
    have r3 := cellOf (o := 3) hb4' rfl
    have f3 := freeOf (o := 3) hb4'
    have r4 := cellOf (o := 4) hb4' rfl
    have f4 := freeOf (o := 4) hb4'
    go_wp2
    have hp := HX.put (s := zeroH) hb4' (len + n) (wt) (since + 1) (cyc) false
    have HQ := Lib.hid (hx_below (b := w.heap.size + 1 + 1 + 1 + 1) HB8.out (by omega) (.int .i64 (len + n)) (.int .i64 (wt)) (.int .i64 (since + 1)) (.int .i64 (cyc)) (.bool false))
    clear r0 r1 r2 r3 r4 f0 f1 f2 f3 f4
    generalize ((((World.setCell w8 _ _).setCell _ _).setCell _ _).setCell _ _).setCell _ _ = w9 at *
    have d0 := cellOf (o := 0) hp rfl
    have d1 := cellOf (o := 1) hp rfl
    have d2 := cellOf (o := 2) hp rfl
    have d3 := cellOf (o := 3) hp rfl
    have d4 := cellOf (o := 4) hp rfl
    exact bodyPost_ret (v := .tuple #[.agg #[.int .i64 (len + n), .int .i64 (wt), .int .i64 (since + 1), .int .i64 (cyc), .bool false], .bool tch, .bool (true)]) (by simp [results, Try.results81, go_sem, d0, d1, d2, d3, d4]) rfl ⟨rfl, HQ.out⟩
  | false =>
    rw [hbb] at HBE
    clear hbb
    simp only [Bool.false_eq_true, if_false]
    go_enter Try.func81, Try.ntmps81
    go_upto_region 13 with (fail)
    have S6 := Lib.hid (st_next _ _ _ _ _ _ _ _ _ _ _ _ _ _ _ _ _ _ _ _ _ S5.out (.cells #[.int .i64 (len + n), .int .i64 (wt), .int .i64 (since + 1), .int .i64 (cyc), .bool false] 61))
    clear S5
    generalize World.alloc _ _ = w6 at *
    have HB6 := Lib.hid S6.out.hb
    have hb4 := S6.out.b4
    have hs6 := S6.out.sz
    have x0 := cellOf (o := 0) S6.out.b0 rfl
    have c0 := cellOf (o := 0) S6.out.b2 rfl
    have m0 := cellOf (o := 0) S6.out.b5 rfl
    have x1 := cellOf (o := 1) S6.out.b0 rfl
    have c1 := cellOf (o := 1) S6.out.b2 rfl
    have m1 := cellOf (o := 1) S6.out.b5 rfl
    have x2 := cellOf (o := 2) S6.out.b0 rfl
    have c2 := cellOf (o := 2) S6.out.b2 rfl
    have m2 := cellOf (o := 2) S6.out.b5 rfl
    have x3 := cellOf (o := 3) S6.out.b0 rfl
    have c3 := cellOf (o := 3) S6.out.b2 rfl
    have m3 := cellOf (o := 3) S6.out.b5 rfl
    have x4 := cellOf (o := 4) S6.out.b0 rfl
    have c4 := cellOf (o := 4) S6.out.b2 rfl
    have m4 := cellOf (o := 4) S6.out.b5 rfl
    have p0 := cellOf (o := 0) S6.out.b1 rfl
    have l0 := cellOf (o := 0) S6.out.b3 rfl
    have p1 := cellOf (o := 1) S6.out.b1 rfl
    have l1 := cellOf (o := 1) S6.out.b3 rfl
    have S6' := Lib.hid S6.out
    clear S6
    go_upto_region 14 with (first
      | (go_at_call 50; refine Calls.mono (H1.out _) ?_; rintro e w7 ⟨rfl, rfl⟩)
      | (go_at_call 85; refine Calls.mono (HBE.out _ HB6.out) ?_; rintro e w8 ⟨rfl, hb8⟩; have S8 := Lib.hid (ST6.stay _ _ _ _ _ _ _ _ _ _ _ _ _ _ _ _ _ _ _ _ _ S6'.out hb8); clear hb8))
    clear c0 c1 c2 c3 c4 m0 m1 m2 m3 m4
    have hb4' := S8.out.b4
    have HB8 := Lib.hid S8.out.hb
    have c0 := cellOf (o := 0) S8.out.b2 rfl
    have m0 := cellOf (o := 0) S8.out.b5 rfl
    have c1 := cellOf (o := 1) S8.out.b2 rfl
    have m1 := cellOf (o := 1) S8.out.b5 rfl
    have c2 := cellOf (o := 2) S8.out.b2 rfl
    have m2 := cellOf (o := 2) S8.out.b5 rfl
    have c3 := cellOf (o := 3) S8.out.b2 rfl
    have m3 := cellOf (o := 3) S8.out.b5 rfl
    have c4 := cellOf (o := 4) S8.out.b2 rfl
    have m4 := cellOf (o := 4) S8.out.b5 rfl
    have r0 := cellOf (o := 0) hb4' rfl
    have f0 := freeOf (o := 0) hb4'
    have r1 := cellOf (o := 1) hb4' rfl
    have f1 := freeOf (o := 1) hb4'
    have r2 := cellOf (o := 2) hb4' rfl
    have f2 := freeOf (o := 2) hb4'
    have r3 := cellOf (o := 3) hb4' rfl
    have f3 := freeOf (o := 3) hb4'
    have r4 := cellOf (o := 4) hb4' rfl
    have f4 := freeOf (o := 4) hb4'
    go_wp2
    have hp := HX.put (s := zeroH) hb4' (len) (wt) (since) (cyc) false
    have HQ := Lib.hid (hx_below (b := w.heap.size + 1 + 1 + 1 + 1) HB8.out (by omega) (.int .i64 (len)) (.int .i64 (wt)) (.int .i64 (since)) (.int .i64 (cyc)) (.bool false))
    clear r0 r1 r2 r3 r4 f0 f1 f2 f3 f4
    generalize ((((World.setCell w8 _ _).setCell _ _).setCell _ _).setCell _ _).setCell _ _ = w9 at *
    have d0 := cellOf (o := 0) hp rfl
    have d1 := cellOf (o := 1) hp rfl
    have d2 := cellOf (o := 2) hp rfl
    have d3 := cellOf (o := 3) hp rfl
    have d4 := cellOf (o := 4) hp rfl
    exact bodyPost_ret (v := .tuple #[.agg #[.int .i64 (len), .int .i64 (wt), .int .i64 (since), .int .i64 (cyc), .bool false], .bool tch, .bool (false)]) (by simp [results, Try.results81, go_sem, d0, d1, d2, d3, d4]) rfl ⟨rfl, HQ.out⟩
end
end Go.Proofs.Ytnnmmojlgikdgaa

/- The reference's Step: step 2. -/
namespace Go.Proofs.Ytnnmmojlgikdgaa
open Go.RowKit

section
variable (cable charge y1 y2 len wt since cyc : Int) (cut tch : Bool) (k n : Int) (AX AY AV : Option Addr) (nx cx ny cy nv cv B : Nat) (X Y : List Int) (V : List (List Int)) (w : World)

set_option maxRecDepth 100000 in
set_option maxHeartbeats 4000000 in
theorem step2 (h : HT w B AX AY AV nx ny nv X Y V) (z0 : 0 ≤ len) (z1 : len ≤ cable) (z2 : cable ≤ 100) (w0 : 0 ≤ wt) (s0 : 0 ≤ since) (s1 : since ≤ 1000) (q0 : 0 ≤ cyc) (q1 : cyc ≤ 1000) :
    Calls Try.prog 81 #[.agg #[.int .i64 cable, .slice AX nx cx, .slice AY ny cy, .slice AV nv cv, .int .i64 charge], .agg #[.int .i64 y1, .int .i64 y2], .agg #[.int .i64 len, .int .i64 wt, .int .i64 since, .int .i64 cyc, .bool false], .bool tch, .agg #[.int .i64 2, .int .i64 n]] w (GivesT w (posB (fun l u => carB X Y V l l y1 y2 u) cable charge ⟨len, wt, since, cyc, false, tch⟩ 2 n) (if posB (fun l u => carB X Y V l l y1 y2 u) cable charge ⟨len, wt, since, cyc, false, tch⟩ 2 n then ⟨len - n, wt, since + 1, cyc, false, tch⟩ else ⟨len, wt, since, cyc, false, tch⟩)) := by
  have S5 := Lib.hid (st_new cable charge y1 y2 len wt since cyc false 2 n AX AY AV nx cx ny cy nv cv w)
  have i7 : IntKind.i64.wrap (since + 1) = since + 1 := IntWalk.i64_in _ (by omega)
  have i8 : IntKind.i64.wrap (cyc + 1) = cyc + 1 := IntWalk.i64_in _ (by omega)
  have HBE := Lib.hid (fun (W : World) (hW : Below w.heap.size w W) => bears_any cable charge y1 y2 (len - n) wt AX AY AV nx cx ny cy nv cv B X Y V W (h.below hW))
  clear h
  by_cases g1 : n < 1
  · rw [show posB (fun l u => carB X Y V l l y1 y2 u) cable charge ⟨len, wt, since, cyc, false, tch⟩ 2 n = false by unfold posB; simp; intro a; omega]
    simp only [Bool.false_eq_true, if_false]
    go_enter Try.func81, Try.ntmps81
    go_upto_region 9 with (fail)
    have S6 := Lib.hid (st_next _ _ _ _ _ _ _ _ _ _ _ _ _ _ _ _ _ _ _ _ _ S5.out (.cells #[.int .i64 (len), .int .i64 (wt), .int .i64 (since + 1), .int .i64 (cyc), .bool false] 61))
    clear S5
    generalize World.alloc _ _ = w6 at *
    have HB6 := Lib.hid S6.out.hb
    have hb4 := S6.out.b4
    have hs6 := S6.out.sz
    have x0 := cellOf (o := 0) S6.out.b0 rfl
    have c0 := cellOf (o := 0) S6.out.b2 rfl
    have m0 := cellOf (o := 0) S6.out.b5 rfl
    have x1 := cellOf (o := 1) S6.out.b0 rfl
    have c1 := cellOf (o := 1) S6.out.b2 rfl
    have m1 := cellOf (o := 1) S6.out.b5 rfl
    have x2 := cellOf (o := 2) S6.out.b0 rfl
    have c2 := cellOf (o := 2) S6.out.b2 rfl
    have m2 := cellOf (o := 2) S6.out.b5 rfl
    have x3 := cellOf (o := 3) S6.out.b0 rfl
    have c3 := cellOf (o := 3) S6.out.b2 rfl
    have m3 := cellOf (o := 3) S6.out.b5 rfl
    have x4 := cellOf (o := 4) S6.out.b0 rfl
    have c4 := cellOf (o := 4) S6.out.b2 rfl
    have m4 := cellOf (o := 4) S6.out.b5 rfl
    have p0 := cellOf (o := 0) S6.out.b1 rfl
    have l0 := cellOf (o := 0) S6.out.b3 rfl
    have p1 := cellOf (o := 1) S6.out.b1 rfl
    have l1 := cellOf (o := 1) S6.out.b3 rfl
    clear S6
    have r0 := cellOf (o := 0) hb4 rfl
    have f0 := freeOf (o := 0) hb4
    have r1 := cellOf (o := 1) hb4 rfl
    have f1 := freeOf (o := 1) hb4
    have r2 := cellOf (o := 2) hb4 rfl
    have f2 := freeOf (o := 2) hb4
    have r3 := cellOf (o := 3) hb4 rfl
    have f3 := freeOf (o := 3) hb4
    have r4 := cellOf (o := 4) hb4 rfl
    have f4 := freeOf (o := 4) hb4
    go_wp2
    have hp := HX.put (s := zeroH) hb4 (len) (wt) (since) (cyc) false
    have HQ := Lib.hid (hx_below (b := w.heap.size + 1 + 1 + 1 + 1) HB6.out (by omega) (.int .i64 (len)) (.int .i64 (wt)) (.int .i64 (since)) (.int .i64 (cyc)) (.bool false))
    clear r0 r1 r2 r3 r4 f0 f1 f2 f3 f4
    generalize ((((World.setCell w6 _ _).setCell _ _).setCell _ _).setCell _ _).setCell _ _ = w9 at *
    have d0 := cellOf (o := 0) hp rfl
    have d1 := cellOf (o := 1) hp rfl
    have d2 := cellOf (o := 2) hp rfl
    have d3 := cellOf (o := 3) hp rfl
    have d4 := cellOf (o := 4) hp rfl
    exact bodyPost_ret (v := .tuple #[.agg #[.int .i64 (len), .int .i64 (wt), .int .i64 (since), .int .i64 (cyc), .bool false], .bool tch, .bool (false)]) (by simp [results, Try.results81, go_sem, d0, d1, d2, d3, d4]) rfl ⟨rfl, HQ.out⟩
  by_cases g2 : 100 < n
  · rw [show posB (fun l u => carB X Y V l l y1 y2 u) cable charge ⟨len, wt, since, cyc, false, tch⟩ 2 n = false by unfold posB; simp; intro a b; omega]
    simp only [Bool.false_eq_true, if_false]
    go_enter Try.func81, Try.ntmps81
    go_upto_region 9 with (fail)
    have S6 := Lib.hid (st_next _ _ _ _ _ _ _ _ _ _ _ _ _ _ _ _ _ _ _ _ _ S5.out (.cells #[.int .i64 (len), .int .i64 (wt), .int .i64 (since + 1), .int .i64 (cyc), .bool false] 61))
    clear S5
    generalize World.alloc _ _ = w6 at *
    have HB6 := Lib.hid S6.out.hb
    have hb4 := S6.out.b4
    have hs6 := S6.out.sz
    have x0 := cellOf (o := 0) S6.out.b0 rfl
    have c0 := cellOf (o := 0) S6.out.b2 rfl
    have m0 := cellOf (o := 0) S6.out.b5 rfl
    have x1 := cellOf (o := 1) S6.out.b0 rfl
    have c1 := cellOf (o := 1) S6.out.b2 rfl
    have m1 := cellOf (o := 1) S6.out.b5 rfl
    have x2 := cellOf (o := 2) S6.out.b0 rfl
    have c2 := cellOf (o := 2) S6.out.b2 rfl
    have m2 := cellOf (o := 2) S6.out.b5 rfl
    have x3 := cellOf (o := 3) S6.out.b0 rfl
    have c3 := cellOf (o := 3) S6.out.b2 rfl
    have m3 := cellOf (o := 3) S6.out.b5 rfl
    have x4 := cellOf (o := 4) S6.out.b0 rfl
    have c4 := cellOf (o := 4) S6.out.b2 rfl
    have m4 := cellOf (o := 4) S6.out.b5 rfl
    have p0 := cellOf (o := 0) S6.out.b1 rfl
    have l0 := cellOf (o := 0) S6.out.b3 rfl
    have p1 := cellOf (o := 1) S6.out.b1 rfl
    have l1 := cellOf (o := 1) S6.out.b3 rfl
    clear S6
    have r0 := cellOf (o := 0) hb4 rfl
    have f0 := freeOf (o := 0) hb4
    have r1 := cellOf (o := 1) hb4 rfl
    have f1 := freeOf (o := 1) hb4
    have r2 := cellOf (o := 2) hb4 rfl
    have f2 := freeOf (o := 2) hb4
    have r3 := cellOf (o := 3) hb4 rfl
    have f3 := freeOf (o := 3) hb4
    have r4 := cellOf (o := 4) hb4 rfl
    have f4 := freeOf (o := 4) hb4
    go_wp2
    have hp := HX.put (s := zeroH) hb4 (len) (wt) (since) (cyc) false
    have HQ := Lib.hid (hx_below (b := w.heap.size + 1 + 1 + 1 + 1) HB6.out (by omega) (.int .i64 (len)) (.int .i64 (wt)) (.int .i64 (since)) (.int .i64 (cyc)) (.bool false))
    clear r0 r1 r2 r3 r4 f0 f1 f2 f3 f4
    generalize ((((World.setCell w6 _ _).setCell _ _).setCell _ _).setCell _ _).setCell _ _ = w9 at *
    have d0 := cellOf (o := 0) hp rfl
    have d1 := cellOf (o := 1) hp rfl
    have d2 := cellOf (o := 2) hp rfl
    have d3 := cellOf (o := 3) hp rfl
    have d4 := cellOf (o := 4) hp rfl
    exact bodyPost_ret (v := .tuple #[.agg #[.int .i64 (len), .int .i64 (wt), .int .i64 (since), .int .i64 (cyc), .bool false], .bool tch, .bool (false)]) (by simp [results, Try.results81, go_sem, d0, d1, d2, d3, d4]) rfl ⟨rfl, HQ.out⟩
  have i5 : IntKind.i64.wrap (len - n) = len - n := IntWalk.i64_in _ (by omega)
  by_cases g3 : len < n
  · rw [show posB (fun l u => carB X Y V l l y1 y2 u) cable charge ⟨len, wt, since, cyc, false, tch⟩ 2 n = false by unfold posB; simp; intro a b; omega]
    simp only [Bool.false_eq_true, if_false]
    have H1 := Lib.hid (w7_no (a := len - n) (b := 0) (c := cable) (by omega))
    go_enter Try.func81, Try.ntmps81
    go_upto_region 13 with (fail)
    have S6 := Lib.hid (st_next _ _ _ _ _ _ _ _ _ _ _ _ _ _ _ _ _ _ _ _ _ S5.out (.cells #[.int .i64 (len - n), .int .i64 (wt), .int .i64 (since + 1), .int .i64 (cyc), .bool false] 61))
    clear S5
    generalize World.alloc _ _ = w6 at *
    have HB6 := Lib.hid S6.out.hb
    have hb4 := S6.out.b4
    have hs6 := S6.out.sz
    have x0 := cellOf (o := 0) S6.out.b0 rfl
    have c0 := cellOf (o := 0) S6.out.b2 rfl
    have m0 := cellOf (o := 0) S6.out.b5 rfl
    have x1 := cellOf (o := 1) S6.out.b0 rfl
    have c1 := cellOf (o := 1) S6.out.b2 rfl
    have m1 := cellOf (o := 1) S6.out.b5 rfl
    have x2 := cellOf (o := 2) S6.out.b0 rfl
    have c2 := cellOf (o := 2) S6.out.b2 rfl
    have m2 := cellOf (o := 2) S6.out.b5 rfl
    have x3 := cellOf (o := 3) S6.out.b0 rfl
    have c3 := cellOf (o := 3) S6.out.b2 rfl
    have m3 := cellOf (o := 3) S6.out.b5 rfl
    have x4 := cellOf (o := 4) S6.out.b0 rfl
    have c4 := cellOf (o := 4) S6.out.b2 rfl
    have m4 := cellOf (o := 4) S6.out.b5 rfl
    have p0 := cellOf (o := 0) S6.out.b1 rfl
    have l0 := cellOf (o := 0) S6.out.b3 rfl
    have p1 := cellOf (o := 1) S6.out.b1 rfl
    have l1 := cellOf (o := 1) S6.out.b3 rfl
    have S6' := Lib.hid S6.out
    clear S6
    go_upto_region 14 with (go_at_call 50; refine Calls.mono (H1.out _) ?_; rintro e w7 ⟨rfl, rfl⟩)
    have r0 := cellOf (o := 0) hb4 rfl
    have f0 := freeOf (o := 0) hb4
    have r1 := cellOf (o := 1) hb4 rfl
    have f1 := freeOf (o := 1) hb4
    have r2 := cellOf (o := 2) hb4 rfl
    have f2 := freeOf (o := 2) hb4
    have r3 := cellOf (o := 3) hb4 rfl
    have f3 := freeOf (o := 3) hb4
    have r4 := cellOf (o := 4) hb4 rfl
    have f4 := freeOf (o := 4) hb4
    go_wp2
    have hp := HX.put (s := zeroH) hb4 (len) (wt) (since) (cyc) false
    have HQ := Lib.hid (hx_below (b := w.heap.size + 1 + 1 + 1 + 1) HB6.out (by omega) (.int .i64 (len)) (.int .i64 (wt)) (.int .i64 (since)) (.int .i64 (cyc)) (.bool false))
    clear r0 r1 r2 r3 r4 f0 f1 f2 f3 f4
    generalize ((((World.setCell w6 _ _).setCell _ _).setCell _ _).setCell _ _).setCell _ _ = w9 at *
    have d0 := cellOf (o := 0) hp rfl
    have d1 := cellOf (o := 1) hp rfl
    have d2 := cellOf (o := 2) hp rfl
    have d3 := cellOf (o := 3) hp rfl
    have d4 := cellOf (o := 4) hp rfl
    exact bodyPost_ret (v := .tuple #[.agg #[.int .i64 (len), .int .i64 (wt), .int .i64 (since), .int .i64 (cyc), .bool false], .bool tch, .bool (false)]) (by simp [results, Try.results81, go_sem, d0, d1, d2, d3, d4]) rfl ⟨rfl, HQ.out⟩
  have H1 := Lib.hid (w7_yes (a := len - n) (b := 0) (c := cable) (by omega) (by omega))
  have g4 : 1 ≤ n ∧ n ≤ len := by omega
  by_cases g5 : wt = 0
  · rw [show posB (fun l u => carB X Y V l l y1 y2 u) cable charge ⟨len, wt, since, cyc, false, tch⟩ 2 n = true by unfold posB; simp [g4, carB, g5]]
    simp only [if_true]
    have g6 : ¬ (0 < wt) := by omega
    clear g5
    go_enter Try.func81, Try.ntmps81
    go_upto_region 13 with (fail)
    have S6 := Lib.hid (st_next _ _ _ _ _ _ _ _ _ _ _ _ _ _ _ _ _ _ _ _ _ S5.out (.cells #[.int .i64 (len - n), .int .i64 (wt), .int .i64 (since + 1), .int .i64 (cyc), .bool false] 61))
    clear S5
    generalize World.alloc _ _ = w6 at *
    have HB6 := Lib.hid S6.out.hb
    have hb4 := S6.out.b4
    have hs6 := S6.out.sz
    have x0 := cellOf (o := 0) S6.out.b0 rfl
    have c0 := cellOf (o := 0) S6.out.b2 rfl
    have m0 := cellOf (o := 0) S6.out.b5 rfl
    have x1 := cellOf (o := 1) S6.out.b0 rfl
    have c1 := cellOf (o := 1) S6.out.b2 rfl
    have m1 := cellOf (o := 1) S6.out.b5 rfl
    have x2 := cellOf (o := 2) S6.out.b0 rfl
    have c2 := cellOf (o := 2) S6.out.b2 rfl
    have m2 := cellOf (o := 2) S6.out.b5 rfl
    have x3 := cellOf (o := 3) S6.out.b0 rfl
    have c3 := cellOf (o := 3) S6.out.b2 rfl
    have m3 := cellOf (o := 3) S6.out.b5 rfl
    have x4 := cellOf (o := 4) S6.out.b0 rfl
    have c4 := cellOf (o := 4) S6.out.b2 rfl
    have m4 := cellOf (o := 4) S6.out.b5 rfl
    have p0 := cellOf (o := 0) S6.out.b1 rfl
    have l0 := cellOf (o := 0) S6.out.b3 rfl
    have p1 := cellOf (o := 1) S6.out.b1 rfl
    have l1 := cellOf (o := 1) S6.out.b3 rfl
    have S6' := Lib.hid S6.out
    clear S6
    go_upto_region 15 with (go_at_call 50; refine Calls.mono (H1.out _) ?_; rintro e w7 ⟨rfl, rfl⟩)
    have r0 := cellOf (o := 0) hb4 rfl
    have f0 := freeOf (o := 0) hb4
    have r1 := cellOf (o := 1) hb4 rfl
    have f1 := freeOf (o := 1) hb4
    have r2 := cellOf (o := 2) hb4 rfl
    have f2 := freeOf (o := 2) hb4
    have r3 := cellOf (o := 3) hb4 rfl
    have f3 := freeOf (o := 3) hb4
    have r4 := cellOf (o := 4) hb4 rfl
    have f4 := freeOf (o := 4) hb4
    go_wp2
    have hp := HX.put (s := zeroH) hb4 (len - n) (wt) (since + 1) (cyc) false
    have HQ := Lib.hid (hx_below (b := w.heap.size + 1 + 1 + 1 + 1) HB6.out (by omega) (.int .i64 (len - n)) (.int .i64 (wt)) (.int .i64 (since + 1)) (.int .i64 (cyc)) (.bool false))
    clear r0 r1 r2 r3 r4 f0 f1 f2 f3 f4
    generalize ((((World.setCell w6 _ _).setCell _ _).setCell _ _).setCell _ _).setCell _ _ = w9 at *
    have d0 := cellOf (o := 0) hp rfl
    have d1 := cellOf (o := 1) hp rfl
    have d2 := cellOf (o := 2) hp rfl
    have d3 := cellOf (o := 3) hp rfl
    have d4 := cellOf (o := 4) hp rfl
    exact bodyPost_ret (v := .tuple #[.agg #[.int .i64 (len - n), .int .i64 (wt), .int .i64 (since + 1), .int .i64 (cyc), .bool false], .bool tch, .bool (true)]) (by simp [results, Try.results81, go_sem, d0, d1, d2, d3, d4]) rfl ⟨rfl, HQ.out⟩
  have g6 : 0 < wt := by omega
  have hpo : posB (fun l u => carB X Y V l l y1 y2 u) cable charge ⟨len, wt, since, cyc, false, tch⟩ 2 n = beaB X Y V (len - n) y1 y2 wt := by unfold posB; simp [g4, carB, g5, beaB]
  rw [hpo]
  clear hpo
  cases hbb : beaB X Y V (len - n) y1 y2 wt with
  | true =>
    rw [hbb] at HBE
    clear hbb
    simp only [if_true]
    go_enter Try.func81, Try.ntmps81
    go_upto_region 13 with (fail)
    have S6 := Lib.hid (st_next _ _ _ _ _ _ _ _ _ _ _ _ _ _ _ _ _ _ _ _ _ S5.out (.cells #[.int .i64 (len - n), .int .i64 (wt), .int .i64 (since + 1), .int .i64 (cyc), .bool false] 61))
    clear S5
    generalize World.alloc _ _ = w6 at *
    have HB6 := Lib.hid S6.out.hb
    have hb4 := S6.out.b4
    have hs6 := S6.out.sz
    have x0 := cellOf (o := 0) S6.out.b0 rfl
    have c0 := cellOf (o := 0) S6.out.b2 rfl
    have m0 := cellOf (o := 0) S6.out.b5 rfl
    have x1 := cellOf (o := 1) S6.out.b0 rfl
    have c1 := cellOf (o := 1) S6.out.b2 rfl
    have m1 := cellOf (o := 1) S6.out.b5 rfl
    have x2 := cellOf (o := 2) S6.out.b0 rfl
    have c2 := cellOf (o := 2) S6.out.b2 rfl
    have m2 := cellOf (o := 2) S6.out.b5 rfl
    have x3 := cellOf (o := 3) S6.out.b0 rfl
    have c3 := cellOf (o := 3) S6.out.b2 rfl
    have m3 := cellOf (o := 3) S6.out.b5 rfl
    have x4 := cellOf (o := 4) S6.out.b0 rfl
    have c4 := cellOf (o := 4) S6.out.b2 rfl
    have m4 := cellOf (o := 4) S6.out.b5 rfl
    have p0 := cellOf (o := 0) S6.out.b1 rfl
    have l0 := cellOf (o := 0) S6.out.b3 rfl
    have p1 := cellOf (o := 1) S6.out.b1 rfl
    have l1 := cellOf (o := 1) S6.out.b3 rfl
    have S6' := Lib.hid S6.out
    clear S6
    go_upto_region 15 with (first
      | (go_at_call 50; refine Calls.mono (H1.out _) ?_; rintro e w7 ⟨rfl, rfl⟩)
      | (go_at_call 85; refine Calls.mono (HBE.out _ HB6.out) ?_; rintro e w8 ⟨rfl, hb8⟩; have S8 := Lib.hid (ST6.stay _ _ _ _ _ _ _ _ _ _ _ _ _ _ _ _ _ _ _ _ _ S6'.out hb8); clear hb8))
    clear c0 c1 c2 c3 c4 m0 m1 m2 m3 m4
    have hb4' := S8.out.b4
    have HB8 := Lib.hid S8.out.hb
    have c0 := cellOf (o := 0) S8.out.b2 rfl
    have m0 := cellOf (o := 0) S8.out.b5 rfl
    have c1 := cellOf (o := 1) S8.out.b2 rfl
    have m1 := cellOf (o := 1) S8.out.b5 rfl
    have c2 := cellOf (o := 2) S8.out.b2 rfl
    have m2 := cellOf (o := 2) S8.out.b5 rfl
    have c3 := cellOf (o := 3) S8.out.b2 rfl
    have m3 := cellOf (o := 3) S8.out.b5 rfl
    have c4 := cellOf (o := 4) S8.out.b2 rfl
    have m4 := cellOf (o := 4) S8.out.b5 rfl
    have r0 := cellOf (o := 0) hb4' rfl
    have f0 := freeOf (o := 0) hb4'
    have r1 := cellOf (o := 1) hb4' rfl
    have f1 := freeOf (o := 1) hb4'
    have r2 := cellOf (o := 2) hb4' rfl
    have f2 := freeOf (o := 2) hb4'
    have r3 := cellOf (o := 3) hb4' rfl
    have f3 := freeOf (o := 3) hb4'
    have r4 := cellOf (o := 4) hb4' rfl
    have f4 := freeOf (o := 4) hb4'
    go_wp2
    have hp := HX.put (s := zeroH) hb4' (len - n) (wt) (since + 1) (cyc) false
    have HQ := Lib.hid (hx_below (b := w.heap.size + 1 + 1 + 1 + 1) HB8.out (by omega) (.int .i64 (len - n)) (.int .i64 (wt)) (.int .i64 (since + 1)) (.int .i64 (cyc)) (.bool false))
    clear r0 r1 r2 r3 r4 f0 f1 f2 f3 f4
    generalize ((((World.setCell w8 _ _).setCell _ _).setCell _ _).setCell _ _).setCell _ _ = w9 at *
    have d0 := cellOf (o := 0) hp rfl
    have d1 := cellOf (o := 1) hp rfl
    have d2 := cellOf (o := 2) hp rfl
    have d3 := cellOf (o := 3) hp rfl
    have d4 := cellOf (o := 4) hp rfl
    exact bodyPost_ret (v := .tuple #[.agg #[.int .i64 (len - n), .int .i64 (wt), .int .i64 (since + 1), .int .i64 (cyc), .bool false], .bool tch, .bool (true)]) (by simp [results, Try.results81, go_sem, d0, d1, d2, d3, d4]) rfl ⟨rfl, HQ.out⟩
  | false =>
    rw [hbb] at HBE
    clear hbb
    simp only [Bool.false_eq_true, if_false]
    go_enter Try.func81, Try.ntmps81
    go_upto_region 13 with (fail)
    have S6 := Lib.hid (st_next _ _ _ _ _ _ _ _ _ _ _ _ _ _ _ _ _ _ _ _ _ S5.out (.cells #[.int .i64 (len - n), .int .i64 (wt), .int .i64 (since + 1), .int .i64 (cyc), .bool false] 61))
    clear S5
    generalize World.alloc _ _ = w6 at *
    have HB6 := Lib.hid S6.out.hb
    have hb4 := S6.out.b4
    have hs6 := S6.out.sz
    have x0 := cellOf (o := 0) S6.out.b0 rfl
    have c0 := cellOf (o := 0) S6.out.b2 rfl
    have m0 := cellOf (o := 0) S6.out.b5 rfl
    have x1 := cellOf (o := 1) S6.out.b0 rfl
    have c1 := cellOf (o := 1) S6.out.b2 rfl
    have m1 := cellOf (o := 1) S6.out.b5 rfl
    have x2 := cellOf (o := 2) S6.out.b0 rfl
    have c2 := cellOf (o := 2) S6.out.b2 rfl
    have m2 := cellOf (o := 2) S6.out.b5 rfl
    have x3 := cellOf (o := 3) S6.out.b0 rfl
    have c3 := cellOf (o := 3) S6.out.b2 rfl
    have m3 := cellOf (o := 3) S6.out.b5 rfl
    have x4 := cellOf (o := 4) S6.out.b0 rfl
    have c4 := cellOf (o := 4) S6.out.b2 rfl
    have m4 := cellOf (o := 4) S6.out.b5 rfl
    have p0 := cellOf (o := 0) S6.out.b1 rfl
    have l0 := cellOf (o := 0) S6.out.b3 rfl
    have p1 := cellOf (o := 1) S6.out.b1 rfl
    have l1 := cellOf (o := 1) S6.out.b3 rfl
    have S6' := Lib.hid S6.out
    clear S6
    go_upto_region 14 with (first
      | (go_at_call 50; refine Calls.mono (H1.out _) ?_; rintro e w7 ⟨rfl, rfl⟩)
      | (go_at_call 85; refine Calls.mono (HBE.out _ HB6.out) ?_; rintro e w8 ⟨rfl, hb8⟩; have S8 := Lib.hid (ST6.stay _ _ _ _ _ _ _ _ _ _ _ _ _ _ _ _ _ _ _ _ _ S6'.out hb8); clear hb8))
    clear c0 c1 c2 c3 c4 m0 m1 m2 m3 m4
    have hb4' := S8.out.b4
    have HB8 := Lib.hid S8.out.hb
    have c0 := cellOf (o := 0) S8.out.b2 rfl
    have m0 := cellOf (o := 0) S8.out.b5 rfl
    have c1 := cellOf (o := 1) S8.out.b2 rfl
    have m1 := cellOf (o := 1) S8.out.b5 rfl
    have c2 := cellOf (o := 2) S8.out.b2 rfl
    have m2 := cellOf (o := 2) S8.out.b5 rfl
    have c3 := cellOf (o := 3) S8.out.b2 rfl
    have m3 := cellOf (o := 3) S8.out.b5 rfl
    have c4 := cellOf (o := 4) S8.out.b2 rfl
    have m4 := cellOf (o := 4) S8.out.b5 rfl
    have r0 := cellOf (o := 0) hb4' rfl
    have f0 := freeOf (o := 0) hb4'
    have r1 := cellOf (o := 1) hb4' rfl
    have f1 := freeOf (o := 1) hb4'
    have r2 := cellOf (o := 2) hb4' rfl
    have f2 := freeOf (o := 2) hb4'
    have r3 := cellOf (o := 3) hb4' rfl
    have f3 := freeOf (o := 3) hb4'
    have r4 := cellOf (o := 4) hb4' rfl
    have f4 := freeOf (o := 4) hb4'
    go_wp2
    have hp := HX.put (s := zeroH) hb4' (len) (wt) (since) (cyc) false
    have HQ := Lib.hid (hx_below (b := w.heap.size + 1 + 1 + 1 + 1) HB8.out (by omega) (.int .i64 (len)) (.int .i64 (wt)) (.int .i64 (since)) (.int .i64 (cyc)) (.bool false))
    clear r0 r1 r2 r3 r4 f0 f1 f2 f3 f4
    generalize ((((World.setCell w8 _ _).setCell _ _).setCell _ _).setCell _ _).setCell _ _ = w9 at *
    have d0 := cellOf (o := 0) hp rfl
    have d1 := cellOf (o := 1) hp rfl
    have d2 := cellOf (o := 2) hp rfl
    have d3 := cellOf (o := 3) hp rfl
    have d4 := cellOf (o := 4) hp rfl
    exact bodyPost_ret (v := .tuple #[.agg #[.int .i64 (len), .int .i64 (wt), .int .i64 (since), .int .i64 (cyc), .bool false], .bool tch, .bool (false)]) (by simp [results, Try.results81, go_sem, d0, d1, d2, d3, d4]) rfl ⟨rfl, HQ.out⟩
end
end Go.Proofs.Ytnnmmojlgikdgaa

/- Contracts of the functions that the statement reaches: JLinB. -/
import Derived.Test.YtnnmmojlgikdgaaM7
import Derived.Test.YtnnmmojlgikdgaaM6
import Derived.Test.YtnnmmojlgikdgaaM8

/- The law of linearity: one of its four ways. -/
namespace Go.Proofs.Ytnnmmojlgikdgaa
open Go.RowKit

set_option maxRecDepth 100000 in
set_option maxHeartbeats 16000000 in
theorem law_linear_eb (wk : WK7) (w : World) (N D d xa xv : Int) (A : Option Addr) (n c : Nat) (xm xl xh : Int) (G : List Int) (hl : G.length = n) (hn : n ≤ maxLen) (hr : RI w w.heap.size A G) (ya yv : Int) (R : Option Addr) (k cr : Nat) (ym yl yh : Int) (H : List Int) (hl' : H.length = k) (hk : k ≤ maxLen) (hr' : RI w w.heap.size R H) (hrm : n * 8 ≤ 140737488351232) (hnk : n = k) (hx : swE N D d xa xv G = 0) (hy : ¬ swE N D d ya yv H = 0) :
    Calls Try.prog 10 #[.agg #[.int .i64 N, .int .i64 D, .int .i64 d], .agg #[.int .i64 xa, .int .i64 xv, .slice A n c, .int .i64 xm, .int .i64 xl, .int .i64 xh], .agg #[.int .i64 ya, .int .i64 yv, .slice R k cr, .int .i64 ym, .int .i64 yl, .int .i64 yh]] w fun e w' => e = .returned (.bool true) ∧ Below w.heap.size w w' := by
  have HWK := Lib.hid wk
  have HK0 := Lib.hid (KY.start (N := N) (D := D) (d := d) (xa := xa) (xv := xv) (xm := xm) (xl := xl) (xh := xh) (ya := ya) (yv := yv) (ym := ym) (yl := yl) (yh := yh) (A := A) (R := R) (n := n) (c := c) (k := k) (cr := cr) (w := w))
  · subst hnk
    have HS1 := Lib.hid (fun (W : World) (hW : Below w.heap.size w W) => swingT_any N D d xa xv A n c w.heap.size G W hl hn hW.size (hr.below hW))
    have HS2 := Lib.hid (fun (W : World) (hW : Below w.heap.size w W) => swingT_any N D d ya yv R n cr w.heap.size H W hl' hk hW.size (hr'.below hW))
    have HS3 := Lib.hid (fun (a9 v9 : Int) (A9 : Option Addr) (n9 c9 : Nat) (l9 : List Int) (W : World) (h9 : l9.length = n9) (hn9 : n9 ≤ maxLen) (h3 : RI W W.heap.size A9 l9) => swingT_any N D d a9 v9 A9 n9 c9 W.heap.size l9 W h9 hn9 (Nat.le_refl _) h3)
    have HCK := Lib.hid (fun W => rslcheck_any N D d W)
    have HRG := Lib.hid (fun (W : World) (hW : Below w.heap.size w W) => And.intro (hr.below hW) (hr'.below hW))
    have HLL := Lib.hid (And.intro hl hl')
    have HLF := Lib.hid (fun (hx : swE N D d xa xv G = 0) (hy : swE N D d ya yv H = 0) => lin_facts (hl.trans hl'.symm) hx hy)
    have HLEN := Lib.hid (show (∀ j, j < n → (((bthL G H).take j).length + 1) * 8 ≤ 140737488355328) ∧ (∀ j, j < n → (((mnsL G).take j).length + 1) * 8 ≤ 140737488355328) from ⟨fun j hj => by rw [List.length_take, bth_len (hl.trans hl'.symm)]; omega, fun j hj => by rw [List.length_take, mns_len]; omega⟩)
    have HSG := Lib.hid (fun (hx : swE N D d xa xv G = 0) => sw_good hx)
    unfold maxLen at hn
    have hnb : (n : Int) ≤ 9223372036854775807 := by omega
    clear wk hr hr' hl hl' hk hrm
    go_enter Try.func10, Try.ntmps10
    go_upto_region 1 with (fail)
    generalize World.alloc _ _ = w1 at *
    have s0 := cellOf (o := 0) HK0.out.s rfl
    have s1 := cellOf (o := 1) HK0.out.s rfl
    have s2 := cellOf (o := 2) HK0.out.s rfl
    have x0 := cellOf (o := 0) HK0.out.x rfl
    have x1 := cellOf (o := 1) HK0.out.x rfl
    have x2 := cellOf (o := 2) HK0.out.x rfl
    have y0 := cellOf (o := 0) HK0.out.y rfl
    have y1 := cellOf (o := 1) HK0.out.y rfl
    have y2 := cellOf (o := 2) HK0.out.y rfl
    have l0 := lt_of_block HK0.out.s
    have l1 := lt_of_block HK0.out.x
    have l2 := lt_of_block HK0.out.y
    go_upto_region 3 with (fail)
    obtain ⟨Qa, hQa⟩ : ∃ q9 : Nat → Value → World → Prop, q9 = QG [some (.pointer (some ⟨w.heap.size + 1, 0, none⟩)), some (.pointer (some ⟨w.heap.size + 1, 0, none⟩)), some (.int .i64 xa), some (.pointer (some ⟨w.heap.size + 1 + 1, 0, none⟩)), some (.pointer (some ⟨w.heap.size + 1 + 1, 0, none⟩)), some (.int .i64 ya), some (.int .i64 (IntKind.i64.wrap (xa + ya))), some (.pointer (some ⟨w.heap.size + 1, 0, none⟩)), some (.pointer (some ⟨w.heap.size + 1, 1, none⟩)), some (.int .i64 xv), some (.pointer (some ⟨w.heap.size + 1 + 1, 0, none⟩)), some (.pointer (some ⟨w.heap.size + 1 + 1, 1, none⟩)), some (.int .i64 yv), some (.int .i64 (IntKind.i64.wrap (xv + yv))), some (.agg #[.int .i64 (IntKind.i64.wrap (xa + ya)), .int .i64 (IntKind.i64.wrap (xv + yv))]), some (.agg #[.int .i64 (IntKind.i64.wrap (xa + ya)), .int .i64 (IntKind.i64.wrap (xv + yv)), .slice none 0 0, .int .i64 0, .int .i64 0, .int .i64 0]), some (.pointer (some ⟨w.heap.size + 1, 0, none⟩)), some (.pointer (some ⟨w.heap.size + 1, 0, none⟩)), some (.int .i64 xa), some (.int .i64 (IntKind.i64.wrap (-xa))), some (.pointer (some ⟨w.heap.size + 1, 0, none⟩)), some (.pointer (some ⟨w.heap.size + 1, 1, none⟩)), some (.int .i64 xv), some (.int .i64 (IntKind.i64.wrap (-xv))), some (.agg #[.int .i64 (IntKind.i64.wrap (-xa)), .int .i64 (IntKind.i64.wrap (-xv))]), some (.agg #[.int .i64 (IntKind.i64.wrap (-xa)), .int .i64 (IntKind.i64.wrap (-xv)), .slice none 0 0, .int .i64 0, .int .i64 0, .int .i64 0]), none, none, none, none] (fun _ _ _ => True) := ⟨_, rfl⟩
    have hSt : Still Qa := by rw [hQa]; exact QG.still
    have HQa := Lib.hid hQa
    clear hQa
    refine wpIn_wide.1 (region_inv2 (n := 9) (by kernel_rfl) (RBB Qa w1 26 27 28 29 #[.int .i64 0, .int .i64 0, .slice none 0 0, .int .i64 0, .int .i64 0, .int .i64 0] #[.int .i64 (IntKind.i64.wrap (xa + ya)), .int .i64 (IntKind.i64.wrap (xv + yv)), .slice none 0 0, .int .i64 0, .int .i64 0, .int .i64 0] #[.int .i64 (IntKind.i64.wrap (-xa)), .int .i64 (IntKind.i64.wrap (-xv)), .slice none 0 0, .int .i64 0, .int .i64 0, .int .i64 0] 29) (by kernel_rfl) rfl (RBB.start _ _ _ _ _ _ _ _ _ _ _) ?hstepa ?henda)
    case hstepa =>
      intro i' o ho val L b' x hF hR hpre hl
      match i', ho with
      | 0, ho =>
        simp at ho; subst ho; refine step_plain rfl ?_; have e4 := hF.was 4 (by kernel_rfl) rfl; have hgoal := hR.go hSt HQa 0 rfl (by decide) (by decide) (by decide) (by decide); clear hF hpre hl hR; go_simp; exact ⟨_, rfl, hgoal _ rfl⟩
      | 1, ho =>
        simp at ho; subst ho; refine step_plain rfl ?_; have e28 := hF.gvs hR.2.1 HQa 0 (by decide) (by decide) rfl (hpre ⟨0, .data⟩ (by simp) rfl) rfl; have hgoal := hR.go hSt HQa 1 rfl (by decide) (by decide) (by decide) (by decide); clear hF hpre hl hR; go_simp; exact ⟨_, rfl, hgoal _ rfl⟩
      | 2, ho =>
        simp at ho; subst ho; refine step_plain rfl ?_; have e29 := hF.gvs hR.2.1 HQa 1 (by decide) (by decide) rfl (hpre ⟨1, .data⟩ (by simp) rfl) rfl; have hgoal := hR.go hSt HQa 2 rfl (by decide) (by decide) (by decide) (by decide); have q0 := cell_keep hR.1 x0; clear hF hpre hl hR; go_simp; exact ⟨_, rfl, hgoal _ rfl⟩
      | 3, ho =>
        simp at ho; subst ho; refine step_plain rfl ?_; have e5 := hF.was 5 (by kernel_rfl) rfl; have hgoal := hR.go hSt HQa 3 rfl (by decide) (by decide) (by decide) (by decide); clear hF hpre hl hR; go_simp; exact ⟨_, rfl, hgoal _ rfl⟩
      | 4, ho =>
        simp at ho; subst ho; refine step_plain rfl ?_; have e31 := hF.gvs hR.2.1 HQa 3 (by decide) (by decide) rfl (hpre ⟨3, .data⟩ (by simp) rfl) rfl; have hgoal := hR.go hSt HQa 4 rfl (by decide) (by decide) (by decide) (by decide); clear hF hpre hl hR; go_simp; exact ⟨_, rfl, hgoal _ rfl⟩
      | 5, ho =>
        simp at ho; subst ho; refine step_plain rfl ?_; have e32 := hF.gvs hR.2.1 HQa 4 (by decide) (by decide) rfl (hpre ⟨4, .data⟩ (by simp) rfl) rfl; have hgoal := hR.go hSt HQa 5 rfl (by decide) (by decide) (by decide) (by decide); have q0 := cell_keep hR.1 y0; clear hF hpre hl hR; go_simp; exact ⟨_, rfl, hgoal _ rfl⟩
      | 6, ho =>
        simp at ho; subst ho; refine step_plain rfl ?_; have e30 := hF.gvs hR.2.1 HQa 2 (by decide) (by decide) rfl (hpre ⟨2, .data⟩ (by simp) rfl) rfl; have e33 := hF.gvs hR.2.1 HQa 5 (by decide) (by decide) rfl (hpre ⟨5, .data⟩ (by simp) rfl) rfl; have hgoal := hR.go hSt HQa 6 rfl (by decide) (by decide) (by decide) (by decide); clear hF hpre hl hR; go_simp; exact ⟨_, rfl, hgoal _ rfl⟩
      | 7, ho =>
        simp at ho; subst ho; refine step_plain rfl ?_; have e4 := hF.was 4 (by kernel_rfl) rfl; have hgoal := hR.go hSt HQa 7 rfl (by decide) (by decide) (by decide) (by decide); clear hF hpre hl hR; go_simp; exact ⟨_, rfl, hgoal _ rfl⟩
      | 8, ho =>
        simp at ho; subst ho; refine step_plain rfl ?_; have e35 := hF.gvs hR.2.1 HQa 7 (by decide) (by decide) rfl (hpre ⟨7, .data⟩ (by simp) rfl) rfl; have hgoal := hR.go hSt HQa 8 rfl (by decide) (by decide) (by decide) (by decide); clear hF hpre hl hR; go_simp; exact ⟨_, rfl, hgoal _ rfl⟩
      | 9, ho =>
        simp at ho; subst ho; refine step_plain rfl ?_; have e36 := hF.gvs hR.2.1 HQa 8 (by decide) (by decide) rfl (hpre ⟨8, .data⟩ (by simp) rfl) rfl; have hgoal := hR.go hSt HQa 9 rfl (by decide) (by decide) (by decide) (by decide); have q0 := cell_keep hR.1 x1; clear hF hpre hl hR; go_simp; exact ⟨_, rfl, hgoal _ rfl⟩
      | 10, ho =>
        simp at ho; subst ho; refine step_plain rfl ?_; have e5 := hF.was 5 (by kernel_rfl) rfl; have hgoal := hR.go hSt HQa 10 rfl (by decide) (by decide) (by decide) (by decide); clear hF hpre hl hR; go_simp; exact ⟨_, rfl, hgoal _ rfl⟩
      | 11, ho =>
        simp at ho; subst ho; refine step_plain rfl ?_; have e38 := hF.gvs hR.2.1 HQa 10 (by decide) (by decide) rfl (hpre ⟨10, .data⟩ (by simp) rfl) rfl; have hgoal := hR.go hSt HQa 11 rfl (by decide) (by decide) (by decide) (by decide); clear hF hpre hl hR; go_simp; exact ⟨_, rfl, hgoal _ rfl⟩
      | 12, ho =>
        simp at ho; subst ho; refine step_plain rfl ?_; have e39 := hF.gvs hR.2.1 HQa 11 (by decide) (by decide) rfl (hpre ⟨11, .data⟩ (by simp) rfl) rfl; have hgoal := hR.go hSt HQa 12 rfl (by decide) (by decide) (by decide) (by decide); have q0 := cell_keep hR.1 y1; clear hF hpre hl hR; go_simp; exact ⟨_, rfl, hgoal _ rfl⟩
      | 13, ho =>
        simp at ho; subst ho; refine step_plain rfl ?_; have e37 := hF.gvs hR.2.1 HQa 9 (by decide) (by decide) rfl (hpre ⟨9, .data⟩ (by simp) rfl) rfl; have e40 := hF.gvs hR.2.1 HQa 12 (by decide) (by decide) rfl (hpre ⟨12, .data⟩ (by simp) rfl) rfl; have hgoal := hR.go hSt HQa 13 rfl (by decide) (by decide) (by decide) (by decide); clear hF hpre hl hR; go_simp; exact ⟨_, rfl, hgoal _ rfl⟩
      | 14, ho =>
        simp at ho; subst ho; refine step_plain rfl ?_; have e34 := hF.gvs hR.2.1 HQa 6 (by decide) (by decide) rfl (hpre ⟨6, .data⟩ (by simp) rfl) rfl; have e41 := hF.gvs hR.2.1 HQa 13 (by decide) (by decide) rfl (hpre ⟨13, .data⟩ (by simp) rfl) rfl; have hgoal := hR.go hSt HQa 14 rfl (by decide) (by decide) (by decide) (by decide); clear hF hpre hl hR; go_simp; exact ⟨_, rfl, hgoal _ rfl⟩
      | 15, ho =>
        simp at ho; subst ho; refine step_plain rfl ?_; have e42 := hF.gvs hR.2.1 HQa 14 (by decide) (by decide) rfl (hpre ⟨14, .data⟩ (by simp) rfl) rfl; have hgoal := hR.go hSt HQa 15 rfl (by decide) (by decide) (by decide) (by decide); clear hF hpre hl hR; go_simp; exact ⟨_, rfl, hgoal _ rfl⟩
      | 16, ho =>
        simp at ho; subst ho; refine step_plain rfl ?_; have e4 := hF.was 4 (by kernel_rfl) rfl; have hgoal := hR.go hSt HQa 16 rfl (by decide) (by decide) (by decide) (by decide); clear hF hpre hl hR; go_simp; exact ⟨_, rfl, hgoal _ rfl⟩
      | 17, ho =>
        simp at ho; subst ho; refine step_plain rfl ?_; have e44 := hF.gvs hR.2.1 HQa 16 (by decide) (by decide) rfl (hpre ⟨16, .data⟩ (by simp) rfl) rfl; have hgoal := hR.go hSt HQa 17 rfl (by decide) (by decide) (by decide) (by decide); clear hF hpre hl hR; go_simp; exact ⟨_, rfl, hgoal _ rfl⟩
      | 18, ho =>
        simp at ho; subst ho; refine step_plain rfl ?_; have e45 := hF.gvs hR.2.1 HQa 17 (by decide) (by decide) rfl (hpre ⟨17, .data⟩ (by simp) rfl) rfl; have hgoal := hR.go hSt HQa 18 rfl (by decide) (by decide) (by decide) (by decide); have q0 := cell_keep hR.1 x0; clear hF hpre hl hR; go_simp; exact ⟨_, rfl, hgoal _ rfl⟩
      | 19, ho =>
        simp at ho; subst ho; refine step_plain rfl ?_; have e46 := hF.gvs hR.2.1 HQa 18 (by decide) (by decide) rfl (hpre ⟨18, .data⟩ (by simp) rfl) rfl; have hgoal := hR.go hSt HQa 19 rfl (by decide) (by decide) (by decide) (by decide); clear hF hpre hl hR; go_simp; exact ⟨_, rfl, hgoal _ rfl⟩
      | 20, ho =>
        simp at ho; subst ho; refine step_plain rfl ?_; have e4 := hF.was 4 (by kernel_rfl) rfl; have hgoal := hR.go hSt HQa 20 rfl (by decide) (by decide) (by decide) (by decide); clear hF hpre hl hR; go_simp; exact ⟨_, rfl, hgoal _ rfl⟩
      | 21, ho =>
        simp at ho; subst ho; refine step_plain rfl ?_; have e48 := hF.gvs hR.2.1 HQa 20 (by decide) (by decide) rfl (hpre ⟨20, .data⟩ (by simp) rfl) rfl; have hgoal := hR.go hSt HQa 21 rfl (by decide) (by decide) (by decide) (by decide); clear hF hpre hl hR; go_simp; exact ⟨_, rfl, hgoal _ rfl⟩
      | 22, ho =>
        simp at ho; subst ho; refine step_plain rfl ?_; have e49 := hF.gvs hR.2.1 HQa 21 (by decide) (by decide) rfl (hpre ⟨21, .data⟩ (by simp) rfl) rfl; have hgoal := hR.go hSt HQa 22 rfl (by decide) (by decide) (by decide) (by decide); have q0 := cell_keep hR.1 x1; clear hF hpre hl hR; go_simp; exact ⟨_, rfl, hgoal _ rfl⟩
      | 23, ho =>
        simp at ho; subst ho; refine step_plain rfl ?_; have e50 := hF.gvs hR.2.1 HQa 22 (by decide) (by decide) rfl (hpre ⟨22, .data⟩ (by simp) rfl) rfl; have hgoal := hR.go hSt HQa 23 rfl (by decide) (by decide) (by decide) (by decide); clear hF hpre hl hR; go_simp; exact ⟨_, rfl, hgoal _ rfl⟩
      | 24, ho =>
        simp at ho; subst ho; refine step_plain rfl ?_; have e47 := hF.gvs hR.2.1 HQa 19 (by decide) (by decide) rfl (hpre ⟨19, .data⟩ (by simp) rfl) rfl; have e51 := hF.gvs hR.2.1 HQa 23 (by decide) (by decide) rfl (hpre ⟨23, .data⟩ (by simp) rfl) rfl; have hgoal := hR.go hSt HQa 24 rfl (by decide) (by decide) (by decide) (by decide); clear hF hpre hl hR; go_simp; exact ⟨_, rfl, hgoal _ rfl⟩
      | 25, ho =>
        simp at ho; subst ho; refine step_plain rfl ?_; have e52 := hF.gvs hR.2.1 HQa 24 (by decide) (by decide) rfl (hpre ⟨24, .data⟩ (by simp) rfl) rfl; have hgoal := hR.go hSt HQa 25 rfl (by decide) (by decide) (by decide) (by decide); clear hF hpre hl hR; go_simp; exact ⟨_, rfl, hgoal _ rfl⟩
      | 26, ho =>
        simp at ho; subst ho; refine step_plain rfl ?_; have hN := hF.later hl 28 rfl (e := ⟨26, .data⟩) (by simp) rfl rfl; have hgoal := RBB.made1 hR hSt hN (by decide) (by decide) (by decide); clear hF hpre hl hR hN; go_simp; exact ⟨_, rfl, hgoal⟩
      | 27, ho =>
        simp at ho; subst ho; refine step_plain rfl ?_; have hN := hF.later hl 29 rfl (e := ⟨27, .data⟩) (by simp) rfl rfl; have hgoal := RBB.made2 hR hSt hN (by decide) (by decide) (by decide); clear hF hpre hl hR hN; go_simp; exact ⟨_, rfl, hgoal⟩
      | 28, ho =>
        simp at ho; subst ho; refine step_plain rfl ?_; have e7 := hF.gave 26 rfl (hpre ⟨26, .data⟩ (by simp) rfl) rfl; have e43 := hF.gvs hR.2.1 HQa 15 (by decide) (by decide) rfl (hpre ⟨15, .data⟩ (by simp) rfl) rfl
        have hls : 28 < L.size := by rw [hF.lsize]; decide
        have hN0 : L.getD 28 false = false := by rw [← getD_same hls]; exact hl
        have hal := hpre ⟨26, .data⟩ (by simp) rfl
        obtain ⟨q, qe, qM, qb⟩ := hR.2.2.1 hal
        rw [hN0] at qb
        simp only [Bool.false_eq_true, if_false] at qb
        rw [qe] at e7
        have g0 := cellOf (o := 0) qb rfl; have f0 := freeOf (o := 0) qb; have g1 := cellOf (o := 1) qb rfl; have f1 := freeOf (o := 1) qb; have g2 := cellOf (o := 2) qb rfl; have f2 := freeOf (o := 2) qb; have g3 := cellOf (o := 3) qb rfl; have f3 := freeOf (o := 3) qb; have g4 := cellOf (o := 4) qb rfl; have f4 := freeOf (o := 4) qb; have g5 := cellOf (o := 5) qb rfl; have f5 := freeOf (o := 5) qb; have hgoal := RBB.filled1 (v := undef) hR hSt (QG.none HQa 28 rfl (fun _ _ => trivial) _ _) hal qe qM hls ((((((hR.1.setCell (p := ⟨q, 0, none⟩) qM (.int .i64 (IntKind.i64.wrap (xa + ya)))).setCell (p := ⟨q, 1, none⟩) qM (.int .i64 (IntKind.i64.wrap (xv + yv)))).setCell (p := ⟨q, 2, none⟩) qM (.slice none 0 0)).setCell (p := ⟨q, 3, none⟩) qM (.int .i64 0)).setCell (p := ⟨q, 4, none⟩) qM (.int .i64 0)).setCell (p := ⟨q, 5, none⟩) qM (.int .i64 0)) (fun b9 hb9 => ((Below.heap_setCell _ ⟨q, 5, none⟩ _ b9 hb9).trans ((Below.heap_setCell _ ⟨q, 4, none⟩ _ b9 hb9).trans ((Below.heap_setCell _ ⟨q, 3, none⟩ _ b9 hb9).trans ((Below.heap_setCell _ ⟨q, 2, none⟩ _ b9 hb9).trans ((Below.heap_setCell _ ⟨q, 1, none⟩ _ b9 hb9).trans (Below.heap_setCell _ ⟨q, 0, none⟩ _ b9 hb9))))))) ((block_setCell (o := 5) (.int .i64 0) (block_setCell (o := 4) (.int .i64 0) (block_setCell (o := 3) (.int .i64 0) (block_setCell (o := 2) (.slice none 0 0) (block_setCell (o := 1) (.int .i64 (IntKind.i64.wrap (xv + yv))) (block_setCell (o := 0) (.int .i64 (IntKind.i64.wrap (xa + ya))) qb)))))).trans (by rfl)) (by decide) (by decide) (by decide)
        have hq := lt_of_block qb
        have HG := Lib.hid hgoal
        clear hF hpre hl hR hls hN0 hal qe qb hgoal; go_simp
        exact ⟨undef, HG.out⟩
      | 29, ho =>
        simp at ho; subst ho; refine step_plain rfl ?_; have e8 := hF.gave 27 rfl (hpre ⟨27, .data⟩ (by simp) rfl) rfl; have e53 := hF.gvs hR.2.1 HQa 25 (by decide) (by decide) rfl (hpre ⟨25, .data⟩ (by simp) rfl) rfl
        have hls : 29 < L.size := by rw [hF.lsize]; decide
        have hN0 : L.getD 29 false = false := by rw [← getD_same hls]; exact hl
        have hal := hpre ⟨27, .data⟩ (by simp) rfl
        obtain ⟨q, qe, qM, qb⟩ := hR.2.2.2.1 hal
        rw [hN0] at qb
        simp only [Bool.false_eq_true, if_false] at qb
        rw [qe] at e8
        have g0 := cellOf (o := 0) qb rfl; have f0 := freeOf (o := 0) qb; have g1 := cellOf (o := 1) qb rfl; have f1 := freeOf (o := 1) qb; have g2 := cellOf (o := 2) qb rfl; have f2 := freeOf (o := 2) qb; have g3 := cellOf (o := 3) qb rfl; have f3 := freeOf (o := 3) qb; have g4 := cellOf (o := 4) qb rfl; have f4 := freeOf (o := 4) qb; have g5 := cellOf (o := 5) qb rfl; have f5 := freeOf (o := 5) qb; have hgoal := RBB.filled2 (v := undef) hR hSt (QG.none HQa 29 rfl (fun _ _ => trivial) _ _) hal qe qM hls ((((((hR.1.setCell (p := ⟨q, 0, none⟩) qM (.int .i64 (IntKind.i64.wrap (-xa)))).setCell (p := ⟨q, 1, none⟩) qM (.int .i64 (IntKind.i64.wrap (-xv)))).setCell (p := ⟨q, 2, none⟩) qM (.slice none 0 0)).setCell (p := ⟨q, 3, none⟩) qM (.int .i64 0)).setCell (p := ⟨q, 4, none⟩) qM (.int .i64 0)).setCell (p := ⟨q, 5, none⟩) qM (.int .i64 0)) (fun b9 hb9 => ((Below.heap_setCell _ ⟨q, 5, none⟩ _ b9 hb9).trans ((Below.heap_setCell _ ⟨q, 4, none⟩ _ b9 hb9).trans ((Below.heap_setCell _ ⟨q, 3, none⟩ _ b9 hb9).trans ((Below.heap_setCell _ ⟨q, 2, none⟩ _ b9 hb9).trans ((Below.heap_setCell _ ⟨q, 1, none⟩ _ b9 hb9).trans (Below.heap_setCell _ ⟨q, 0, none⟩ _ b9 hb9))))))) ((block_setCell (o := 5) (.int .i64 0) (block_setCell (o := 4) (.int .i64 0) (block_setCell (o := 3) (.int .i64 0) (block_setCell (o := 2) (.slice none 0 0) (block_setCell (o := 1) (.int .i64 (IntKind.i64.wrap (-xv))) (block_setCell (o := 0) (.int .i64 (IntKind.i64.wrap (-xa))) qb)))))).trans (by rfl)) (by decide) (by decide) (by decide)
        have hq := lt_of_block qb
        have HG := Lib.hid hgoal
        clear hF hpre hl hR hls hN0 hal qe qb hgoal; go_simp
        exact ⟨undef, HG.out⟩
      | i + 30, ho => simp at ho
    case henda =>
      intro val L b' x hF hall hR
      have e := hF.all (by kernel_rfl) hall
      obtain ⟨q1a, p1a, M1a, bk1a⟩ := hR.2.2.1 (hall 26 (by decide))
      rw [hall 28 (by decide)] at bk1a
      simp only [if_true] at bk1a
      obtain ⟨q2a, p2a, M2a, bk2a⟩ := hR.2.2.2.1 (hall 27 (by decide))
      rw [hall 29 (by decide)] at bk2a
      simp only [if_true] at bk2a
      have nea : q1a ≠ q2a := fun e9 => hR.2.2.2.2 (hall 26 (by decide)) (hall 27 (by decide)) (by rw [p1a, p2a, e9])
      have hBa := Lib.hid hR.1
      clear hF hall hR hSt HQa
      subst e
      simp [final, dstOf, List.range, List.range.loop]
      rw [p1a, p2a]
      have hw3 : w.heap.size + 3 ≤ w1.heap.size := by omega
      have HLI := Lib.hid (show LI N D d xa xv xm xl xh ya yv ym yl yh (IntKind.i64.wrap (xa + ya)) (IntKind.i64.wrap (xv + yv)) (IntKind.i64.wrap (-xa)) (IntKind.i64.wrap (-xv)) A R n c n cr w x.heap.size q1a q2a (.slice none 0 0) (.slice none 0 0) [] [] x from ⟨HK0.out.next hBa.out, bk1a, bk2a, OI.nil, OI.nil, Or.inl rfl, Nat.le_refl _, ⟨by omega, lt_of_block bk1a⟩, ⟨by omega, lt_of_block bk2a⟩, nea⟩)
      generalize IntKind.i64.wrap (xa + ya) = sa at *
      generalize IntKind.i64.wrap (xv + yv) = sv at *
      generalize IntKind.i64.wrap (-xa) = na at *
      generalize IntKind.i64.wrap (-xv) = nv at *
      clear p1a p2a M1a M2a bk1a bk2a nea hBa hw3
      clear s0 s1 s2 x0 x1 x2 y0 y1 y2 l0 l1 l2
      generalize q1a = q1 at *
      generalize q2a = q2 at *
      go_wp2
      go_loopw [9] (fun iw wr => ∃ (j : Nat) (u7 u8 : Value), j ≤ n ∧ iw = .int .i64 j ∧ LI N D d xa xv xm xl xh ya yv ym yl yh sa sv na nv A R n c n cr w x.heap.size q1 q2 u7 u8 ((bthL G H).take j) ((mnsL G).take j) wr) (fun iw _ => n - (intOf iw).toNat)
      case atStart => exact ⟨0, _, _, by omega, rfl, by simpa using HLI.out⟩
      case round =>
        obtain ⟨j, u7, u8, hj, rfl, hli⟩ := hrel
        have HL := Lib.hid hli
        clear hli
        by_cases hlt : j < n
        · obtain ⟨gb, go, g, rfl, hgb, hgx, hgc⟩ := (HRG.out wr HL.out.k.b).1.at_ (show j < G.length by rw [HLL.out.1]; exact hlt)
          obtain ⟨hb, ho, h, rfl, hhb, hhx, hhc⟩ := (HRG.out wr HL.out.k.b).2.at_ (show j < H.length by rw [HLL.out.2]; exact hlt)
          have HGC := Lib.hid (fun (W : World) (hW : Below w.heap.size w W) => show W.cell? ⟨gb, go + j, none⟩ = some (.int .i64 g) from by
            obtain ⟨b9, o9, g9, e9, _, hx9, hc9⟩ := (HRG.out W hW).1.at_ (show j < G.length by rw [HLL.out.1]; exact hlt)
            cases e9
            rw [hgx] at hx9
            cases hx9
            exact hc9)
          have HM1 := Lib.hid (bth_more hgx hhx)
          have HM2 := Lib.hid (mns_more hgx)
          have i1 : (0 : Int) ≤ (j : Int) := by omega
          have i2 : (j : Int) < (n : Int) := by omega
          have hlen1 : (((bthL G H).take j).length + 1) * 8 ≤ 140737488355328 := HLEN.out.1 j hlt
          have hlen2 : (((mnsL G).take j).length + 1) * 8 ≤ 140737488355328 := HLEN.out.2 j hlt
          have lg := World.block_lt_of_cell? _ _ hgc
          have lh := World.block_lt_of_cell? _ _ hhc
          clear hgx hhx hgb hhb
          have s0 := cellOf (o := 0) HL.out.k.s rfl
          have s1 := cellOf (o := 1) HL.out.k.s rfl
          have s2 := cellOf (o := 2) HL.out.k.s rfl
          have x0 := cellOf (o := 0) HL.out.k.x rfl
          have x1 := cellOf (o := 1) HL.out.k.x rfl
          have x2 := cellOf (o := 2) HL.out.k.x rfl
          have y0 := cellOf (o := 0) HL.out.k.y rfl
          have y1 := cellOf (o := 1) HL.out.k.y rfl
          have y2 := cellOf (o := 2) HL.out.k.y rfl
          have l0 := lt_of_block HL.out.k.s
          have l1 := lt_of_block HL.out.k.x
          have l2 := lt_of_block HL.out.k.y
          have b0 := cellOf (o := 0) HL.out.b1 rfl
          have b1 := cellOf (o := 1) HL.out.b1 rfl
          have b2 := cellOf (o := 2) HL.out.b1 rfl
          have c0 := cellOf (o := 0) HL.out.b2 rfl
          have c1 := cellOf (o := 1) HL.out.b2 rfl
          have c2 := cellOf (o := 2) HL.out.b2 rfl
          have m1 := lt_of_block HL.out.b1
          have m2 := lt_of_block HL.out.b2
          go_upto_region 7 with (fail)
          obtain ⟨Qb, hQb⟩ : ∃ q9 : Nat → Value → World → Prop, q9 = QG [some (.pointer (some ⟨q1, 2, none⟩)), some (u7), some (.pointer (some ⟨w.heap.size + 1, 2, none⟩)), some (.slice (some ⟨gb, go, none⟩) n c), some (.int .i64 ((j : Int))), some (.pointer (some ⟨gb, go + j, none⟩)), some (.int .i64 g), some (.pointer (some ⟨w.heap.size + 1 + 1, 2, none⟩)), some (.slice (some ⟨hb, ho, none⟩) n cr), some (.int .i64 ((j : Int))), some (.pointer (some ⟨hb, ho + j, none⟩)), some (.int .i64 h), some (.int .i64 (IntKind.i64.wrap (g + h))), none, none, some (.pointer (some ⟨q1, 2, none⟩)), none] (fun _ _ _ => True) := ⟨_, rfl⟩
          obtain ⟨Eb, hEb⟩ : ∃ q9 : Nat → Value → World → Prop, q9 = (fun j0' v0' w0' => (j0' = 13 → OneI (IntKind.i64.wrap (g + h)) v0' w0')) := ⟨_, rfl⟩
          have hSt : Still Qb := by rw [hQb]; exact QG.still
          have hEs : Stays Eb := by rw [hEb]; exact fun j v W W' h hb => fun e => (h e).stay hb
          have Xb13 := Lib.hid (show ∀ v0' w0', Eb 13 v0' w0' ↔ OneI (IntKind.i64.wrap (g + h)) v0' w0' from fun v0' w0' => by rw [hEb]; exact ⟨fun h => h rfl, fun h => fun _ => h⟩)
          have XbF := Lib.hid (show ∀ j, decide (j ∈ ([13] : List Nat)) = false → ∀ v0' w0', Eb j v0' w0' from fun j hj v0' w0' => by rw [hEb]; exact fun e => absurd (e ▸ hj) (by decide))
          obtain ⟨Pb9, hPb9⟩ : ∃ p9 : Value → World → Prop, p9 = (fun v9 w9 => APP wr (x.heap.size) (u7) ((bthL G H).take j ++ [IntKind.i64.wrap (g + h)]) v9 w9) := ⟨_, rfl⟩
          have HPb9 := Lib.hid hPb9
          obtain ⟨Fb9, hFb9⟩ : ∃ p9 : Value → World → World, p9 = (fun v9 w9 => w9.setCell ⟨q1, 2, none⟩ v9) := ⟨_, rfl⟩
          have HFb9 := Lib.hid hFb9
          have HQb := Lib.hid hQb
          clear hQb hEb hPb9 hFb9
          refine wpIn_wide.1 (region_inv2 (n := 9) (by kernel_rfl) (RAS Qb Eb wr 14 16 Pb9 Fb9) (by kernel_rfl) rfl (RAS.start _ _ _ _ _ _ _ _) ?hstepb ?hendb)
          case hstepb =>
            intro i' o ho val L b' xx hF hR hpre hl
            match i', ho with
            | 0, ho =>
              simp at ho; subst ho; refine step_plain rfl ?_; have hN := hF.later hl 1 rfl (e := ⟨0, .data⟩) (by simp) rfl rfl; have hN := hF.back hN 14 rfl (by decide) (e := ⟨1, .data⟩) (by simp) rfl rfl; have e7 := hF.was 7 (by kernel_rfl) rfl; have hgoal := hR.go hSt hEs hN HQb 0 rfl (XbF.out 0 (by decide)) (by decide); clear hF hpre hl hR hN; go_simp; exact ⟨_, rfl, hgoal _ _ (Below.refl _ _) rfl⟩
            | 1, ho =>
              simp at ho; subst ho; refine step_plain rfl ?_; have hN := hF.later hl 14 rfl (e := ⟨1, .data⟩) (by simp) rfl rfl; have e61 := hF.gvs hR.1 HQb 0 (by decide) (by decide) rfl (hpre ⟨0, .data⟩ (by simp) rfl) rfl; have hgoal := hR.go hSt hEs hN HQb 1 rfl (XbF.out 1 (by decide)) (by decide); have q0 := cell_keep (hR.2.1 hN).1 b2; clear hF hpre hl hR hN; go_simp; exact ⟨_, rfl, hgoal _ _ (Below.refl _ _) rfl⟩
            | 2, ho =>
              simp at ho; subst ho; refine step_plain rfl ?_; have hN := hF.later hl 3 rfl (e := ⟨2, .data⟩) (by simp) rfl rfl; have hN := hF.back hN 5 rfl (by decide) (e := ⟨3, .data⟩) (by simp) rfl rfl; have hN := hF.back hN 6 rfl (by decide) (e := ⟨5, .data⟩) (by simp) rfl rfl; have hN := hF.back hN 12 rfl (by decide) (e := ⟨6, .data⟩) (by simp) rfl rfl; have hN := hF.back hN 13 rfl (by decide) (e := ⟨12, .data⟩) (by simp) rfl rfl; have hN := hF.back hN 14 rfl (by decide) (e := ⟨13, .data⟩) (by simp) rfl rfl; have e4 := hF.was 4 (by kernel_rfl) rfl; have hgoal := hR.go hSt hEs hN HQb 2 rfl (XbF.out 2 (by decide)) (by decide); clear hF hpre hl hR hN; go_simp; exact ⟨_, rfl, hgoal _ _ (Below.refl _ _) rfl⟩
            | 3, ho =>
              simp at ho; subst ho; refine step_plain rfl ?_; have hN := hF.later hl 5 rfl (e := ⟨3, .data⟩) (by simp) rfl rfl; have hN := hF.back hN 6 rfl (by decide) (e := ⟨5, .data⟩) (by simp) rfl rfl; have hN := hF.back hN 12 rfl (by decide) (e := ⟨6, .data⟩) (by simp) rfl rfl; have hN := hF.back hN 13 rfl (by decide) (e := ⟨12, .data⟩) (by simp) rfl rfl; have hN := hF.back hN 14 rfl (by decide) (e := ⟨13, .data⟩) (by simp) rfl rfl; have e63 := hF.gvs hR.1 HQb 2 (by decide) (by decide) rfl (hpre ⟨2, .data⟩ (by simp) rfl) rfl; have hgoal := hR.go hSt hEs hN HQb 3 rfl (XbF.out 3 (by decide)) (by decide); have q0 := cell_keep (hR.2.1 hN).1 x2; clear hF hpre hl hR hN; go_simp; exact ⟨_, rfl, hgoal _ _ (Below.refl _ _) rfl⟩
            | 4, ho =>
              simp at ho; subst ho; refine step_plain rfl ?_; have hN := hF.later hl 5 rfl (e := ⟨4, .data⟩) (by simp) rfl rfl; have hN := hF.back hN 6 rfl (by decide) (e := ⟨5, .data⟩) (by simp) rfl rfl; have hN := hF.back hN 12 rfl (by decide) (e := ⟨6, .data⟩) (by simp) rfl rfl; have hN := hF.back hN 13 rfl (by decide) (e := ⟨12, .data⟩) (by simp) rfl rfl; have hN := hF.back hN 14 rfl (by decide) (e := ⟨13, .data⟩) (by simp) rfl rfl; have e9 := hF.was 9 (by kernel_rfl) rfl; have hgoal := hR.go hSt hEs hN HQb 4 rfl (XbF.out 4 (by decide)) (by decide); clear hF hpre hl hR hN; go_simp; exact ⟨_, rfl, hgoal _ _ (Below.refl _ _) rfl⟩
            | 5, ho =>
              simp at ho; subst ho; refine step_plain rfl ?_; have hN := hF.later hl 6 rfl (e := ⟨5, .data⟩) (by simp) rfl rfl; have hN := hF.back hN 12 rfl (by decide) (e := ⟨6, .data⟩) (by simp) rfl rfl; have hN := hF.back hN 13 rfl (by decide) (e := ⟨12, .data⟩) (by simp) rfl rfl; have hN := hF.back hN 14 rfl (by decide) (e := ⟨13, .data⟩) (by simp) rfl rfl; have e64 := hF.gvs hR.1 HQb 3 (by decide) (by decide) rfl (hpre ⟨3, .data⟩ (by simp) rfl) rfl; have e65 := hF.gvs hR.1 HQb 4 (by decide) (by decide) rfl (hpre ⟨4, .data⟩ (by simp) rfl) rfl; have hgoal := hR.go hSt hEs hN HQb 5 rfl (XbF.out 5 (by decide)) (by decide); clear hF hpre hl hR hN; go_simp; exact ⟨_, rfl, hgoal _ _ (Below.refl _ _) rfl⟩
            | 6, ho =>
              simp at ho; subst ho; refine step_plain rfl ?_; have hN := hF.later hl 12 rfl (e := ⟨6, .data⟩) (by simp) rfl rfl; have hN := hF.back hN 13 rfl (by decide) (e := ⟨12, .data⟩) (by simp) rfl rfl; have hN := hF.back hN 14 rfl (by decide) (e := ⟨13, .data⟩) (by simp) rfl rfl; have e66 := hF.gvs hR.1 HQb 5 (by decide) (by decide) rfl (hpre ⟨5, .data⟩ (by simp) rfl) rfl; have hgoal := hR.go hSt hEs hN HQb 6 rfl (XbF.out 6 (by decide)) (by decide); have q0 := cell_keep (hR.2.1 hN).1 hgc; clear hF hpre hl hR hN; go_simp; exact ⟨_, rfl, hgoal _ _ (Below.refl _ _) rfl⟩
            | 7, ho =>
              simp at ho; subst ho; refine step_plain rfl ?_; have hN := hF.later hl 8 rfl (e := ⟨7, .data⟩) (by simp) rfl rfl; have hN := hF.back hN 10 rfl (by decide) (e := ⟨8, .data⟩) (by simp) rfl rfl; have hN := hF.back hN 11 rfl (by decide) (e := ⟨10, .data⟩) (by simp) rfl rfl; have hN := hF.back hN 12 rfl (by decide) (e := ⟨11, .data⟩) (by simp) rfl rfl; have hN := hF.back hN 13 rfl (by decide) (e := ⟨12, .data⟩) (by simp) rfl rfl; have hN := hF.back hN 14 rfl (by decide) (e := ⟨13, .data⟩) (by simp) rfl rfl; have e5 := hF.was 5 (by kernel_rfl) rfl; have hgoal := hR.go hSt hEs hN HQb 7 rfl (XbF.out 7 (by decide)) (by decide); clear hF hpre hl hR hN; go_simp; exact ⟨_, rfl, hgoal _ _ (Below.refl _ _) rfl⟩
            | 8, ho =>
              simp at ho; subst ho; refine step_plain rfl ?_; have hN := hF.later hl 10 rfl (e := ⟨8, .data⟩) (by simp) rfl rfl; have hN := hF.back hN 11 rfl (by decide) (e := ⟨10, .data⟩) (by simp) rfl rfl; have hN := hF.back hN 12 rfl (by decide) (e := ⟨11, .data⟩) (by simp) rfl rfl; have hN := hF.back hN 13 rfl (by decide) (e := ⟨12, .data⟩) (by simp) rfl rfl; have hN := hF.back hN 14 rfl (by decide) (e := ⟨13, .data⟩) (by simp) rfl rfl; have e68 := hF.gvs hR.1 HQb 7 (by decide) (by decide) rfl (hpre ⟨7, .data⟩ (by simp) rfl) rfl; have hgoal := hR.go hSt hEs hN HQb 8 rfl (XbF.out 8 (by decide)) (by decide); have q0 := cell_keep (hR.2.1 hN).1 y2; clear hF hpre hl hR hN; go_simp; exact ⟨_, rfl, hgoal _ _ (Below.refl _ _) rfl⟩
            | 9, ho =>
              simp at ho; subst ho; refine step_plain rfl ?_; have hN := hF.later hl 10 rfl (e := ⟨9, .data⟩) (by simp) rfl rfl; have hN := hF.back hN 11 rfl (by decide) (e := ⟨10, .data⟩) (by simp) rfl rfl; have hN := hF.back hN 12 rfl (by decide) (e := ⟨11, .data⟩) (by simp) rfl rfl; have hN := hF.back hN 13 rfl (by decide) (e := ⟨12, .data⟩) (by simp) rfl rfl; have hN := hF.back hN 14 rfl (by decide) (e := ⟨13, .data⟩) (by simp) rfl rfl; have e9 := hF.was 9 (by kernel_rfl) rfl; have hgoal := hR.go hSt hEs hN HQb 9 rfl (XbF.out 9 (by decide)) (by decide); clear hF hpre hl hR hN; go_simp; exact ⟨_, rfl, hgoal _ _ (Below.refl _ _) rfl⟩
            | 10, ho =>
              simp at ho; subst ho; refine step_plain rfl ?_; have hN := hF.later hl 11 rfl (e := ⟨10, .data⟩) (by simp) rfl rfl; have hN := hF.back hN 12 rfl (by decide) (e := ⟨11, .data⟩) (by simp) rfl rfl; have hN := hF.back hN 13 rfl (by decide) (e := ⟨12, .data⟩) (by simp) rfl rfl; have hN := hF.back hN 14 rfl (by decide) (e := ⟨13, .data⟩) (by simp) rfl rfl; have e69 := hF.gvs hR.1 HQb 8 (by decide) (by decide) rfl (hpre ⟨8, .data⟩ (by simp) rfl) rfl; have e70 := hF.gvs hR.1 HQb 9 (by decide) (by decide) rfl (hpre ⟨9, .data⟩ (by simp) rfl) rfl; have hgoal := hR.go hSt hEs hN HQb 10 rfl (XbF.out 10 (by decide)) (by decide); clear hF hpre hl hR hN; go_simp; exact ⟨_, rfl, hgoal _ _ (Below.refl _ _) rfl⟩
            | 11, ho =>
              simp at ho; subst ho; refine step_plain rfl ?_; have hN := hF.later hl 12 rfl (e := ⟨11, .data⟩) (by simp) rfl rfl; have hN := hF.back hN 13 rfl (by decide) (e := ⟨12, .data⟩) (by simp) rfl rfl; have hN := hF.back hN 14 rfl (by decide) (e := ⟨13, .data⟩) (by simp) rfl rfl; have e71 := hF.gvs hR.1 HQb 10 (by decide) (by decide) rfl (hpre ⟨10, .data⟩ (by simp) rfl) rfl; have hgoal := hR.go hSt hEs hN HQb 11 rfl (XbF.out 11 (by decide)) (by decide); have q0 := cell_keep (hR.2.1 hN).1 hhc; clear hF hpre hl hR hN; go_simp; exact ⟨_, rfl, hgoal _ _ (Below.refl _ _) rfl⟩
            | 12, ho =>
              simp at ho; subst ho; refine step_plain rfl ?_; have hN := hF.later hl 13 rfl (e := ⟨12, .data⟩) (by simp) rfl rfl; have hN := hF.back hN 14 rfl (by decide) (e := ⟨13, .data⟩) (by simp) rfl rfl; have e67 := hF.gvs hR.1 HQb 6 (by decide) (by decide) rfl (hpre ⟨6, .data⟩ (by simp) rfl) rfl; have e72 := hF.gvs hR.1 HQb 11 (by decide) (by decide) rfl (hpre ⟨11, .data⟩ (by simp) rfl) rfl; have hgoal := hR.go hSt hEs hN HQb 12 rfl (XbF.out 12 (by decide)) (by decide); clear hF hpre hl hR hN; go_simp; exact ⟨_, rfl, hgoal _ _ (Below.refl _ _) rfl⟩
            | 13, ho =>
              simp at ho; subst ho; refine step_plain rfl ?_; have hN := hF.later hl 14 rfl (e := ⟨13, .data⟩) (by simp) rfl rfl; have e73 := hF.gvs hR.1 HQb 12 (by decide) (by decide) rfl (hpre ⟨12, .data⟩ (by simp) rfl) rfl
              have hgoal : ∀ v0' w0', Below xx.heap.size xx w0' → OneI (IntKind.i64.wrap (g + h)) v0' w0' → RAS Qb Eb wr 14 16 Pb9 Fb9 (upd val 13 v0') (L.setIfInBounds 13 true) w0' := fun v0' w0' hb hq => hR.step hSt hEs hN hb (QG.none HQb 13 rfl (fun _ _ => trivial) _ _) ((Xb13.out _ _).2 hq) (by decide)
              clear hF hpre hl hR hN; go_simp; exact ⟨_, rfl, hgoal _ _ ((Below.refl _ _).alloc (Nat.le_refl _) _) OneI.new⟩
            | 14, ho =>
              simp at ho; subst ho; refine step_plain rfl ?_
              have hls : 14 < L.size := by rw [hF.lsize]; decide
              have hN : L.getD 14 false = false := by rw [← getD_same hls]; exact hl
              have hT := hF.later hl 16 rfl (e := ⟨14, .data⟩) (by simp) rfl rfl
              have e62 := hF.gvs hR.1 HQb 1 (by decide) (by decide) rfl (hpre ⟨1, .data⟩ (by simp) rfl) rfl; have e74 := hF.gave 13 rfl (hpre ⟨13, .data⟩ (by simp) rfl) rfl
              have v13 := (Xb13.out _ _).1 ((hR.2.1 hN).2 13 (hpre ⟨13, .data⟩ (by simp) rfl))
              have hb9 := (hR.2.1 hN).1
              refine step_pushA (.tmp 62) (.tmp 74) rfl (x.heap.size) (u7) ((bthL G H).take j) (by simpa [Act.eval] using e62) (HL.out.o1.stay hb9) _ (IntKind.i64.wrap (g + h)) (by simpa [Act.eval] using e74) v13 hlen1 (Nat.le_trans HL.out.sz hb9.size) ?_
              intro v' w9 h9 g9' n9
              exact ⟨_, rfl, hR.push hSt hls hN hT (by decide) (by rw [HPb9.out]; exact APP.intro hb9 g9' h9 n9)⟩
            | 15, ho =>
              simp at ho; subst ho; refine step_plain rfl ?_; have e7 := hF.was 7 (by kernel_rfl) rfl; have hgoal := hR.goR hSt hEs HQb 15 rfl (XbF.out 15 (by decide)) (by decide) (by decide); clear hF hpre hl hR; go_simp; exact ⟨_, rfl, hgoal _ rfl⟩
            | 16, ho =>
              simp at ho; subst ho; refine step_plain rfl ?_; have e76 := hF.gvs hR.1 HQb 15 (by decide) (by decide) rfl (hpre ⟨15, .data⟩ (by simp) rfl) rfl; have e75 := hF.gave 14 rfl (hpre ⟨14, .data⟩ (by simp) rfl) rfl
              have hls : 16 < L.size := by rw [hF.lsize]; decide
              have hT : L.getD 16 false = false := by rw [← getD_same hls]; exact hl
              have hS := hpre ⟨14, .data⟩ (by simp) rfl
              have hP := (hR.2.2 hS).1 hT
              rw [HPb9.out] at hP
              have qb := hP.blk HL.out.b1 (own_ne HL.out.o1 HL.out.h1.2)
              obtain ⟨A9, c9, ev9, _, _⟩ := OI.ri hP.own
              obtain ⟨n9, en9⟩ : ∃ n9, ((bthL G H).take j ++ [IntKind.i64.wrap (g + h)]).length = n9 := ⟨_, rfl⟩
              rw [en9] at ev9; clear en9
              rw [ev9] at e75
              have g0 := cellOf (o := 2) qb rfl; have f0 := freeOf (o := 2) qb; have hq := lt_of_block qb; have hgoal := RAS.store (v := undef) hR hSt hls hS hT (by decide)
              have HG := Lib.hid hgoal
              have EV := Lib.hid ev9
              clear hF hpre hl hR hls hS hT hP qb hgoal ev9; go_simp
              exact ⟨undef, by have h9 := HG.out; rw [HFb9.out] at h9 ⊢; rw [← EV.out]; exact h9⟩
            | i + 17, ho => simp at ho
          case hendb =>
            intro val L b' xx hF hall hR
            have e := hF.all (by kernel_rfl) hall
            obtain ⟨yb, pyb, eyb⟩ := (hR.2.2 (hall 14 (by decide))).2 (hall 16 (by decide))
            rw [HPb9.out] at pyb; rw [HFb9.out] at eyb; (try dsimp only at eyb)
            have PYb := Lib.hid pyb
            have EYb := Lib.hid eyb
            clear hF hall hR hSt hEs pyb eyb HQb XbF HPb9 HFb9 Xb13
            subst e
            simp [final, dstOf, List.range, List.range.loop]
            have HL2 := Lib.hid (HL.out.app1 PYb.out EYb.out)
            rw [HM1.out] at HL2
            clear s0 s1 s2 x0 x1 x2 y0 y1 y2 l0 l1 l2
            clear b0 b1 b2 c0 c1 c2 m1 m2
            have hgc := HGC.out _ HL2.out.k.b
            have lg := World.block_lt_of_cell? _ _ hgc
            generalize val 14 = u9 at *
            generalize val 13 = z13 at *
            have s0 := cellOf (o := 0) HL2.out.k.s rfl
            have s1 := cellOf (o := 1) HL2.out.k.s rfl
            have s2 := cellOf (o := 2) HL2.out.k.s rfl
            have x0 := cellOf (o := 0) HL2.out.k.x rfl
            have x1 := cellOf (o := 1) HL2.out.k.x rfl
            have x2 := cellOf (o := 2) HL2.out.k.x rfl
            have y0 := cellOf (o := 0) HL2.out.k.y rfl
            have y1 := cellOf (o := 1) HL2.out.k.y rfl
            have y2 := cellOf (o := 2) HL2.out.k.y rfl
            have l0 := lt_of_block HL2.out.k.s
            have l1 := lt_of_block HL2.out.k.x
            have l2 := lt_of_block HL2.out.k.y
            have b0 := cellOf (o := 0) HL2.out.b1 rfl
            have b1 := cellOf (o := 1) HL2.out.b1 rfl
            have b2 := cellOf (o := 2) HL2.out.b1 rfl
            have c0 := cellOf (o := 0) HL2.out.b2 rfl
            have c1 := cellOf (o := 1) HL2.out.b2 rfl
            have c2 := cellOf (o := 2) HL2.out.b2 rfl
            have m1 := lt_of_block HL2.out.b1
            have m2 := lt_of_block HL2.out.b2
            go_upto_region 8 with (fail)
            obtain ⟨Qc, hQc⟩ : ∃ q9 : Nat → Value → World → Prop, q9 = QG [some (.pointer (some ⟨q2, 2, none⟩)), some (u8), some (.pointer (some ⟨w.heap.size + 1, 2, none⟩)), some (.slice (some ⟨gb, go, none⟩) n c), some (.int .i64 ((j : Int))), some (.pointer (some ⟨gb, go + j, none⟩)), some (.int .i64 g), some (.int .i64 (IntKind.i64.wrap (-g))), none, none, some (.pointer (some ⟨q2, 2, none⟩)), none] (fun _ _ _ => True) := ⟨_, rfl⟩
            obtain ⟨Ec, hEc⟩ : ∃ q9 : Nat → Value → World → Prop, q9 = (fun j0' v0' w0' => (j0' = 8 → OneI (IntKind.i64.wrap (-g)) v0' w0')) := ⟨_, rfl⟩
            have hSt : Still Qc := by rw [hQc]; exact QG.still
            have hEs : Stays Ec := by rw [hEc]; exact fun j v W W' h hb => fun e => (h e).stay hb
            have Xc8 := Lib.hid (show ∀ v0' w0', Ec 8 v0' w0' ↔ OneI (IntKind.i64.wrap (-g)) v0' w0' from fun v0' w0' => by rw [hEc]; exact ⟨fun h => h rfl, fun h => fun _ => h⟩)
            have XcF := Lib.hid (show ∀ j, decide (j ∈ ([8] : List Nat)) = false → ∀ v0' w0', Ec j v0' w0' from fun j hj v0' w0' => by rw [hEc]; exact fun e => absurd (e ▸ hj) (by decide))
            obtain ⟨Pc9, hPc9⟩ : ∃ p9 : Value → World → Prop, p9 = (fun v9 w9 => APP xx (x.heap.size) (u8) ((mnsL G).take j ++ [IntKind.i64.wrap (-g)]) v9 w9) := ⟨_, rfl⟩
            have HPc9 := Lib.hid hPc9
            obtain ⟨Fc9, hFc9⟩ : ∃ p9 : Value → World → World, p9 = (fun v9 w9 => w9.setCell ⟨q2, 2, none⟩ v9) := ⟨_, rfl⟩
            have HFc9 := Lib.hid hFc9
            have HQc := Lib.hid hQc
            clear hQc hEc hPc9 hFc9
            refine wpIn_wide.1 (region_inv2 (n := 9) (by kernel_rfl) (RAS Qc Ec xx 9 11 Pc9 Fc9) (by kernel_rfl) rfl (RAS.start _ _ _ _ _ _ _ _) ?hstepc ?hendc)
            case hstepc =>
              intro i' o ho val L b' xy hF hR hpre hl
              match i', ho with
              | 0, ho =>
                simp at ho; subst ho; refine step_plain rfl ?_; have hN := hF.later hl 1 rfl (e := ⟨0, .data⟩) (by simp) rfl rfl; have hN := hF.back hN 9 rfl (by decide) (e := ⟨1, .data⟩) (by simp) rfl rfl; have e8 := hF.was 8 (by kernel_rfl) rfl; have hgoal := hR.go hSt hEs hN HQc 0 rfl (XcF.out 0 (by decide)) (by decide); clear hF hpre hl hR hN; go_simp; exact ⟨_, rfl, hgoal _ _ (Below.refl _ _) rfl⟩
              | 1, ho =>
                simp at ho; subst ho; refine step_plain rfl ?_; have hN := hF.later hl 9 rfl (e := ⟨1, .data⟩) (by simp) rfl rfl; have e77 := hF.gvs hR.1 HQc 0 (by decide) (by decide) rfl (hpre ⟨0, .data⟩ (by simp) rfl) rfl; have hgoal := hR.go hSt hEs hN HQc 1 rfl (XcF.out 1 (by decide)) (by decide); have q0 := cell_keep (hR.2.1 hN).1 c2; clear hF hpre hl hR hN; go_simp; exact ⟨_, rfl, hgoal _ _ (Below.refl _ _) rfl⟩
              | 2, ho =>
                simp at ho; subst ho; refine step_plain rfl ?_; have hN := hF.later hl 3 rfl (e := ⟨2, .data⟩) (by simp) rfl rfl; have hN := hF.back hN 5 rfl (by decide) (e := ⟨3, .data⟩) (by simp) rfl rfl; have hN := hF.back hN 6 rfl (by decide) (e := ⟨5, .data⟩) (by simp) rfl rfl; have hN := hF.back hN 7 rfl (by decide) (e := ⟨6, .data⟩) (by simp) rfl rfl; have hN := hF.back hN 8 rfl (by decide) (e := ⟨7, .data⟩) (by simp) rfl rfl; have hN := hF.back hN 9 rfl (by decide) (e := ⟨8, .data⟩) (by simp) rfl rfl; have e4 := hF.was 4 (by kernel_rfl) rfl; have hgoal := hR.go hSt hEs hN HQc 2 rfl (XcF.out 2 (by decide)) (by decide); clear hF hpre hl hR hN; go_simp; exact ⟨_, rfl, hgoal _ _ (Below.refl _ _) rfl⟩
              | 3, ho =>
                simp at ho; subst ho; refine step_plain rfl ?_; have hN := hF.later hl 5 rfl (e := ⟨3, .data⟩) (by simp) rfl rfl; have hN := hF.back hN 6 rfl (by decide) (e := ⟨5, .data⟩) (by simp) rfl rfl; have hN := hF.back hN 7 rfl (by decide) (e := ⟨6, .data⟩) (by simp) rfl rfl; have hN := hF.back hN 8 rfl (by decide) (e := ⟨7, .data⟩) (by simp) rfl rfl; have hN := hF.back hN 9 rfl (by decide) (e := ⟨8, .data⟩) (by simp) rfl rfl; have e79 := hF.gvs hR.1 HQc 2 (by decide) (by decide) rfl (hpre ⟨2, .data⟩ (by simp) rfl) rfl; have hgoal := hR.go hSt hEs hN HQc 3 rfl (XcF.out 3 (by decide)) (by decide); have q0 := cell_keep (hR.2.1 hN).1 x2; clear hF hpre hl hR hN; go_simp; exact ⟨_, rfl, hgoal _ _ (Below.refl _ _) rfl⟩
              | 4, ho =>
                simp at ho; subst ho; refine step_plain rfl ?_; have hN := hF.later hl 5 rfl (e := ⟨4, .data⟩) (by simp) rfl rfl; have hN := hF.back hN 6 rfl (by decide) (e := ⟨5, .data⟩) (by simp) rfl rfl; have hN := hF.back hN 7 rfl (by decide) (e := ⟨6, .data⟩) (by simp) rfl rfl; have hN := hF.back hN 8 rfl (by decide) (e := ⟨7, .data⟩) (by simp) rfl rfl; have hN := hF.back hN 9 rfl (by decide) (e := ⟨8, .data⟩) (by simp) rfl rfl; have e9 := hF.was 9 (by kernel_rfl) rfl; have hgoal := hR.go hSt hEs hN HQc 4 rfl (XcF.out 4 (by decide)) (by decide); clear hF hpre hl hR hN; go_simp; exact ⟨_, rfl, hgoal _ _ (Below.refl _ _) rfl⟩
              | 5, ho =>
                simp at ho; subst ho; refine step_plain rfl ?_; have hN := hF.later hl 6 rfl (e := ⟨5, .data⟩) (by simp) rfl rfl; have hN := hF.back hN 7 rfl (by decide) (e := ⟨6, .data⟩) (by simp) rfl rfl; have hN := hF.back hN 8 rfl (by decide) (e := ⟨7, .data⟩) (by simp) rfl rfl; have hN := hF.back hN 9 rfl (by decide) (e := ⟨8, .data⟩) (by simp) rfl rfl; have e80 := hF.gvs hR.1 HQc 3 (by decide) (by decide) rfl (hpre ⟨3, .data⟩ (by simp) rfl) rfl; have e81 := hF.gvs hR.1 HQc 4 (by decide) (by decide) rfl (hpre ⟨4, .data⟩ (by simp) rfl) rfl; have hgoal := hR.go hSt hEs hN HQc 5 rfl (XcF.out 5 (by decide)) (by decide); clear hF hpre hl hR hN; go_simp; exact ⟨_, rfl, hgoal _ _ (Below.refl _ _) rfl⟩
              | 6, ho =>
                simp at ho; subst ho; refine step_plain rfl ?_; have hN := hF.later hl 7 rfl (e := ⟨6, .data⟩) (by simp) rfl rfl; have hN := hF.back hN 8 rfl (by decide) (e := ⟨7, .data⟩) (by simp) rfl rfl; have hN := hF.back hN 9 rfl (by decide) (e := ⟨8, .data⟩) (by simp) rfl rfl; have e82 := hF.gvs hR.1 HQc 5 (by decide) (by decide) rfl (hpre ⟨5, .data⟩ (by simp) rfl) rfl; have hgoal := hR.go hSt hEs hN HQc 6 rfl (XcF.out 6 (by decide)) (by decide); have q0 := cell_keep (hR.2.1 hN).1 hgc; clear hF hpre hl hR hN; go_simp; exact ⟨_, rfl, hgoal _ _ (Below.refl _ _) rfl⟩
              | 7, ho =>
                simp at ho; subst ho; refine step_plain rfl ?_; have hN := hF.later hl 8 rfl (e := ⟨7, .data⟩) (by simp) rfl rfl; have hN := hF.back hN 9 rfl (by decide) (e := ⟨8, .data⟩) (by simp) rfl rfl; have e83 := hF.gvs hR.1 HQc 6 (by decide) (by decide) rfl (hpre ⟨6, .data⟩ (by simp) rfl) rfl; have hgoal := hR.go hSt hEs hN HQc 7 rfl (XcF.out 7 (by decide)) (by decide); clear hF hpre hl hR hN; go_simp; exact ⟨_, rfl, hgoal _ _ (Below.refl _ _) rfl⟩
              | 8, ho =>
                simp at ho; subst ho; refine step_plain rfl ?_; have hN := hF.later hl 9 rfl (e := ⟨8, .data⟩) (by simp) rfl rfl; have e84 := hF.gvs hR.1 HQc 7 (by decide) (by decide) rfl (hpre ⟨7, .data⟩ (by simp) rfl) rfl
                have hgoal : ∀ v0' w0', Below xy.heap.size xy w0' → OneI (IntKind.i64.wrap (-g)) v0' w0' → RAS Qc Ec xx 9 11 Pc9 Fc9 (upd val 8 v0') (L.setIfInBounds 8 true) w0' := fun v0' w0' hb hq => hR.step hSt hEs hN hb (QG.none HQc 8 rfl (fun _ _ => trivial) _ _) ((Xc8.out _ _).2 hq) (by decide)
                clear hF hpre hl hR hN; go_simp; exact ⟨_, rfl, hgoal _ _ ((Below.refl _ _).alloc (Nat.le_refl _) _) OneI.new⟩
              | 9, ho =>
                simp at ho; subst ho; refine step_plain rfl ?_
                have hls : 9 < L.size := by rw [hF.lsize]; decide
                have hN : L.getD 9 false = false := by rw [← getD_same hls]; exact hl
                have hT := hF.later hl 11 rfl (e := ⟨9, .data⟩) (by simp) rfl rfl
                have e78 := hF.gvs hR.1 HQc 1 (by decide) (by decide) rfl (hpre ⟨1, .data⟩ (by simp) rfl) rfl; have e85 := hF.gave 8 rfl (hpre ⟨8, .data⟩ (by simp) rfl) rfl
                have v8 := (Xc8.out _ _).1 ((hR.2.1 hN).2 8 (hpre ⟨8, .data⟩ (by simp) rfl))
                have hb9 := (hR.2.1 hN).1
                refine step_pushA (.tmp 78) (.tmp 85) rfl (x.heap.size) (u8) ((mnsL G).take j) (by simpa [Act.eval] using e78) (HL2.out.o2.stay hb9) _ (IntKind.i64.wrap (-g)) (by simpa [Act.eval] using e85) v8 hlen2 (Nat.le_trans HL2.out.sz hb9.size) ?_
                intro v' w9 h9 g9' n9
                exact ⟨_, rfl, hR.push hSt hls hN hT (by decide) (by rw [HPc9.out]; exact APP.intro hb9 g9' h9 n9)⟩
              | 10, ho =>
                simp at ho; subst ho; refine step_plain rfl ?_; have e8 := hF.was 8 (by kernel_rfl) rfl; have hgoal := hR.goR hSt hEs HQc 10 rfl (XcF.out 10 (by decide)) (by decide) (by decide); clear hF hpre hl hR; go_simp; exact ⟨_, rfl, hgoal _ rfl⟩
              | 11, ho =>
                simp at ho; subst ho; refine step_plain rfl ?_; have e87 := hF.gvs hR.1 HQc 10 (by decide) (by decide) rfl (hpre ⟨10, .data⟩ (by simp) rfl) rfl; have e86 := hF.gave 9 rfl (hpre ⟨9, .data⟩ (by simp) rfl) rfl
                have hls : 11 < L.size := by rw [hF.lsize]; decide
                have hT : L.getD 11 false = false := by rw [← getD_same hls]; exact hl
                have hS := hpre ⟨9, .data⟩ (by simp) rfl
                have hP := (hR.2.2 hS).1 hT
                rw [HPc9.out] at hP
                have qb := hP.blk HL2.out.b2 (own_ne HL2.out.o2 HL2.out.h2.2)
                obtain ⟨A9, c9, ev9, _, _⟩ := OI.ri hP.own
                obtain ⟨n9, en9⟩ : ∃ n9, ((mnsL G).take j ++ [IntKind.i64.wrap (-g)]).length = n9 := ⟨_, rfl⟩
                rw [en9] at ev9; clear en9
                rw [ev9] at e86
                have g0 := cellOf (o := 2) qb rfl; have f0 := freeOf (o := 2) qb; have hq := lt_of_block qb; have hgoal := RAS.store (v := undef) hR hSt hls hS hT (by decide)
                have HG := Lib.hid hgoal
                have EV := Lib.hid ev9
                clear hF hpre hl hR hls hS hT hP qb hgoal ev9; go_simp
                exact ⟨undef, by have h9 := HG.out; rw [HFc9.out] at h9 ⊢; rw [← EV.out]; exact h9⟩
              | i + 12, ho => simp at ho
            case hendc =>
              intro val L b' xy hF hall hR
              have e := hF.all (by kernel_rfl) hall
              obtain ⟨yc, pyc, eyc⟩ := (hR.2.2 (hall 9 (by decide))).2 (hall 11 (by decide))
              rw [HPc9.out] at pyc; rw [HFc9.out] at eyc; (try dsimp only at eyc)
              have PYc := Lib.hid pyc
              have EYc := Lib.hid eyc
              clear hF hall hR hSt hEs pyc eyc HQc XcF HPc9 HFc9 Xc8
              subst e
              simp [final, dstOf, List.range, List.range.loop]
              have HL3 := Lib.hid (HL2.out.app2 PYc.out EYc.out)
              rw [HM2.out] at HL3
              clear s0 s1 s2 x0 x1 x2 y0 y1 y2 l0 l1 l2
              clear b0 b1 b2 c0 c1 c2 m1 m2
              clear hgc lg
              generalize val 9 = u9' at *
              go_wp2
              go_roundw
              case rel => exact ⟨j + 1, _, _, by omega, by go_num, HL3.out⟩
              case measure => simp [intOf] <;> omega
        · obtain rfl : j = n := by omega
          have hli := HL.out
          rw [List.take_of_length_le (by rw [bth_len (HLL.out.1.trans HLL.out.2.symm), HLL.out.1]; exact Nat.le_refl _), List.take_of_length_le (by rw [mns_len, HLL.out.1]; exact Nat.le_refl _)] at hli
          have HL := Lib.hid hli
          obtain ⟨A7, c7, e7, _, hr7⟩ := OI.ri hli.o1
          obtain ⟨A8, c8, e8, _, hr8⟩ := OI.ri hli.o2
          have HR7 := Lib.hid hr7
          have HR8 := Lib.hid hr8
          rw [bth_len (HLL.out.1.trans HLL.out.2.symm), HLL.out.1] at e7
          rw [mns_len, HLL.out.1] at e8
          subst e7 e8
          clear hli hr7 hr8 hlt
          have s0 := cellOf (o := 0) HL.out.k.s rfl
          have s1 := cellOf (o := 1) HL.out.k.s rfl
          have s2 := cellOf (o := 2) HL.out.k.s rfl
          have x0 := cellOf (o := 0) HL.out.k.x rfl
          have x1 := cellOf (o := 1) HL.out.k.x rfl
          have x2 := cellOf (o := 2) HL.out.k.x rfl
          have y0 := cellOf (o := 0) HL.out.k.y rfl
          have y1 := cellOf (o := 1) HL.out.k.y rfl
          have y2 := cellOf (o := 2) HL.out.k.y rfl
          have l0 := lt_of_block HL.out.k.s
          have l1 := lt_of_block HL.out.k.x
          have l2 := lt_of_block HL.out.k.y
          have b0 := cellOf (o := 0) HL.out.b1 rfl
          have b1 := cellOf (o := 1) HL.out.b1 rfl
          have b2 := cellOf (o := 2) HL.out.b1 rfl
          have c0 := cellOf (o := 0) HL.out.b2 rfl
          have c1 := cellOf (o := 1) HL.out.b2 rfl
          have c2 := cellOf (o := 2) HL.out.b2 rfl
          have m1 := lt_of_block HL.out.b1
          have m2 := lt_of_block HL.out.b2
          have hs1 : swA N D d xa xv G = (swRow N D d xa xv G, 0) := by unfold swA swN; rw [hx, if_pos rfl]
          have hs2 : swA N D d ya yv H = ([], swE N D d ya yv H) := by unfold swA swN; rw [if_neg hy]
          have hE : (swE N D d ya yv H != 0) = true := by rw [bne_iff_ne]; exact hy
          have HS1 := Lib.hid (fun (W : World) (hW : Below w.heap.size w W) => by have := HS1.out W hW; rw [hs1] at this; unfold GivesCe at this; exact this)
          have HS2 := Lib.hid (fun (W : World) (hW : Below w.heap.size w W) => by have := HS2.out W hW; rw [hs2] at this; unfold GivesCe at this; exact this)
          generalize swE N D d ya yv H = E at *
          clear HLF HSG hx hy hs1 hs2
          go_wp2_with (first
            | (go_at_call_of 17 (Value.agg #[.int .i64 xa, .int .i64 xv]); refine Calls.mono (HS1.out _ HL.out.k.b) ?_; rintro e v2 ⟨u2, rfl, hq2, hb2⟩; clear hq2; have HR7 := Lib.hid ((HR7.out.below hb2).more hb2.size); have HR8 := Lib.hid ((HR8.out.below hb2).more hb2.size); have HL := Lib.hid (HL.out.next hb2); clear hb2; clear s0 s1 s2 x0 x1 x2 y0 y1 y2 l0 l1 l2; clear b0 b1 b2 c0 c1 c2 m1 m2; have s0 := cellOf (o := 0) HL.out.k.s rfl; have s1 := cellOf (o := 1) HL.out.k.s rfl; have s2 := cellOf (o := 2) HL.out.k.s rfl; have x0 := cellOf (o := 0) HL.out.k.x rfl; have x1 := cellOf (o := 1) HL.out.k.x rfl; have x2 := cellOf (o := 2) HL.out.k.x rfl; have y0 := cellOf (o := 0) HL.out.k.y rfl; have y1 := cellOf (o := 1) HL.out.k.y rfl; have y2 := cellOf (o := 2) HL.out.k.y rfl; have l0 := lt_of_block HL.out.k.s; have l1 := lt_of_block HL.out.k.x; have l2 := lt_of_block HL.out.k.y; have b0 := cellOf (o := 0) HL.out.b1 rfl; have b1 := cellOf (o := 1) HL.out.b1 rfl; have b2 := cellOf (o := 2) HL.out.b1 rfl; have c0 := cellOf (o := 0) HL.out.b2 rfl; have c1 := cellOf (o := 1) HL.out.b2 rfl; have c2 := cellOf (o := 2) HL.out.b2 rfl; have m1 := lt_of_block HL.out.b1; have m2 := lt_of_block HL.out.b2)
            | (go_at_call_of 17 (Value.agg #[.int .i64 ya, .int .i64 yv]); refine Calls.mono (HS2.out _ HL.out.k.b) ?_; rintro e v3 ⟨u3, rfl, hq3, hb3⟩; clear hq3; have HR7 := Lib.hid ((HR7.out.below hb3).more hb3.size); have HR8 := Lib.hid ((HR8.out.below hb3).more hb3.size); have HL := Lib.hid (HL.out.next hb3); clear hb3; clear s0 s1 s2 x0 x1 x2 y0 y1 y2 l0 l1 l2; clear b0 b1 b2 c0 c1 c2 m1 m2; have s0 := cellOf (o := 0) HL.out.k.s rfl; have s1 := cellOf (o := 1) HL.out.k.s rfl; have s2 := cellOf (o := 2) HL.out.k.s rfl; have x0 := cellOf (o := 0) HL.out.k.x rfl; have x1 := cellOf (o := 1) HL.out.k.x rfl; have x2 := cellOf (o := 2) HL.out.k.x rfl; have y0 := cellOf (o := 0) HL.out.k.y rfl; have y1 := cellOf (o := 1) HL.out.k.y rfl; have y2 := cellOf (o := 2) HL.out.k.y rfl; have l0 := lt_of_block HL.out.k.s; have l1 := lt_of_block HL.out.k.x; have l2 := lt_of_block HL.out.k.y; have b0 := cellOf (o := 0) HL.out.b1 rfl; have b1 := cellOf (o := 1) HL.out.b1 rfl; have b2 := cellOf (o := 2) HL.out.b1 rfl; have c0 := cellOf (o := 0) HL.out.b2 rfl; have c1 := cellOf (o := 1) HL.out.b2 rfl; have c2 := cellOf (o := 2) HL.out.b2 rfl; have m1 := lt_of_block HL.out.b1; have m2 := lt_of_block HL.out.b2)
            | (go_at_call 22; refine Calls.mono (HWK.out _) ?_; rintro e v9 ⟨rfl, hb9⟩; have HX9 := Lib.hid (HL.out.k.b.trans (hb9.mono (HL.out.k.b).size)); clear hb9))
          go_ret
          exact ⟨rfl, HX9.out⟩
end Go.Proofs.Ytnnmmojlgikdgaa

/- Contracts of the functions that the statement reaches: JSets1, JRw, JSets2, JRends, JEff4, JSets3, JAllow. -/
import Derived.Test.YtnnmmojlgikdgaaM7
import Derived.Test.YtnnmmojlgikdgaaM6

/- The sets of a swing: ticks, until, effects. -/
namespace Go.Proofs.Ytnnmmojlgikdgaa
open Go.RowKit

theorem map_add0 (A : Option Addr) (c s : Nat) : (if c = 0 then A else A.map (·.add (0 * s))) = A := by
  split
  · rfl
  · cases A with
    | none => rfl
    | some a => rw [Option.map_some, Nat.zero_mul, show a.add 0 = a from by rfl]
theorem OI.low {base B : Nat} {v : Value} {l : List Int} {w w' : World} (h : OI base v l w) (hb : Below B w w') (hq : ∀ q, v.ownBlock = some q → q < B) : OI base v l w' :=
  ⟨h.1, h.2.imp id fun ⟨g, cap, cur, e, hg, hc, h3⟩ => ⟨g, cap, cur, e, hg, (hb.block g (hq g (by rw [e]; rfl))).trans hc, h3⟩⟩
theorem ticks_any (N D d : Int) (A : Option Addr) (n c : Nat) (w : World) (hn : n ≤ maxLen) :
    Calls Try.prog 102 #[.agg #[.int .i64 N, .int .i64 D, .int .i64 d, .slice A n c]] w fun e w' => e = .returned (.int .i64 ((n : Int) - 2)) ∧ Below w.heap.size w w' := by
  unfold maxLen at hn
  have i1 : IntKind.i64.wrap ((n : Int) - 2) = (n : Int) - 2 := IntWalk.i64_in _ (by omega)
  go_enter Try.func102, Try.ntmps102
  go_wp2
  go_ret
  exact ⟨rfl, by go_grown⟩

set_option maxRecDepth 100000 in
set_option maxHeartbeats 2000000 in
theorem effects_any (N D d : Int) (A : Option Addr) (k n c : Nat) (w : World) (hs : slB N D d = true) (hnk : n = k + 2) (hk : k ≤ 16) :
    Calls Try.prog 100 #[.agg #[.int .i64 N, .int .i64 D, .int .i64 d, .slice A n c]] w fun e w' => ∃ u, e = .returned (.tuple #[u, .int .i64 (powI d k)]) ∧ QI (efL N D d k) u w' ∧ Below w.heap.size w w' := by
  have HNK := Lib.hid hnk
  have hn2 : 2 ≤ n := by omega
  have hn18 : n ≤ 18 := by omega
  obtain ⟨⟨d1, d2⟩, _, _⟩ := slB_get hs
  have HSL := Lib.hid hs
  have HB0 := Lib.hid ((Below.refl w.heap.size w).alloc (Nat.le_refl _) (.cells #[.int .i64 N, .int .i64 D, .int .i64 d, .slice A n c] 101))
  have HT0 := Lib.hid (blk_new w (.cells #[.int .i64 N, .int .i64 D, .int .i64 d, .slice A n c] 101) _ rfl)
  have HH := Lib.hid (fun a v W => hang_any N D d a v W)
  clear hs hnk
  go_enter Try.func100, Try.ntmps100
  go_upto_region 1 with (fail)
  generalize World.alloc w _ = w1 at *
  have HZ1 := Lib.hid (lt_of_block HT0.out)
  have b3 := cellOf (o := 3) HT0.out rfl
  have l1 := lt_of_block HT0.out
  go_upto_region 2 with (fail)
  clear b3 l1
  go_loopw [2, 3, 12] (fun ul ud ui wr => ∃ i : Nat, i ≤ n ∧ ui = .int .i64 i ∧ ud = .int .i64 (if i = 0 then 0 else powI d k) ∧ OI w1.heap.size ul ((efL N D d k).take i) wr ∧ Below w1.heap.size w1 wr) (fun _ _ ui _ => n - (intOf ui).toNat)
  case atStart => exact ⟨0, by omega, rfl, rfl, OI.nil, Below.refl _ _⟩
  case round =>
    obtain ⟨i, hi, rfl, rfl, hol, hbw⟩ := hrel
    obtain ⟨ul, hul⟩ : ∃ x, u2 = x := ⟨_, rfl⟩
    rw [hul] at hol ⊢
    clear hul
    have HOL := Lib.hid hol
    have HBW := Lib.hid hbw
    have HDD := Lib.hid (fun (h : i ≠ 0) => show (if i = 0 then 0 else powI d k) = powI d k from if_neg h)
    generalize (if i = 0 then 0 else powI d k) = dd at *
    by_cases hlt : i < n
    · have HT := Lib.hid ((hbw.block _ HZ1.out).trans HT0.out)
      have b0 := cellOf (o := 0) HT.out rfl
      have b1 := cellOf (o := 1) HT.out rfl
      have b2 := cellOf (o := 2) HT.out rfl
      have b3 := cellOf (o := 3) HT.out rfl
      have l1 := lt_of_block HT.out
      clear hol hbw
      go_upto_region 5 with (at_make; refine wpList_makeI rfl _ _ rfl n rfl rfl (by omega) ?_)
      have HRW := Lib.hid (RW.made wr n)
      have HB2 := Lib.hid ((Below.refl wr.heap.size wr).alloc (Nat.le_refl _) (.cells (madeCells #[Value.int .i64 0] n) 3))
      obtain ⟨gr, hgr⟩ : ∃ z, wr.heap.size = z := ⟨_, rfl⟩
      have HGR0 := Lib.hid hgr
      rw [hgr] at HRW ⊢
      clear b0 b1 b2 b3 l1 hgr
      generalize World.alloc wr _ = w2 at *
      have r0 := HRW.out.get (k := i) (x := 0) (by simp [hlt])
      have f0 := HRW.out.free i
      have l2 := HRW.out.lt
      go_upto_region 6 with (fail)
      have HRX := Lib.hid (show RW (w2.setCell ⟨gr, i, none⟩ (.int .i64 1)) gr (oneL n i) from HRW.out.set i 1)
      have HB3 := Lib.hid (HB2.out.setCell (p := ⟨gr, i, none⟩) (Nat.le_of_eq HGR0.out) (.int .i64 1))
      clear r0 f0 l2
      generalize World.setCell w2 _ _ = w3 at *
      have HT3 := Lib.hid ((HB3.out.block _ (lt_of_block HT.out)).trans HT.out)
      have HOL3 := Lib.hid (HOL.out.stay HB3.out)
      have b0 := cellOf (o := 0) HT3.out rfl
      have b1 := cellOf (o := 1) HT3.out rfl
      have b2 := cellOf (o := 2) HT3.out rfl
      have b3 := cellOf (o := 3) HT3.out rfl
      have l1 := lt_of_block HT3.out
      have r0 := HRX.out.get (k := 0) (x := gz (oneL n i) 0) (by rw [oneL_get n i 0 (by omega), oneL_gz n i 0 (by omega)])
      have r1 := HRX.out.get (k := 1) (x := gz (oneL n i) 1) (by rw [oneL_get n i 1 (by omega), oneL_gz n i 1 (by omega)])
      have l3 := HRX.out.lt
      obtain ⟨x0, hx0⟩ : ∃ x, gz (oneL n i) 0 = x := ⟨_, rfl⟩
      obtain ⟨x1, hx1⟩ : ∃ x, gz (oneL n i) 1 = x := ⟨_, rfl⟩
      rw [hx0] at r0
      rw [hx1] at r1
      have HX := Lib.hid (And.intro hx0 hx1)
      have hn1 : (1 : Int) < (n : Int) := by omega
      have hn0 : (0 : Int) < (n : Int) := by omega
      have hn1' : 1 < n := by omega
      have hn0' : 0 < n := by omega
      clear hx0 hx1
      obtain ⟨Q, hQ⟩ : ∃ q9 : Nat → Value → World → Prop, q9 = QG [some (.pointer (some ⟨w.heap.size, 0, none⟩)), some (.agg #[.int .i64 N, .int .i64 D, .int .i64 d]), some (.slice (some ⟨gr, 0, none⟩) n n), some (.pointer (some ⟨gr, 0, none⟩)), some (.int .i64 x0), some (.slice (some ⟨gr, 0, none⟩) n n), some (.pointer (some ⟨gr, 1, none⟩)), some (.int .i64 x1), some (.agg #[.int .i64 x0, .int .i64 x1]), some (.agg #[.int .i64 N, .int .i64 D, .int .i64 d, .int .i64 x0, .int .i64 x1, .int .i64 1]), none, none] (fun _ _ _ => True) := ⟨_, rfl⟩
      obtain ⟨E, hE⟩ : ∃ q9 : Nat → Value → World → Prop, q9 = (fun _ _ _ => True) := ⟨_, rfl⟩
      have hSt : Still Q := by rw [hQ]; exact QG.still
      have hEs : Stays E := by rw [hE]; exact fun _ _ _ _ _ _ => trivial
      have XF := Lib.hid (show ∀ j, decide (j ∈ ([] : List Nat)) = false → ∀ v0' w0', E j v0' w0' from fun j hj v0' w0' => by rw [hE]; exact trivial)
      have HQ := Lib.hid hQ
      clear hQ hE
      refine wpIn_wide.1 (region_inv2 (n := 9) (by kernel_rfl) (RB Q E w3 11 10 #[.int .i64 0, .int .i64 0, .int .i64 0, .int .i64 0, .int .i64 0, .int .i64 0] #[.int .i64 N, .int .i64 D, .int .i64 d, .int .i64 x0, .int .i64 x1, .int .i64 1] 89) (by kernel_rfl) rfl (RB.start _ _ _ _ _ _ _ _ _) ?hstep ?hend)
      case hstep =>
        intro i' o ho val L b' x hF hR hpre hl
        match i', ho with
        | 0, ho =>
          simp at ho; subst ho; refine step_plain rfl ?_; have e1 := hF.was 1 (by kernel_rfl) rfl; have hgoal := hR.go hSt hEs HQ 0 rfl (XF.out 0 (by decide)) (by decide) (by decide); clear hF hpre hl hR; go_simp; exact ⟨_, rfl, hgoal _ _ (Below.refl _ _) rfl⟩
        | 1, ho =>
          simp at ho; subst ho; refine step_plain rfl ?_; have e22 := hF.gv hR.2.1 HQ 0 rfl (hpre ⟨0, .data⟩ (by simp) rfl) rfl; have hgoal := hR.go hSt hEs HQ 1 rfl (XF.out 1 (by decide)) (by decide) (by decide); have q0 := cell_keep hR.1 b0; have q1 := cell_keep hR.1 b1; have q2 := cell_keep hR.1 b2; clear hF hpre hl hR; go_simp; exact ⟨_, rfl, hgoal _ _ (Below.refl _ _) rfl⟩
        | 2, ho =>
          simp at ho; subst ho; refine step_plain rfl ?_; have e5 := hF.was 5 (by kernel_rfl) rfl; have hgoal := hR.go hSt hEs HQ 2 rfl (XF.out 2 (by decide)) (by decide) (by decide); clear hF hpre hl hR; go_simp; exact ⟨_, rfl, hgoal _ _ (Below.refl _ _) rfl⟩
        | 3, ho =>
          simp at ho; subst ho; refine step_plain rfl ?_; have e24 := hF.gv hR.2.1 HQ 2 rfl (hpre ⟨2, .data⟩ (by simp) rfl) rfl; have hgoal := hR.go hSt hEs HQ 3 rfl (XF.out 3 (by decide)) (by decide) (by decide); clear hF hpre hl hR; go_simp; exact ⟨_, rfl, hgoal _ _ (Below.refl _ _) rfl⟩
        | 4, ho =>
          simp at ho; subst ho; refine step_plain rfl ?_; have e25 := hF.gv hR.2.1 HQ 3 rfl (hpre ⟨3, .data⟩ (by simp) rfl) rfl; have hgoal := hR.go hSt hEs HQ 4 rfl (XF.out 4 (by decide)) (by decide) (by decide); have q0 := cell_keep hR.1 r0; clear hF hpre hl hR; go_simp; exact ⟨_, rfl, hgoal _ _ (Below.refl _ _) rfl⟩
        | 5, ho =>
          simp at ho; subst ho; refine step_plain rfl ?_; have e5 := hF.was 5 (by kernel_rfl) rfl; have hgoal := hR.go hSt hEs HQ 5 rfl (XF.out 5 (by decide)) (by decide) (by decide); clear hF hpre hl hR; go_simp; exact ⟨_, rfl, hgoal _ _ (Below.refl _ _) rfl⟩
        | 6, ho =>
          simp at ho; subst ho; refine step_plain rfl ?_; have e27 := hF.gv hR.2.1 HQ 5 rfl (hpre ⟨5, .data⟩ (by simp) rfl) rfl; have hgoal := hR.go hSt hEs HQ 6 rfl (XF.out 6 (by decide)) (by decide) (by decide); clear hF hpre hl hR; go_simp; exact ⟨_, rfl, hgoal _ _ (Below.refl _ _) rfl⟩
        | 7, ho =>
          simp at ho; subst ho; refine step_plain rfl ?_; have e28 := hF.gv hR.2.1 HQ 6 rfl (hpre ⟨6, .data⟩ (by simp) rfl) rfl; have hgoal := hR.go hSt hEs HQ 7 rfl (XF.out 7 (by decide)) (by decide) (by decide); have q0 := cell_keep hR.1 r1; clear hF hpre hl hR; go_simp; exact ⟨_, rfl, hgoal _ _ (Below.refl _ _) rfl⟩
        | 8, ho =>
          simp at ho; subst ho; refine step_plain rfl ?_; have e26 := hF.gv hR.2.1 HQ 4 rfl (hpre ⟨4, .data⟩ (by simp) rfl) rfl; have e29 := hF.gv hR.2.1 HQ 7 rfl (hpre ⟨7, .data⟩ (by simp) rfl) rfl; have hgoal := hR.go hSt hEs HQ 8 rfl (XF.out 8 (by decide)) (by decide) (by decide); clear hF hpre hl hR; go_simp; exact ⟨_, rfl, hgoal _ _ (Below.refl _ _) rfl⟩
        | 9, ho =>
          simp at ho; subst ho; refine step_plain rfl ?_; have e23 := hF.gv hR.2.1 HQ 1 rfl (hpre ⟨1, .data⟩ (by simp) rfl) rfl; have e30 := hF.gv hR.2.1 HQ 8 rfl (hpre ⟨8, .data⟩ (by simp) rfl) rfl; have hgoal := hR.go hSt hEs HQ 9 rfl (XF.out 9 (by decide)) (by decide) (by decide)
          have hM := Lib.hid hR.1
          clear hF hpre hl hR; go_simp
          refine ⟨trivial, ?_⟩
          refine CallsIn.mono (callsIn_wide.2 (HH.out _ _ _)) ?_
          rintro e w9 ⟨rfl, hb9⟩
          exact ⟨_, rfl, hgoal _ _ hb9 rfl⟩
        | 10, ho =>
          simp at ho; subst ho; refine step_plain rfl ?_; have hN := hF.later hl 11 rfl (e := ⟨10, .data⟩) (by simp) rfl rfl; have hgoal := hR.made hSt hEs hN (by decide) (QG.none HQ 10 rfl (fun _ _ => trivial) _ _) (XF.out 10 (by decide) _ _); clear hF hpre hl hR hN; go_simp; exact ⟨_, rfl, hgoal⟩
        | 11, ho =>
          simp at ho; subst ho; refine step_plain rfl ?_; have e6 := hF.gave 10 rfl (hpre ⟨10, .data⟩ (by simp) rfl) rfl; have e31 := hF.gv hR.2.1 HQ 9 rfl (hpre ⟨9, .data⟩ (by simp) rfl) rfl
          have hls : 11 < L.size := by rw [hF.lsize]; decide
          have hN0 : L.getD 11 false = false := by rw [← getD_same hls]; exact hl
          obtain ⟨q, qe, qM, qb⟩ := hR.2.2.2 (hpre ⟨10, .data⟩ (by simp) rfl)
          rw [hN0] at qb
          simp only [Bool.false_eq_true, if_false] at qb
          rw [qe] at e6
          have g0 := cellOf (o := 0) qb rfl; have f0 := freeOf (o := 0) qb; have g1 := cellOf (o := 1) qb rfl; have f1 := freeOf (o := 1) qb; have g2 := cellOf (o := 2) qb rfl; have f2 := freeOf (o := 2) qb; have g3 := cellOf (o := 3) qb rfl; have f3 := freeOf (o := 3) qb; have g4 := cellOf (o := 4) qb rfl; have f4 := freeOf (o := 4) qb; have g5 := cellOf (o := 5) qb rfl; have f5 := freeOf (o := 5) qb; have hgoal := RB.filled (v := undef) hR hSt hls (QG.none HQ 11 rfl (fun _ _ => trivial) _ _) qe qM ((((((hR.1.setCell (p := ⟨q, 0, none⟩) qM (.int .i64 N)).setCell (p := ⟨q, 1, none⟩) qM (.int .i64 D)).setCell (p := ⟨q, 2, none⟩) qM (.int .i64 d)).setCell (p := ⟨q, 3, none⟩) qM (.int .i64 x0)).setCell (p := ⟨q, 4, none⟩) qM (.int .i64 x1)).setCell (p := ⟨q, 5, none⟩) qM (.int .i64 1)) ((block_setCell (o := 5) (.int .i64 1) (block_setCell (o := 4) (.int .i64 x1) (block_setCell (o := 3) (.int .i64 x0) (block_setCell (o := 2) (.int .i64 d) (block_setCell (o := 1) (.int .i64 D) (block_setCell (o := 0) (.int .i64 N) qb)))))).trans (by rfl)) (by decide)
          have hq := lt_of_block qb
          have HG := Lib.hid hgoal
          clear hF hpre hl hR hls hN0 qe qb hgoal; go_simp
          exact ⟨undef, HG.out⟩
        | i + 12, ho => simp at ho
      case hend =>
        intro val L b' x hF hall hR
        have e := hF.all (by kernel_rfl) hall
        obtain ⟨g, kp, hM, bk⟩ := hR.2.2.2 (hall 10 (by decide))
        rw [hall 11 (by decide)] at bk
        simp only [if_true] at bk
        have hB := Lib.hid hR.1
        clear hF hall hR hSt hEs XF HQ 
        subst e
        simp [final, dstOf, List.range, List.range.loop]
        rw [kp]
        clear kp
        have HWL := Lib.hid (show WL x g N D d (x0, x1, 1) from bk)
        have HNE := Lib.hid (show some g ≠ ul.ownBlock from fun e => by have := (HOL3.out.lt g e.symm).2; omega)
        have HRX6 := Lib.hid (HRX.out.stay hB.out)
        have HOL6 := Lib.hid (HOL3.out.stay hB.out)
        have HB6 := Lib.hid (HBW.out.trans ((HB3.out.trans (hB.out.mono HB3.out.size)).mono HBW.out.size))
        have HB3L := Lib.hid (fun q (hq : ul.ownBlock = some q) => (HOL3.out.lt q hq).2)
        have HB63 := Lib.hid (show w1.heap.size ≤ w3.heap.size by have := HBW.out.size; have := HB3.out.size; omega)
        have HGE := Lib.hid (show w1.heap.size ≤ g by have := HBW.out.size; have := HB3.out.size; omega)
        have HGR := Lib.hid (show gr < w3.heap.size from l3)
        clear b0 b1 b2 b3 l1 r0 r1 l3 bk hn1 hn0 hn1' hn0'
        have hn2i : (2 : Int) ≤ (n : Int) := by omega
        go_upto_region 8 with (fail)
        · have H29 := Lib.hid h
          clear h
          obtain ⟨G, hG⟩ : ∃ G, (oneL n i).drop 2 = G := ⟨_, rfl⟩
          have hGk : G.length = k := by rw [← hG]; simp [oneL_len]; have := HNK.out; omega
          have hGB : wB (-100) 100 G = true := by rw [← hG]; exact oneL_wB n i
          have hst : staB x0 x1 = true := by rw [← HX.out.1, ← HX.out.2]; have := oneL_sta k i; rw [← HNK.out] at this; exact this
          have hswb := swB_all HSL.out hst hGB (by omega)
          have heff : (swK N D d x0 x1 G k).1 = gz (efL N D d k) i := by
            have := eff_one N D d (k := k) (i := i) (by have := HNK.out; omega)
            rw [← HNK.out, HX.out.1, HX.out.2, hG] at this
            exact this
          have hden : (swK N D d x0 x1 G k).2.2 = powI d k := swK_den (by omega)
          have HG := Lib.hid hG
          have HGK := Lib.hid hGk
          have HGB := Lib.hid hGB
          have HSB := Lib.hid hswb
          have HEFF := Lib.hid heff
          have HDEN := Lib.hid hden
          clear hG hGk hGB hst hswb heff hden
          go_loopw [35] (fun ut wr2 => ∃ t : Nat, t ≤ k ∧ ut = .int .i64 t ∧ WL wr2 g N D d (swK N D d x0 x1 G t) ∧ Below w3.heap.size x wr2) (fun ut _ => k - (intOf ut).toNat)
          case atStart => exact ⟨0, Nat.zero_le _, rfl, HWL.out, Below.refl _ _⟩
          case round =>
            obtain ⟨t, ht, rfl, hwl, hb2⟩ := hrel
            have HWL2 := Lib.hid hwl
            have HBI := Lib.hid hb2
            clear hwl hb2
            have hden := swK_den (N := N) (D := D) (d := d) (a := x0) (v := x1) (G := G) (k := t) (by have := HGK.out; omega)
            by_cases hlt2 : t < k
            · exact absurd hlt2 (by have := HNK.out; have := H29.out; omega)
            · obtain rfl : k = t := by omega
              have hpa := HEFF.out
              have hpe := HDEN.out
              obtain ⟨⟨pa, pv, pe⟩, hp⟩ : ∃ p, swK N D d x0 x1 G k = p := ⟨_, rfl⟩
              rw [hp] at hpa hpe HWL2
              simp only at hpa hpe
              have HPA := Lib.hid hpa
              have HPE := Lib.hid hpe
              have HOL8 := Lib.hid (HOL6.out.low HBI.out HB3L.out)
              have HB8 := Lib.hid (HB6.out.trans (HBI.out.mono HB63.out))
              have c3 := cellOf (o := 3) HWL2.out rfl
              have c5 := cellOf (o := 5) HWL2.out rfl
              have lc := HWL2.out.lt
              have hlen : ((efL N D d k).take i).length ≤ 1000000 := by simp [efL_len]; omega
              have hbs := HB8.out.size
              have hnl : ¬ ((k : Int) < 0) := by have := HNK.out; omega
              clear hp hpa hpe hden hlt2
              obtain ⟨wr2, hwr2⟩ : ∃ z, wr = z := ⟨_, rfl⟩
              rw [hwr2] at HWL2 HBI HOL8 HB8 c3 c5 lc hbs ⊢
              clear hwr2
              go_upto_region 12 with (fail)
              obtain ⟨QA, hQA⟩ : ∃ q9 : Nat → Value → World → Prop, q9 = QG [some (ul), some (.pointer (some ⟨g, 3, none⟩)), some (.int .i64 pa), none, none, some (.pointer (some ⟨g, 5, none⟩)), some (.int .i64 pe), none, some (.int .i64 pe)] (fun _ _ _ => True) := ⟨_, rfl⟩
              obtain ⟨EA, hEA⟩ : ∃ q9 : Nat → Value → World → Prop, q9 = (fun j0' v0' w0' => (j0' = 3 → OneI pa v0' w0')) := ⟨_, rfl⟩
              have hSt : Still QA := by rw [hQA]; exact QG.still
              have hEs : Stays EA := by rw [hEA]; exact fun j v W W' h hb => fun e => (h e).stay hb
              have XA3 := Lib.hid (show ∀ v0' w0', EA 3 v0' w0' ↔ OneI pa v0' w0' from fun v0' w0' => by rw [hEA]; exact ⟨fun h => h rfl, fun h => fun _ => h⟩)
              have XAF := Lib.hid (show ∀ j, decide (j ∈ ([3] : List Nat)) = false → ∀ v0' w0', EA j v0' w0' from fun j hj v0' w0' => by rw [hEA]; exact fun e => absurd (e ▸ hj) (by decide))
              obtain ⟨PA9, hPA9⟩ : ∃ p9 : Value → World → Prop, p9 = (fun v9 w9 => OI (w1.heap.size) v9 ((efL N D d k).take i ++ [pa]) w9) := ⟨_, rfl⟩
              have HPA9 := Lib.hid hPA9
              have HQA := Lib.hid hQA
              clear hQA hEA hPA9
              refine wpIn_wide.1 (region_inv2 (n := 9) (by kernel_rfl) (RA QA EA wr2 4 7 (ul) PA9) (by kernel_rfl) rfl (RA.start _ _ _ _ _ _ _ _) ?hstepA ?hendA)
              case hstepA =>
                intro i' o ho val L b' y hF hR hpre hl
                match i', ho with
                | 0, ho =>
                  simp at ho; subst ho; refine step_plain rfl ?_; have hN := hF.later hl 4 rfl (e := ⟨0, .data⟩) (by simp) rfl rfl; have e2 := hF.wasOf 2 7 (by kernel_rfl) (hF.back hN 7 rfl (by decide) (e := ⟨4, .data⟩) (by simp) rfl rfl) rfl; have hgoal := hR.go hSt hEs hN HQA 0 rfl (XAF.out 0 (by decide)) (by decide); clear hF hpre hl hR hN; go_simp; exact ⟨_, rfl, hgoal _ _ (Below.refl _ _) rfl⟩
                | 1, ho =>
                  simp at ho; subst ho; refine step_plain rfl ?_; have hN := hF.later hl 2 rfl (e := ⟨1, .data⟩) (by simp) rfl rfl; have hN := hF.back hN 3 rfl (by decide) (e := ⟨2, .data⟩) (by simp) rfl rfl; have hN := hF.back hN 4 rfl (by decide) (e := ⟨3, .data⟩) (by simp) rfl rfl; have e6 := hF.was 6 (by kernel_rfl) rfl; have hgoal := hR.go hSt hEs hN HQA 1 rfl (XAF.out 1 (by decide)) (by decide); clear hF hpre hl hR hN; go_simp; exact ⟨_, rfl, hgoal _ _ (Below.refl _ _) rfl⟩
                | 2, ho =>
                  simp at ho; subst ho; refine step_plain rfl ?_; have hN := hF.later hl 3 rfl (e := ⟨2, .data⟩) (by simp) rfl rfl; have hN := hF.back hN 4 rfl (by decide) (e := ⟨3, .data⟩) (by simp) rfl rfl; have e43 := hF.gvs hR.1 HQA 1 (by decide) (by decide) rfl (hpre ⟨1, .data⟩ (by simp) rfl) rfl; have hgoal := hR.go hSt hEs hN HQA 2 rfl (XAF.out 2 (by decide)) (by decide); have q0 := hR.cell c3 HNE.out; clear hF hpre hl hR hN; go_simp; exact ⟨_, rfl, hgoal _ _ (Below.refl _ _) rfl⟩
                | 3, ho =>
                  simp at ho; subst ho; refine step_plain rfl ?_; have hN := hF.later hl 4 rfl (e := ⟨3, .data⟩) (by simp) rfl rfl; have e44 := hF.gvs hR.1 HQA 2 (by decide) (by decide) rfl (hpre ⟨2, .data⟩ (by simp) rfl) rfl
                  have hgoal : ∀ v0' w0', Below y.heap.size y w0' → OneI pa v0' w0' → RA QA EA wr2 4 7 (ul) PA9 (upd val 3 v0') (L.setIfInBounds 3 true) w0' := fun v0' w0' hb hq => hR.step hSt hEs hN hb (QG.none HQA 3 rfl (fun _ _ => trivial) _ _) ((XA3.out _ _).2 hq) (by decide)
                  clear hF hpre hl hR hN; go_simp; exact ⟨_, rfl, hgoal _ _ ((Below.refl _ _).alloc (Nat.le_refl _) _) OneI.new⟩
                | 4, ho =>
                  simp at ho; subst ho; refine step_plain rfl ?_
                  have hls : 4 < L.size := by rw [hF.lsize]; decide
                  have hN : L.getD 4 false = false := by rw [← getD_same hls]; exact hl
                  have hT := hF.later hl 7 rfl (e := ⟨4, .data⟩) (by simp) rfl rfl
                  have e42 := hF.gvs hR.1 HQA 0 (by decide) (by decide) rfl (hpre ⟨0, .data⟩ (by simp) rfl) rfl; have e45 := hF.gave 3 rfl (hpre ⟨3, .data⟩ (by simp) rfl) rfl
                  have v3 := (XA3.out _ _).1 ((hR.2.1 hN).2 3 (hpre ⟨3, .data⟩ (by simp) rfl))
                  have hb9 := (hR.2.1 hN).1
                  refine step_pushI (.tmp 42) (.tmp 45) rfl (w1.heap.size) (ul) ((efL N D d k).take i) (by simpa [Act.eval] using e42) (HOL8.out.stay hb9) _ (pa) (by simpa [Act.eval] using e45) v3 hlen (Nat.le_trans hbs hb9.size) ?_
                  intro v' w9 h9 g9'
                  exact ⟨_, rfl, hR.push hSt hls hN hT (by decide) (by rw [HPA9.out]; exact h9) g9'⟩
                | 5, ho =>
                  simp at ho; subst ho; refine step_plain rfl ?_; have e6 := hF.was 6 (by kernel_rfl) rfl; have hgoal := hR.goR hSt hEs HQA 5 rfl (XAF.out 5 (by decide)) (by decide) (by decide); clear hF hpre hl hR; go_simp; exact ⟨_, rfl, hgoal _ rfl⟩
                | 6, ho =>
                  simp at ho; subst ho; refine step_plain rfl ?_; have e47 := hF.gvs hR.1 HQA 5 (by decide) (by decide) rfl (hpre ⟨5, .data⟩ (by simp) rfl) rfl; have hgoal := hR.goR hSt hEs HQA 6 rfl (XAF.out 6 (by decide)) (by decide) (by decide); have q0 := hR.cell c5 HNE.out; clear hF hpre hl hR; go_simp; exact ⟨_, rfl, hgoal _ rfl⟩
                | 7, ho =>
                  simp at ho; subst ho; refine step_plain rfl ?_
                  have hs := hpre ⟨4, .data⟩ (by simp) rfl
                  have hgoal := hR.assign hs (by decide); have e46 := hF.gave 4 rfl hs rfl; clear hF hpre hl hR hs; go_simp; exact ⟨_, rfl, hgoal⟩
                | 8, ho =>
                  simp at ho; subst ho; refine step_plain rfl ?_; have e48 := hF.gvs hR.1 HQA 6 (by decide) (by decide) rfl (hpre ⟨6, .data⟩ (by simp) rfl) rfl; have hgoal := hR.goR hSt hEs HQA 8 rfl (XAF.out 8 (by decide)) (by decide) (by decide); clear hF hpre hl hR; go_simp; exact ⟨_, rfl, hgoal _ rfl⟩
                | i + 9, ho => simp at ho
              case hendA =>
                intro val L b' y hF hall hR
                have e := hF.all (by kernel_rfl) hall
                obtain ⟨ownA, asgA, grwA⟩ := hR.2.2 (hall 4 (by decide))
                have asgA := asgA (hall 7 (by decide))
                rw [HPA9.out] at ownA; (try dsimp only at ownA)
                have OWNA := Lib.hid ownA
                have GRWA := Lib.hid grwA
                have kA8 := QG.val HQA rfl (hR.1 8 (hall 8 (by decide)) (by decide) (by decide))
                clear hF hall hR hSt hEs ownA grwA HQA XAF HPA9 XA3
                subst e
                simp [final, dstOf, List.range, List.range.loop]
                rw [asgA, kA8]
                clear asgA kA8
                obtain ⟨uA9, huA9⟩ : ∃ u9, val 4 = u9 := ⟨_, rfl⟩
                rw [huA9] at OWNA ⊢
                clear huA9
                obtain ⟨y9, hy9, gy9⟩ := GRWA.out
                have HB9 := Lib.hid (OI.below (HOL8.out.stay hy9) gy9 (HB8.out.trans (hy9.mono HB8.out.size)) (Nat.le_trans HB8.out.size hy9.size) (Nat.le_refl _))
                clear hy9 gy9 c3 c5 lc
                go_wp2
                go_roundw
                case rel =>
                  refine ⟨_, _, _, _, _, _, _, ⟨i + 1, by have := HNK.out; have := H29.out; omega, by go_num, ?_, ?_, HB9.out⟩, H29.out.symm, rfl, rfl, rfl, rfl, rfl, rfl, H29.out.symm, by have := H29.out; omega, rfl⟩
                  · rw [if_neg (Nat.succ_ne_zero i), HPE.out]
                  · have h9 := OWNA.out
                    rw [HPA.out, take_more (by rw [efL_len]; have := HNK.out; omega)] at h9
                    exact h9
                case measure => simp [intOf] <;> omega
        · obtain ⟨G, hG⟩ : ∃ G, (oneL n i).drop 2 = G := ⟨_, rfl⟩
          have hGk : G.length = k := by rw [← hG]; simp [oneL_len]; have := HNK.out; omega
          have hGB : wB (-100) 100 G = true := by rw [← hG]; exact oneL_wB n i
          have hst : staB x0 x1 = true := by rw [← HX.out.1, ← HX.out.2]; have := oneL_sta k i; rw [← HNK.out] at this; exact this
          have hswb := swB_all HSL.out hst hGB (by omega)
          have heff : (swK N D d x0 x1 G k).1 = gz (efL N D d k) i := by
            have := eff_one N D d (k := k) (i := i) (by have := HNK.out; omega)
            rw [← HNK.out, HX.out.1, HX.out.2, hG] at this
            exact this
          have hden : (swK N D d x0 x1 G k).2.2 = powI d k := swK_den (by omega)
          have HG := Lib.hid hG
          have HGK := Lib.hid hGk
          have HGB := Lib.hid hGB
          have HSB := Lib.hid hswb
          have HEFF := Lib.hid heff
          have HDEN := Lib.hid hden
          clear hG hGk hGB hst hswb heff hden
          go_loopw [35] (fun ut wr2 => ∃ t : Nat, t ≤ k ∧ ut = .int .i64 t ∧ WL wr2 g N D d (swK N D d x0 x1 G t) ∧ Below w3.heap.size x wr2) (fun ut _ => k - (intOf ut).toNat)
          case atStart => exact ⟨0, Nat.zero_le _, rfl, HWL.out, Below.refl _ _⟩
          case round =>
            obtain ⟨t, ht, rfl, hwl, hb2⟩ := hrel
            have HWL2 := Lib.hid hwl
            have HBI := Lib.hid hb2
            clear hwl hb2
            have hden := swK_den (N := N) (D := D) (d := d) (a := x0) (v := x1) (G := G) (k := t) (by have := HGK.out; omega)
            by_cases hlt2 : t < k
            · obtain ⟨gg, hgg⟩ : ∃ x, G[t]? = some x := ⟨_, List.getElem?_eq_getElem (by have := HGK.out; omega)⟩
              have hcg := (show RW wr gr (oneL n i) from (HBI.out.block _ HGR.out).trans HRX6.out).get (k := 2 + t) (x := gg) (by rw [← hgg, ← HG.out, List.getElem?_drop])
              have hsu := swK_succ (N := N) (D := D) (d := d) (a := x0) (v := x1) hgg
              have hbd := HSB.out t (by have := HGK.out; omega)
              have hgb := wB_mem HGB.out hgg
              have hpw := powI_bd d1 d2 t
              have hpw3 := powI_4 (show t ≤ 16 by omega)
              have hpw2 := hpw.2 (by omega)
              obtain ⟨⟨pa, pv, pe⟩, hp⟩ : ∃ p, swK N D d x0 x1 G t = p := ⟨_, rfl⟩
              rw [hp] at hsu hbd hden HWL2
              simp only at hbd hden
              have HSW := Lib.hid (swing_any g N D d pa pv pe gg wr HSL.out hbd.1 hbd.2 ⟨by rw [hden]; exact hpw.1, by rw [hden]; omega⟩ hgb HWL2.out)
              rw [← hsu] at HSW
              have htn : t < n - 2 := by have := HNK.out; omega
              have hlg : gr < wr.heap.size := World.block_lt_of_cell? _ _ hcg
              clear hgg hsu hbd hgb hpw hpw2 hpw3 hden hp
              go_wp2_with (go_at_call 53; refine Calls.mono HSW.out ?_; rintro e w7 ⟨rfl, hw7, hg7⟩; have HW7 := Lib.hid hw7; have HBI7 := Lib.hid (HBI.out.grown hg7 (Nat.le_trans hB.out.size HBI.out.size) (fun q hq => (by cases hq; exact hM))); clear hw7 hg7)
              go_roundw
              case rel => exact ⟨t + 1, by omega, by go_num, HW7.out, HBI7.out⟩
              case measure => simp [intOf] <;> omega
            · obtain rfl : k = t := by omega
              have hpa := HEFF.out
              have hpe := HDEN.out
              obtain ⟨⟨pa, pv, pe⟩, hp⟩ : ∃ p, swK N D d x0 x1 G k = p := ⟨_, rfl⟩
              rw [hp] at hpa hpe HWL2
              simp only at hpa hpe
              have HPA := Lib.hid hpa
              have HPE := Lib.hid hpe
              have HOL8 := Lib.hid (HOL6.out.low HBI.out HB3L.out)
              have HB8 := Lib.hid (HB6.out.trans (HBI.out.mono HB63.out))
              have c3 := cellOf (o := 3) HWL2.out rfl
              have c5 := cellOf (o := 5) HWL2.out rfl
              have lc := HWL2.out.lt
              have hlen : ((efL N D d k).take i).length ≤ 1000000 := by simp [efL_len]; omega
              have hbs := HB8.out.size
              have hnl : ¬ (k < n - 2) := by have := HNK.out; omega
              clear hp hpa hpe hden hlt2
              obtain ⟨wr2, hwr2⟩ : ∃ z, wr = z := ⟨_, rfl⟩
              rw [hwr2] at HWL2 HBI HOL8 HB8 c3 c5 lc hbs ⊢
              clear hwr2
              go_upto_region 12 with (fail)
              obtain ⟨QB, hQB⟩ : ∃ q9 : Nat → Value → World → Prop, q9 = QG [some (ul), some (.pointer (some ⟨g, 3, none⟩)), some (.int .i64 pa), none, none, some (.pointer (some ⟨g, 5, none⟩)), some (.int .i64 pe), none, some (.int .i64 pe)] (fun _ _ _ => True) := ⟨_, rfl⟩
              obtain ⟨EB, hEB⟩ : ∃ q9 : Nat → Value → World → Prop, q9 = (fun j0' v0' w0' => (j0' = 3 → OneI pa v0' w0')) := ⟨_, rfl⟩
              have hSt : Still QB := by rw [hQB]; exact QG.still
              have hEs : Stays EB := by rw [hEB]; exact fun j v W W' h hb => fun e => (h e).stay hb
              have XB3 := Lib.hid (show ∀ v0' w0', EB 3 v0' w0' ↔ OneI pa v0' w0' from fun v0' w0' => by rw [hEB]; exact ⟨fun h => h rfl, fun h => fun _ => h⟩)
              have XBF := Lib.hid (show ∀ j, decide (j ∈ ([3] : List Nat)) = false → ∀ v0' w0', EB j v0' w0' from fun j hj v0' w0' => by rw [hEB]; exact fun e => absurd (e ▸ hj) (by decide))
              obtain ⟨PB9, hPB9⟩ : ∃ p9 : Value → World → Prop, p9 = (fun v9 w9 => OI (w1.heap.size) v9 ((efL N D d k).take i ++ [pa]) w9) := ⟨_, rfl⟩
              have HPB9 := Lib.hid hPB9
              have HQB := Lib.hid hQB
              clear hQB hEB hPB9
              refine wpIn_wide.1 (region_inv2 (n := 9) (by kernel_rfl) (RA QB EB wr2 4 7 (ul) PB9) (by kernel_rfl) rfl (RA.start _ _ _ _ _ _ _ _) ?hstepB ?hendB)
              case hstepB =>
                intro i' o ho val L b' y hF hR hpre hl
                match i', ho with
                | 0, ho =>
                  simp at ho; subst ho; refine step_plain rfl ?_; have hN := hF.later hl 4 rfl (e := ⟨0, .data⟩) (by simp) rfl rfl; have e2 := hF.wasOf 2 7 (by kernel_rfl) (hF.back hN 7 rfl (by decide) (e := ⟨4, .data⟩) (by simp) rfl rfl) rfl; have hgoal := hR.go hSt hEs hN HQB 0 rfl (XBF.out 0 (by decide)) (by decide); clear hF hpre hl hR hN; go_simp; exact ⟨_, rfl, hgoal _ _ (Below.refl _ _) rfl⟩
                | 1, ho =>
                  simp at ho; subst ho; refine step_plain rfl ?_; have hN := hF.later hl 2 rfl (e := ⟨1, .data⟩) (by simp) rfl rfl; have hN := hF.back hN 3 rfl (by decide) (e := ⟨2, .data⟩) (by simp) rfl rfl; have hN := hF.back hN 4 rfl (by decide) (e := ⟨3, .data⟩) (by simp) rfl rfl; have e6 := hF.was 6 (by kernel_rfl) rfl; have hgoal := hR.go hSt hEs hN HQB 1 rfl (XBF.out 1 (by decide)) (by decide); clear hF hpre hl hR hN; go_simp; exact ⟨_, rfl, hgoal _ _ (Below.refl _ _) rfl⟩
                | 2, ho =>
                  simp at ho; subst ho; refine step_plain rfl ?_; have hN := hF.later hl 3 rfl (e := ⟨2, .data⟩) (by simp) rfl rfl; have hN := hF.back hN 4 rfl (by decide) (e := ⟨3, .data⟩) (by simp) rfl rfl; have e43 := hF.gvs hR.1 HQB 1 (by decide) (by decide) rfl (hpre ⟨1, .data⟩ (by simp) rfl) rfl; have hgoal := hR.go hSt hEs hN HQB 2 rfl (XBF.out 2 (by decide)) (by decide); have q0 := hR.cell c3 HNE.out; clear hF hpre hl hR hN; go_simp; exact ⟨_, rfl, hgoal _ _ (Below.refl _ _) rfl⟩
                | 3, ho =>
                  simp at ho; subst ho; refine step_plain rfl ?_; have hN := hF.later hl 4 rfl (e := ⟨3, .data⟩) (by simp) rfl rfl; have e44 := hF.gvs hR.1 HQB 2 (by decide) (by decide) rfl (hpre ⟨2, .data⟩ (by simp) rfl) rfl
                  have hgoal : ∀ v0' w0', Below y.heap.size y w0' → OneI pa v0' w0' → RA QB EB wr2 4 7 (ul) PB9 (upd val 3 v0') (L.setIfInBounds 3 true) w0' := fun v0' w0' hb hq => hR.step hSt hEs hN hb (QG.none HQB 3 rfl (fun _ _ => trivial) _ _) ((XB3.out _ _).2 hq) (by decide)
                  clear hF hpre hl hR hN; go_simp; exact ⟨_, rfl, hgoal _ _ ((Below.refl _ _).alloc (Nat.le_refl _) _) OneI.new⟩
                | 4, ho =>
                  simp at ho; subst ho; refine step_plain rfl ?_
                  have hls : 4 < L.size := by rw [hF.lsize]; decide
                  have hN : L.getD 4 false = false := by rw [← getD_same hls]; exact hl
                  have hT := hF.later hl 7 rfl (e := ⟨4, .data⟩) (by simp) rfl rfl
                  have e42 := hF.gvs hR.1 HQB 0 (by decide) (by decide) rfl (hpre ⟨0, .data⟩ (by simp) rfl) rfl; have e45 := hF.gave 3 rfl (hpre ⟨3, .data⟩ (by simp) rfl) rfl
                  have v3 := (XB3.out _ _).1 ((hR.2.1 hN).2 3 (hpre ⟨3, .data⟩ (by simp) rfl))
                  have hb9 := (hR.2.1 hN).1
                  refine step_pushI (.tmp 42) (.tmp 45) rfl (w1.heap.size) (ul) ((efL N D d k).take i) (by simpa [Act.eval] using e42) (HOL8.out.stay hb9) _ (pa) (by simpa [Act.eval] using e45) v3 hlen (Nat.le_trans hbs hb9.size) ?_
                  intro v' w9 h9 g9'
                  exact ⟨_, rfl, hR.push hSt hls hN hT (by decide) (by rw [HPB9.out]; exact h9) g9'⟩
                | 5, ho =>
                  simp at ho; subst ho; refine step_plain rfl ?_; have e6 := hF.was 6 (by kernel_rfl) rfl; have hgoal := hR.goR hSt hEs HQB 5 rfl (XBF.out 5 (by decide)) (by decide) (by decide); clear hF hpre hl hR; go_simp; exact ⟨_, rfl, hgoal _ rfl⟩
                | 6, ho =>
                  simp at ho; subst ho; refine step_plain rfl ?_; have e47 := hF.gvs hR.1 HQB 5 (by decide) (by decide) rfl (hpre ⟨5, .data⟩ (by simp) rfl) rfl; have hgoal := hR.goR hSt hEs HQB 6 rfl (XBF.out 6 (by decide)) (by decide) (by decide); have q0 := hR.cell c5 HNE.out; clear hF hpre hl hR; go_simp; exact ⟨_, rfl, hgoal _ rfl⟩
                | 7, ho =>
                  simp at ho; subst ho; refine step_plain rfl ?_
                  have hs := hpre ⟨4, .data⟩ (by simp) rfl
                  have hgoal := hR.assign hs (by decide); have e46 := hF.gave 4 rfl hs rfl; clear hF hpre hl hR hs; go_simp; exact ⟨_, rfl, hgoal⟩
                | 8, ho =>
                  simp at ho; subst ho; refine step_plain rfl ?_; have e48 := hF.gvs hR.1 HQB 6 (by decide) (by decide) rfl (hpre ⟨6, .data⟩ (by simp) rfl) rfl; have hgoal := hR.goR hSt hEs HQB 8 rfl (XBF.out 8 (by decide)) (by decide) (by decide); clear hF hpre hl hR; go_simp; exact ⟨_, rfl, hgoal _ rfl⟩
                | i + 9, ho => simp at ho
              case hendB =>
                intro val L b' y hF hall hR
                have e := hF.all (by kernel_rfl) hall
                obtain ⟨ownB, asgB, grwB⟩ := hR.2.2 (hall 4 (by decide))
                have asgB := asgB (hall 7 (by decide))
                rw [HPB9.out] at ownB; (try dsimp only at ownB)
                have OWNB := Lib.hid ownB
                have GRWB := Lib.hid grwB
                have kB8 := QG.val HQB rfl (hR.1 8 (hall 8 (by decide)) (by decide) (by decide))
                clear hF hall hR hSt hEs ownB grwB HQB XBF HPB9 XB3
                subst e
                simp [final, dstOf, List.range, List.range.loop]
                rw [asgB, kB8]
                clear asgB kB8
                obtain ⟨uB9, huB9⟩ : ∃ u9, val 4 = u9 := ⟨_, rfl⟩
                rw [huB9] at OWNB ⊢
                clear huB9
                obtain ⟨y9, hy9, gy9⟩ := GRWB.out
                have HB9 := Lib.hid (OI.below (HOL8.out.stay hy9) gy9 (HB8.out.trans (hy9.mono HB8.out.size)) (Nat.le_trans HB8.out.size hy9.size) (Nat.le_refl _))
                clear hy9 gy9 c3 c5 lc
                go_wp2
                go_roundw
                case rel =>
                  refine ⟨i + 1, hlt, by go_num, ?_, ?_, HB9.out⟩
                  · rw [if_neg (Nat.succ_ne_zero i), HPE.out]
                  · have h9 := OWNB.out
                    rw [HPA.out, take_more (by rw [efL_len]; have := HNK.out; omega)] at h9
                    exact h9
                case measure => simp [intOf] <;> omega
    · obtain rfl : i = n := by omega
      have hd0 : dd = powI d k := HDD.out (by omega)
      have hq := hol.qi
      rw [show (efL N D d k).take i = efL N D d k from List.take_of_length_le (by rw [efL_len]; have := HNK.out; omega)] at hq
      have HQ9 := Lib.hid hq
      have HBF := Lib.hid (HB0.out.trans (hbw.mono HB0.out.size))
      have HDQ := Lib.hid hd0
      clear hol hbw hq hd0
      go_wp2
      go_ret2
      exact ⟨ul, by have e9 := HDQ.out; subst e9; rfl, HQ9.out, HBF.out⟩
end Go.Proofs.Ytnnmmojlgikdgaa

/- The reference's weights. -/
namespace Go.Proofs.Ytnnmmojlgikdgaa
open Go.RowKit

theorem oneL_drop (n t : Nat) : (oneL (n + 2) (t + 2)).drop 2 = oneL n t := by
  unfold oneL
  rw [List.replicate_succ, List.replicate_succ]
  rfl
theorem oneL_drop0 (n i : Nat) (hi : i < 2) : (oneL (n + 2) i).drop 2 = zG n := by
  unfold oneL zG
  rw [List.replicate_succ, List.replicate_succ]
  match i, hi with
  | 0, _ => rfl
  | 1, _ => rfl
theorem w_first {N D d : Int} {n : Nat} : (swK N D d 1 0 (zG n) n).1 = gz (efL N D d n) 0 := by
  have := eff_one N D d (k := n) (i := 0) (by omega)
  rw [oneL_gz _ _ _ (by omega), oneL_gz _ _ _ (by omega), oneL_drop0 _ _ (by omega)] at this
  exact this
theorem w_second {N D d : Int} {n : Nat} : (swK N D d 0 1 (zG n) n).1 = gz (efL N D d n) 1 := by
  have := eff_one N D d (k := n) (i := 1) (by omega)
  rw [oneL_gz _ _ _ (by omega), oneL_gz _ _ _ (by omega), oneL_drop0 _ _ (by omega)] at this
  exact this
theorem w_gust {N D d : Int} {n t : Nat} (ht : t < n) : (swK N D d 0 0 (oneL n t) n).1 = gz (efL N D d n) (t + 2) := by
  have := eff_one N D d (k := n) (i := t + 2) (by omega)
  rw [oneL_gz _ _ _ (by omega), oneL_gz _ _ _ (by omega), oneL_drop, if_neg (by omega), if_neg (by omega)] at this
  exact this
theorem swList_last (N D d a v : Int) (G : List Int) (n : Nat) : (swList N D d a v G n)[n]? = some (swK N D d a v G n).1 := by
  unfold swList
  rw [List.getElem?_map, List.getElem?_range (by omega)]
  rfl
/-- A pointer to a number. -/
def PtI (x : Int) (v : Value) (W : World) : Prop := ∃ b off, v = .pointer (some ⟨b, off, none⟩) ∧ W.cell? ⟨b, off, none⟩ = some (.int .i64 x)
theorem PtI.stay {x : Int} {v : Value} {W W' : World} (h : PtI x v W) (hb : Below W.heap.size W W') : PtI x v W' := by
  obtain ⟨b, off, e, h⟩ := h
  exact ⟨b, off, e, cell_keep hb h⟩
def OwnI (B : Nat) (l : List Int) (v : Value) (W : World) : Prop := OI B v l W
theorem OwnI.stay {B : Nat} {l : List Int} {v : Value} {W W' : World} (h : OwnI B l v W) (hb : Below W.heap.size W W') : OwnI B l v W' := OI.stay h hb
theorem OI.lit2 {W : World} {B : Nat} (a b : Int) (hB : B ≤ W.heap.size) : OI B (.slice (some ⟨W.heap.size, 0, none⟩) 2 2) [a, b] (W.alloc (.cells #[.int .i64 a, .int .i64 b] 3)) := by
  have := (World.ownsRow_lit (base := W.heap.size) (e := 3) (size := 1) W #[.int .i64 a, .int .i64 b] 2 (by simp) (le_maxLen (by omega)) (by simp)).mono hB
  simpa [OI] using this

set_option maxRecDepth 100000 in
set_option maxHeartbeats 2000000 in
theorem weights_any (N D d : Int) (n : Nat) (w : World) (hs : slB N D d = true) (hn : n ≤ 16) :
    Calls Try.prog 101 #[.agg #[.int .i64 N, .int .i64 D, .int .i64 d], .int .i64 n] w fun e w' => ∃ u, e = .returned u ∧ QI (efL N D d n) u w' ∧ Below w.heap.size w w' := by
  have hz : ∀ a v, staB a v = true → SwB N D d a v (zG n) := fun a v h => swB_all hs h (zG_wB n) (by rw [zG_len]; exact hn)
  have HSZ := Lib.hid (fun (a v : Int) (h : staB a v = true) (A9 : Option Addr) (c9 : Nat) (W : World) (hr : RI W W.heap.size A9 (zG n)) => swung_any N D d a v A9 n c9 W.heap.size (zG n) W hs (zG_len n) hn (zG_wB n) (hz a v h) (Nat.le_refl _) hr)
  have HSO := Lib.hid (fun (t : Nat) (ht : t < n) (A9 : Option Addr) (c9 : Nat) (W : World) (hr : RI W W.heap.size A9 (oneL n t)) => swung_any N D d 0 0 A9 n c9 W.heap.size (oneL n t) W hs (oneL_len n t) hn (by have := oneL_wB (n + 2) (t + 2); rwa [oneL_drop] at this) (swB_all hs (by decide) (by have := oneL_wB (n + 2) (t + 2); rwa [oneL_drop] at this) (by rw [oneL_len]; exact hn)) (Nat.le_refl _) hr)
  have HB0 := Lib.hid ((Below.refl w.heap.size w).alloc (Nat.le_refl _) (.cells #[.int .i64 N, .int .i64 D, .int .i64 d] 23))
  have HT0 := Lib.hid (blk_new w (.cells #[.int .i64 N, .int .i64 D, .int .i64 d] 23) _ rfl)
  have HEL := Lib.hid (efL_len N D d n)
  clear hs hz
  go_enter Try.func101, Try.ntmps101
  go_upto_region 1 with (fail)
  generalize World.alloc w _ = w1 at *
  go_upto_region 2 with (at_make; refine wpList_makeI rfl _ _ rfl n rfl rfl (by omega) ?_)
  have HQ2 := Lib.hid (QI.made w1 n)
  have HB2 := Lib.hid (HB0.out.alloc HB0.out.size (.cells (madeCells #[Value.int .i64 0] n) 3))
  have HT2 := Lib.hid (blk_old (.cells (madeCells #[Value.int .i64 0] n) 3) HT0.out)
  obtain ⟨gr, hgr⟩ : ∃ z, w1.heap.size = z := ⟨_, rfl⟩
  rw [hgr] at HQ2 ⊢
  clear hgr
  generalize World.alloc w1 _ = w2 at *
  have b0 := cellOf (o := 0) HT2.out rfl
  have b1 := cellOf (o := 1) HT2.out rfl
  have b2 := cellOf (o := 2) HT2.out rfl
  have l1 := lt_of_block HT2.out
  have HRZ := Lib.hid (show RI w2 w2.heap.size (some ⟨gr, 0, none⟩) (zG n) by
    obtain ⟨A, c, e, _, hr⟩ := HQ2.out
    rw [zG_len] at e
    injection e with e1 e2 e3
    rw [e1]; exact hr)
  have hnl : n < n + 1 := by omega
  have h0n : (0 : Int) ≤ (n : Int) := by omega
  have hnli : (n : Int) < (n : Int) + 1 := by omega
  obtain ⟨Q, hQ⟩ : ∃ q9 : Nat → Value → World → Prop, q9 = QG [some (.agg #[.int .i64 N, .int .i64 D, .int .i64 d]), some (.slice (some ⟨gr, 0, none⟩) n n), none, some (.int .i64 ((n : Int))), none, some (.int .i64 ((swK N D d 1 0 (zG n) n).1)), some (.agg #[.int .i64 N, .int .i64 D, .int .i64 d]), some (.slice (some ⟨gr, 0, none⟩) n n), none, some (.int .i64 ((n : Int))), none, some (.int .i64 ((swK N D d 0 1 (zG n) n).1)), none, none] (fun j0' v0' w0' => (j0' = 2 → QI (swList N D d 1 0 (zG n) n) v0' w0') ∧ (j0' = 8 → QI (swList N D d 0 1 (zG n) n) v0' w0') ∧ (j0' = 4 → PtI (swK N D d 1 0 (zG n) n).1 v0' w0') ∧ (j0' = 10 → PtI (swK N D d 0 1 (zG n) n).1 v0' w0') ∧ (j0' = 12 → OwnI w2.heap.size [(swK N D d 1 0 (zG n) n).1, (swK N D d 0 1 (zG n) n).1] v0' w0') ∧ (j0' = 13 → OwnI w2.heap.size [(swK N D d 1 0 (zG n) n).1, (swK N D d 0 1 (zG n) n).1] v0' w0')) := ⟨_, rfl⟩
  have hst : Stays Q := by rw [hQ]; exact QG.stays (fun j v W W' h hb => ⟨fun e => (h.1 e).stay hb, fun e => (h.2.1 e).stay hb, fun e => (h.2.2.1 e).stay hb, fun e => (h.2.2.2.1 e).stay hb, fun e => (h.2.2.2.2.1 e).stay hb, fun e => (h.2.2.2.2.2 e).stay hb⟩)
  have U2 := Lib.hid (show ∀ v0' w0', Q 2 v0' w0' ↔ QI (swList N D d 1 0 (zG n) n) v0' w0' from fun v0' w0' => by rw [hQ]; exact ⟨fun h => h.1 rfl, fun h => ⟨fun _ => h, fun e => absurd e (by decide), fun e => absurd e (by decide), fun e => absurd e (by decide), fun e => absurd e (by decide), fun e => absurd e (by decide)⟩⟩)
  have U4 := Lib.hid (show ∀ v0' w0', Q 4 v0' w0' ↔ PtI (swK N D d 1 0 (zG n) n).1 v0' w0' from fun v0' w0' => by rw [hQ]; exact ⟨fun h => h.2.2.1 rfl, fun h => ⟨fun e => absurd e (by decide), fun e => absurd e (by decide), fun _ => h, fun e => absurd e (by decide), fun e => absurd e (by decide), fun e => absurd e (by decide)⟩⟩)
  have U8 := Lib.hid (show ∀ v0' w0', Q 8 v0' w0' ↔ QI (swList N D d 0 1 (zG n) n) v0' w0' from fun v0' w0' => by rw [hQ]; exact ⟨fun h => h.2.1 rfl, fun h => ⟨fun e => absurd e (by decide), fun _ => h, fun e => absurd e (by decide), fun e => absurd e (by decide), fun e => absurd e (by decide), fun e => absurd e (by decide)⟩⟩)
  have U10 := Lib.hid (show ∀ v0' w0', Q 10 v0' w0' ↔ PtI (swK N D d 0 1 (zG n) n).1 v0' w0' from fun v0' w0' => by rw [hQ]; exact ⟨fun h => h.2.2.2.1 rfl, fun h => ⟨fun e => absurd e (by decide), fun e => absurd e (by decide), fun e => absurd e (by decide), fun _ => h, fun e => absurd e (by decide), fun e => absurd e (by decide)⟩⟩)
  have U12 := Lib.hid (show ∀ v0' w0', Q 12 v0' w0' ↔ OwnI w2.heap.size [(swK N D d 1 0 (zG n) n).1, (swK N D d 0 1 (zG n) n).1] v0' w0' from fun v0' w0' => by rw [hQ]; exact ⟨fun h => h.2.2.2.2.1 rfl, fun h => ⟨fun e => absurd e (by decide), fun e => absurd e (by decide), fun e => absurd e (by decide), fun e => absurd e (by decide), fun _ => h, fun e => absurd e (by decide)⟩⟩)
  have U13 := Lib.hid (show ∀ v0' w0', Q 13 v0' w0' ↔ OwnI w2.heap.size [(swK N D d 1 0 (zG n) n).1, (swK N D d 0 1 (zG n) n).1] v0' w0' from fun v0' w0' => by rw [hQ]; exact ⟨fun h => h.2.2.2.2.2 rfl, fun h => ⟨fun e => absurd e (by decide), fun e => absurd e (by decide), fun e => absurd e (by decide), fun e => absurd e (by decide), fun e => absurd e (by decide), fun _ => h⟩⟩)
  have HQ := Lib.hid hQ
  clear hQ
  refine wpIn_wide.1 (region_inv2 (n := 9) (by kernel_rfl) (RQ Q w2) (by kernel_rfl) rfl (RQ.start _ _ _) ?hstep ?hend)
  case hstep =>
    intro i' o ho val L b' x hF hR hpre hl
    match i', ho with
    | 0, ho =>
      simp at ho; subst ho; refine step_plain rfl ?_; have e2 := hF.was 2 (by kernel_rfl) rfl; have hgoal := hR.go hst HQ 0 rfl; have q0 := cell_keep hR.1 b0; have q1 := cell_keep hR.1 b1; have q2 := cell_keep hR.1 b2; clear hF hpre hl hR; go_simp; exact ⟨_, rfl, hgoal _ _ (Below.refl _ _) rfl⟩
    | 1, ho =>
      simp at ho; subst ho; refine step_plain rfl ?_; have e5 := hF.was 5 (by kernel_rfl) rfl; have hgoal := hR.go hst HQ 1 rfl; clear hF hpre hl hR; go_simp; exact ⟨_, rfl, hgoal _ _ (Below.refl _ _) rfl⟩
    | 2, ho =>
      simp at ho; subst ho; refine step_plain rfl ?_; have e11 := hF.gv hR.2 HQ 0 rfl (hpre ⟨0, .data⟩ (by simp) rfl) rfl; have e12 := hF.gv hR.2 HQ 1 rfl (hpre ⟨1, .data⟩ (by simp) rfl) rfl
      have hgoal : ∀ v0' w0', Below x.heap.size x w0' → QI (swList N D d 1 0 (zG n) n) v0' w0' → RQ Q w2 (upd val 2 v0') (L.setIfInBounds 2 true) w0' := fun v0' w0' hb hq => hR.step hst hb ((U2.out _ _).2 hq)
      have hM := Lib.hid hR.1
      clear hF hpre hl hR; go_simp
      refine ⟨trivial, ?_⟩
      refine CallsIn.mono (callsIn_wide.2 (HSZ.out 1 0 (by decide) _ _ _ ((HRZ.out.below hM.out).more hM.out.size))) ?_
      rintro e w9 ⟨u, rfl, hq9, hb9⟩
      exact ⟨_, rfl, hgoal _ _ hb9 hq9⟩
    | 3, ho =>
      simp at ho; subst ho; refine step_plain rfl ?_; have e1 := hF.was 1 (by kernel_rfl) rfl; have hgoal := hR.go hst HQ 3 rfl; clear hF hpre hl hR; go_simp; exact ⟨_, rfl, hgoal _ _ (Below.refl _ _) rfl⟩
    | 4, ho =>
      simp at ho; subst ho; refine step_plain rfl ?_; have e13 := hF.gave 2 rfl (hpre ⟨2, .data⟩ (by simp) rfl) rfl
      have v2 := (U2.out _ _).1 (hR.2 2 (hpre ⟨2, .data⟩ (by simp) rfl))
      have e14 := hF.gv hR.2 HQ 3 rfl (hpre ⟨3, .data⟩ (by simp) rfl) rfl
      have hgoal : ∀ v0' w0', Below x.heap.size x w0' → PtI (swK N D d 1 0 (zG n) n).1 v0' w0' → RQ Q w2 (upd val 4 v0') (L.setIfInBounds 4 true) w0' := fun v0' w0' hb hq => hR.step hst hb ((U4.out _ _).2 hq)
      have hM := Lib.hid hR.1
      clear hF hpre hl hR
      obtain ⟨A, c, e, _, hr⟩ := v2
      rw [e, swList_len] at e13
      obtain ⟨bb, off, x, rfl, _, hx, hcx⟩ := hr.at_ (k := n) (by rw [swList_len]; omega)
      rw [swList_last] at hx
      injection hx with hx
      rw [← hx] at hcx
      clear hr e
      go_simp; exact ⟨_, rfl, hgoal _ _ (Below.refl _ _) ⟨bb, off + n, rfl, hcx⟩⟩
    | 5, ho =>
      simp at ho; subst ho; refine step_plain rfl ?_; have e15 := hF.gave 4 rfl (hpre ⟨4, .data⟩ (by simp) rfl) rfl
      have v4 := (U4.out _ _).1 (hR.2 4 (hpre ⟨4, .data⟩ (by simp) rfl))
      have hgoal := hR.go hst HQ 5 rfl
      have hM := Lib.hid hR.1
      clear hF hpre hl hR
      obtain ⟨bb, off, e, hcx⟩ := v4
      rw [e] at e15
      go_simp; exact ⟨_, rfl, hgoal _ _ (Below.refl _ _) rfl⟩
    | 6, ho =>
      simp at ho; subst ho; refine step_plain rfl ?_; have e2 := hF.was 2 (by kernel_rfl) rfl; have hgoal := hR.go hst HQ 6 rfl; have q0 := cell_keep hR.1 b0; have q1 := cell_keep hR.1 b1; have q2 := cell_keep hR.1 b2; clear hF hpre hl hR; go_simp; exact ⟨_, rfl, hgoal _ _ (Below.refl _ _) rfl⟩
    | 7, ho =>
      simp at ho; subst ho; refine step_plain rfl ?_; have e5 := hF.was 5 (by kernel_rfl) rfl; have hgoal := hR.go hst HQ 7 rfl; clear hF hpre hl hR; go_simp; exact ⟨_, rfl, hgoal _ _ (Below.refl _ _) rfl⟩
    | 8, ho =>
      simp at ho; subst ho; refine step_plain rfl ?_; have e17 := hF.gv hR.2 HQ 6 rfl (hpre ⟨6, .data⟩ (by simp) rfl) rfl; have e18 := hF.gv hR.2 HQ 7 rfl (hpre ⟨7, .data⟩ (by simp) rfl) rfl
      have hgoal : ∀ v0' w0', Below x.heap.size x w0' → QI (swList N D d 0 1 (zG n) n) v0' w0' → RQ Q w2 (upd val 8 v0') (L.setIfInBounds 8 true) w0' := fun v0' w0' hb hq => hR.step hst hb ((U8.out _ _).2 hq)
      have hM := Lib.hid hR.1
      clear hF hpre hl hR; go_simp
      refine ⟨trivial, ?_⟩
      refine CallsIn.mono (callsIn_wide.2 (HSZ.out 0 1 (by decide) _ _ _ ((HRZ.out.below hM.out).more hM.out.size))) ?_
      rintro e w9 ⟨u, rfl, hq9, hb9⟩
      exact ⟨_, rfl, hgoal _ _ hb9 hq9⟩
    | 9, ho =>
      simp at ho; subst ho; refine step_plain rfl ?_; have e1 := hF.was 1 (by kernel_rfl) rfl; have hgoal := hR.go hst HQ 9 rfl; clear hF hpre hl hR; go_simp; exact ⟨_, rfl, hgoal _ _ (Below.refl _ _) rfl⟩
    | 10, ho =>
      simp at ho; subst ho; refine step_plain rfl ?_; have e19 := hF.gave 8 rfl (hpre ⟨8, .data⟩ (by simp) rfl) rfl
      have v8 := (U8.out _ _).1 (hR.2 8 (hpre ⟨8, .data⟩ (by simp) rfl))
      have e20 := hF.gv hR.2 HQ 9 rfl (hpre ⟨9, .data⟩ (by simp) rfl) rfl
      have hgoal : ∀ v0' w0', Below x.heap.size x w0' → PtI (swK N D d 0 1 (zG n) n).1 v0' w0' → RQ Q w2 (upd val 10 v0') (L.setIfInBounds 10 true) w0' := fun v0' w0' hb hq => hR.step hst hb ((U10.out _ _).2 hq)
      have hM := Lib.hid hR.1
      clear hF hpre hl hR
      obtain ⟨A, c, e, _, hr⟩ := v8
      rw [e, swList_len] at e19
      obtain ⟨bb, off, x, rfl, _, hx, hcx⟩ := hr.at_ (k := n) (by rw [swList_len]; omega)
      rw [swList_last] at hx
      injection hx with hx
      rw [← hx] at hcx
      clear hr e
      go_simp; exact ⟨_, rfl, hgoal _ _ (Below.refl _ _) ⟨bb, off + n, rfl, hcx⟩⟩
    | 11, ho =>
      simp at ho; subst ho; refine step_plain rfl ?_; have e21 := hF.gave 10 rfl (hpre ⟨10, .data⟩ (by simp) rfl) rfl
      have v10 := (U10.out _ _).1 (hR.2 10 (hpre ⟨10, .data⟩ (by simp) rfl))
      have hgoal := hR.go hst HQ 11 rfl
      have hM := Lib.hid hR.1
      clear hF hpre hl hR
      obtain ⟨bb, off, e, hcx⟩ := v10
      rw [e] at e21
      go_simp; exact ⟨_, rfl, hgoal _ _ (Below.refl _ _) rfl⟩
    | 12, ho =>
      simp at ho; subst ho; refine step_plain rfl ?_; have e16 := hF.gv hR.2 HQ 5 rfl (hpre ⟨5, .data⟩ (by simp) rfl) rfl; have e22 := hF.gv hR.2 HQ 11 rfl (hpre ⟨11, .data⟩ (by simp) rfl) rfl
      have hgoal : ∀ v0' w0', Below x.heap.size x w0' → OwnI w2.heap.size [(swK N D d 1 0 (zG n) n).1, (swK N D d 0 1 (zG n) n).1] v0' w0' → RQ Q w2 (upd val 12 v0') (L.setIfInBounds 12 true) w0' := fun v0' w0' hb hq => hR.step hst hb ((U12.out _ _).2 hq)
      have hM := Lib.hid hR.1
      clear hF hpre hl hR; go_simp; exact ⟨_, rfl, hgoal _ _ ((Below.refl _ _).alloc (Nat.le_refl _) _) (OI.lit2 _ _ hM.out.size)⟩
    | 13, ho =>
      simp at ho; subst ho; refine step_plain rfl ?_; have e23 := hF.gave 12 rfl (hpre ⟨12, .data⟩ (by simp) rfl) rfl
      have v12 := (U12.out _ _).1 (hR.2 12 (hpre ⟨12, .data⟩ (by simp) rfl))
      have hgoal : ∀ v0' w0', Below x.heap.size x w0' → OwnI w2.heap.size [(swK N D d 1 0 (zG n) n).1, (swK N D d 0 1 (zG n) n).1] v0' w0' → RQ Q w2 (upd val 13 v0') (L.setIfInBounds 13 true) w0' := fun v0' w0' hb hq => hR.step hst hb ((U13.out _ _).2 hq)
      have hM := Lib.hid hR.1
      clear hF hpre hl hR; go_simp; exact ⟨_, rfl, hgoal _ _ (Below.refl _ _) v12⟩
    | i + 14, ho => simp at ho
  case hend =>
    intro val L b' x hF hall hR
    have e := hF.all (by kernel_rfl) hall
    have k13 := (U13.out _ _).1 (hR.2 13 (hall 13 (by decide)))
    have hB := Lib.hid hR.1
    clear hF hall hR hst HQ U2 U8 U4 U10 U12 U13
    subst e
    simp [final, dstOf, List.range, List.range.loop]
    obtain ⟨u6, hu6⟩ : ∃ u, val 13 = u := ⟨_, rfl⟩
    rw [hu6] at k13 ⊢
    have HOW := Lib.hid (show OI w2.heap.size u6 ((efL N D d n).take 2) x by
      have h9 : OI w2.heap.size u6 [(swK N D d 1 0 (zG n) n).1, (swK N D d 0 1 (zG n) n).1] x := k13
      rw [w_first, w_second] at h9
      exact h9)
    have HBX := Lib.hid hB.out
    clear hu6 k13 b0 b1 b2 l1 hnl h0n hnli
    go_upto_region 4 with (fail)
    go_loopw [6, 7] (fun ul ui wr => ∃ t : Nat, t ≤ n ∧ ui = .int .i64 t ∧ OI w2.heap.size ul ((efL N D d n).take (t + 2)) wr ∧ Below w2.heap.size w2 wr) (fun _ ui _ => n - (intOf ui).toNat)
    case atStart => exact ⟨0, Nat.zero_le _, rfl, HOW.out, HBX.out⟩
    case round =>
      obtain ⟨t, ht, rfl, hol, hbw⟩ := hrel
      have HOL := Lib.hid hol
      have HBW := Lib.hid hbw
      by_cases hlt : t < n
      · have HT := Lib.hid ((hbw.block _ (lt_of_block HT2.out)).trans HT2.out)
        clear hol hbw
        go_upto_region 7 with (at_make; refine wpList_makeI rfl _ _ rfl n rfl rfl (by omega) ?_)
        have HRW := Lib.hid (RW.made wr n)
        have HBA := Lib.hid ((Below.refl wr.heap.size wr).alloc (Nat.le_refl _) (.cells (madeCells #[Value.int .i64 0] n) 3))
        obtain ⟨gs, hgs⟩ : ∃ z, wr.heap.size = z := ⟨_, rfl⟩
        have HGS := Lib.hid hgs
        rw [hgs] at HRW ⊢
        clear hgs
        generalize World.alloc wr _ = w4 at *
        have r0 := HRW.out.get (k := t) (x := 0) (by simp [hlt])
        have f0 := HRW.out.free t
        have l2 := HRW.out.lt
        go_upto_region 8 with (fail)
        have HRX := Lib.hid (show RW (w4.setCell ⟨gs, t, none⟩ (.int .i64 1)) gs (oneL n t) from HRW.out.set t 1)
        have HBS := Lib.hid (HBA.out.setCell (p := ⟨gs, t, none⟩) (Nat.le_of_eq HGS.out) (.int .i64 1))
        clear r0 f0 l2
        generalize World.setCell w4 _ _ = w5 at *
        have HT5 := Lib.hid ((HBS.out.block _ (lt_of_block HT.out)).trans HT.out)
        have HO5 := Lib.hid (HOL.out.stay HBS.out)
        have HB5 := Lib.hid (HBW.out.trans (HBS.out.mono HBW.out.size))
        have b0 := cellOf (o := 0) HT5.out rfl
        have b1 := cellOf (o := 1) HT5.out rfl
        have b2 := cellOf (o := 2) HT5.out rfl
        have l1 := lt_of_block HT5.out
        have HRO := Lib.hid HRX.out.ri
        have hmo := take_more (l := efL N D d n) (i := t + 2) (by rw [HEL.out]; omega)
        rw [← w_gust hlt] at hmo
        have HMO := Lib.hid hmo
        have hlen : ((efL N D d n).take (t + 2)).length ≤ 1000000 := by have := HEL.out; simp; omega
        have HSW := Lib.hid (HSO.out t hlt _ n w5 HRO.out)
        clear hmo
        go_wp2_with (first
          | (go_at_call 56; refine Calls.mono HSW.out ?_; rintro e w7 ⟨u, rfl, hq7, hb7⟩; obtain ⟨A7, c7, rfl, _, hr7⟩ := hq7; rw [swList_len]; obtain ⟨bb, off, y, rfl, _, hx, hcx⟩ := hr7.at_ (k := n) (by rw [swList_len]; omega); rw [swList_last] at hx; injection hx with hx; have HO7 := Lib.hid (HO5.out.stay hb7); have HB7 := Lib.hid (HB5.out.trans (hb7.mono HB5.out.size)); have lb7 := World.block_lt_of_cell? _ _ hcx; have hnl : n < n + 1 := (by omega); have hnli : (n : Int) < (n : Int) + 1 := (by omega); have h0n : (0 : Int) ≤ (n : Int) := (by omega); have HY := Lib.hid hx; clear hb7 hr7 hx b0 b1 b2 l1)
          | (at_builtin; refine wpList_pushJ rfl _ _ rfl _ _ rfl HO7.out HB7.out _ rfl rfl rfl rfl rfl hlen ?_; intro v' w' hv' hb'; have HV' := Lib.hid hv'; have HB' := Lib.hid hb'; clear hv' hb'))
        go_roundw
        case rel => exact ⟨t + 1, hlt, by go_num, by have h9 := HV'.out; rw [← HY.out, HMO.out] at h9; exact h9, HB'.out⟩
        case measure => simp [intOf] <;> omega
      · obtain rfl : t = n := by omega
        have hq := hol.qi
        rw [show (efL N D d t).take (t + 2) = efL N D d t from List.take_of_length_le (by rw [HEL.out]; exact Nat.le_refl _)] at hq
        have HQ9 := Lib.hid hq
        have HBF := Lib.hid (HB2.out.trans (hbw.mono HB2.out.size))
        clear hol hbw hq
        go_wp2
        go_ret
        exact ⟨_, rfl, HQ9.out, HBF.out⟩
end Go.Proofs.Ytnnmmojlgikdgaa

/- The sets of a swing: witness, end. -/
namespace Go.Proofs.Ytnnmmojlgikdgaa
open Go.RowKit

set_option maxRecDepth 100000 in
set_option maxHeartbeats 2000000 in
theorem witness_any (N D d : Int) (A : Option Addr) (k n c B : Nat) (S : List (Int × Int)) (high : Bool) (w : World) (hs : slB N D d = true) (hnk : n = k + 2) (hk : k ≤ 16) (hl : S.length = n) (hB : B ≤ w.heap.size) (hr : RS w B A S) :
    Calls Try.prog 67 #[.agg #[.int .i64 N, .int .i64 D, .int .i64 d, .slice A n c], .bool high] w fun e w' => ∃ u, e = .returned u ∧ QI (witL high S (efL N D d k)) u w' ∧ Below w.heap.size w w' := by
  have hn18 : n ≤ 18 := by omega
  have HEL := Lib.hid (show (efL N D d k).length = n by rw [efL_len]; omega)
  have HEF := Lib.hid (fun W => effects_any N D d A k n c W hs hnk hk)
  have HSL := Lib.hid hl
  have HB0 := Lib.hid ((Below.refl w.heap.size w).alloc (Nat.le_refl _) (.cells #[.int .i64 N, .int .i64 D, .int .i64 d, .slice A n c] 101))
  have HT0 := Lib.hid (blk_new w (.cells #[.int .i64 N, .int .i64 D, .int .i64 d, .slice A n c] 101) _ rfl)
  have HR := Lib.hid hr
  clear hs hnk hr hl
  go_enter Try.func67, Try.ntmps67
  go_upto_region 1 with (fail)
  generalize World.alloc w _ = w1 at *
  have b0 := cellOf (o := 0) HT0.out rfl
  have b1 := cellOf (o := 1) HT0.out rfl
  have b2 := cellOf (o := 2) HT0.out rfl
  have b3 := cellOf (o := 3) HT0.out rfl
  have l1 := lt_of_block HT0.out
  go_upto_region 2 with (go_at_call 100; refine Calls.mono (HEF.out _) ?_; rintro e w2 ⟨u, rfl, hq2, hb2⟩; obtain ⟨EA, ec, rfl, _, hri⟩ := hq2; have HRI := Lib.hid hri; have HB2 := Lib.hid (HB0.out.trans (hb2.mono HB0.out.size)); have HT2 := Lib.hid ((hb2.block _ (lt_of_block HT0.out)).trans HT0.out); clear hb2 hri b0 b1 b2 b3 l1)
  obtain ⟨E, hE⟩ : ∃ E, efL N D d k = E := ⟨_, rfl⟩
  have HE := Lib.hid hE
  rw [hE] at HRI HEL ⊢
  clear hE
  have b3 := cellOf (o := 3) HT2.out rfl
  have l1 := lt_of_block HT2.out
  have hEl := HEL.out
  rw [hEl]
  clear hEl
  go_upto_region 4 with (fail)
  clear b3 l1
  go_loopw [7, 18] (fun ul ui wr => ∃ i : Nat, i ≤ n ∧ ui = .int .i64 i ∧ OI w2.heap.size ul ((witL high S E).take i) wr ∧ Below w2.heap.size w2 wr) (fun _ ui _ => n - (intOf ui).toNat)
  case atStart => exact ⟨0, by omega, rfl, OI.nil, Below.refl _ _⟩
  case round =>
    obtain ⟨i, hi, rfl, hol, hbw⟩ := hrel
    by_cases hlt : i < n
    · have hwl : (witL high S E).length = n := by rw [witL_len high (by rw [HSL.out, HEL.out]), HSL.out]
      obtain ⟨b, off, s, rfl, hb, hsx, hc1, hc2⟩ := (HR.out.below ((HB2.out.trans (hbw.mono HB2.out.size)).mono hB)).at_ (show i < S.length by rw [HSL.out]; exact hlt)
      obtain ⟨be, oe, e, rfl, hbe, hex, hce⟩ := (HRI.out.below hbw).at_ (show i < E.length by rw [HEL.out]; exact hlt)
      have hwit := witL_get (high := high) hsx hex
      have hmore := take_more (show i < (witL high S E).length by rw [hwl]; exact hlt)
      rw [show gz (witL high S E) i = witE high s e by unfold gz; rw [hwit]; rfl] at hmore
      have HMO := Lib.hid hmore
      have hlen : ((witL high S E).take i).length ≤ 1000000 := by simp; omega
      obtain ⟨s1, s2⟩ := s
      simp only at hc1 hc2
      have hlb : b < wr.heap.size := World.block_lt_of_cell? _ _ hc1
      have hlbe : be < wr.heap.size := World.block_lt_of_cell? _ _ hce
      have HO := Lib.hid (hol.stay ((Below.refl wr.heap.size wr).alloc (Nat.le_refl _) (.cells #[.int .i64 s1, .int .i64 s2] 27)))
      have HBW := Lib.hid (hbw.alloc hbw.size (.cells #[.int .i64 s1, .int .i64 s2] 27))
      obtain ⟨p, hp⟩ : ∃ p, witE high (s1, s2) e = p := ⟨_, rfl⟩
      rw [hp] at HMO
      clear hwit hmore hsx hex hol hbw hb hbe hwl
      go_upto_region 6 with (fail)
      have hce2 := cell_keep ((Below.refl wr.heap.size wr).alloc (Nat.le_refl _) (.cells #[.int .i64 s1, .int .i64 s2] 27)) hce
      have bkq := blk_new wr (.cells #[.int .i64 s1, .int .i64 s2] 27) _ rfl
      obtain ⟨q, hq⟩ : ∃ q, wr.heap.size = q := ⟨_, rfl⟩
      rw [hq] at bkq ⊢
      clear hq hce hc1 hc2 hlb hlbe
      generalize World.alloc wr _ = wq at *
      have c90 := cellOf (o := 0) bkq rfl
      have c91 := cellOf (o := 1) bkq rfl
      have lq := lt_of_block bkq
      have lbe : be < wq.heap.size := World.block_lt_of_cell? _ _ hce2
      clear bkq
      have hway : (0 < e ∧ high = true ∧ s2 = p) ∨ (0 < e ∧ high = false ∧ s1 = p) ∨ (e < 0 ∧ high = false ∧ s2 = p) ∨ (e < 0 ∧ high = true ∧ s1 = p) ∨ (e = 0 ∧ high = true ∧ s1 = p) ∨ (e = 0 ∧ high = false ∧ s1 = p) := by
        rw [← hp]
        unfold witE
        cases high <;> by_cases h1 : 0 < e <;> by_cases h2 : e < 0 <;> simp [h1, h2] <;> omega
      clear hp
      rcases hway with ⟨h1, rfl, rfl⟩ | ⟨h1, rfl, rfl⟩ | ⟨h1, rfl, rfl⟩ | ⟨h1, rfl, rfl⟩ | ⟨h1, rfl, rfl⟩ | ⟨h1, rfl, rfl⟩
      all_goals
        try have h2 : ¬ e < 0 := by omega
        try have h3 : ¬ 0 < e := by omega
        go_wp2_with (at_builtin; refine wpList_pushJ rfl _ _ rfl _ _ rfl HO.out HBW.out _ rfl rfl rfl rfl rfl hlen ?_)
        intro v' w' hv' hb'
        have HV' := Lib.hid hv'
        have HB' := Lib.hid hb'
        clear hv' hb'
        go_wp2
        go_roundw
        case rel => exact ⟨i + 1, hlt, by go_num, by rw [← HMO.out]; exact HV'.out, HB'.out⟩
        case measure => simp [intOf] <;> omega
    · obtain rfl : i = n := by omega
      have hq := hol.qi
      rw [show (witL high S E).take i = witL high S E from List.take_of_length_le (by rw [witL_len high (by rw [HSL.out, HEL.out]), HSL.out]; exact Nat.le_refl _)] at hq
      have HQ9 := Lib.hid hq
      have HBF := Lib.hid (HB2.out.trans (hbw.mono HB2.out.size))
      clear hol hbw hq
      go_wp2
      go_ret
      exact ⟨_, rfl, by rw [HE.out]; exact HQ9.out, HBF.out⟩

set_option maxRecDepth 100000 in
set_option maxHeartbeats 2000000 in
theorem end_any (N D d : Int) (A : Option Addr) (k n c B : Nat) (S : List (Int × Int)) (high : Bool) (w : World) (hs : slB N D d = true) (hnk : n = k + 2) (hk : k ≤ 16) (hl : S.length = n) (hS : SB S) (hB : B ≤ w.heap.size) (hr : RS w B A S) :
    Calls Try.prog 65 #[.agg #[.int .i64 N, .int .i64 D, .int .i64 d, .slice A n c], .bool high] w fun e w' => e = .returned (.tuple #[.int .i64 (endN high S (efL N D d k)), .int .i64 (powI d k)]) ∧ Below w.heap.size w w' := by
  have hn18 : n ≤ 18 := by omega
  have HEL := Lib.hid (show (efL N D d k).length = n by rw [efL_len]; omega)
  have HEF := Lib.hid (fun W => effects_any N D d A k n c W hs hnk hk)
  have HWI := Lib.hid (fun (W : World) (hW : Below w.heap.size w W) => witness_any N D d A k n c w.heap.size S high W hs hnk hk hl hW.size ((hr.more hB).below hW))
  have HSL := Lib.hid hl
  have hwl : (witL high S (efL N D d k)).length = n := by rw [witL_len high (by rw [HSL.out, HEL.out]), HSL.out]
  have HWL := Lib.hid hwl
  have HPB := Lib.hid (part_bd hs (show (witL high S (efL N D d k)).length = k + 2 by rw [hwl, hnk]) hk (hS.wit high _ (by rw [efL_len, hl, hnk])))
  have HB0 := Lib.hid ((Below.refl w.heap.size w).alloc (Nat.le_refl _) (.cells #[.int .i64 N, .int .i64 D, .int .i64 d, .slice A n c] 101))
  have HT0 := Lib.hid (blk_new w (.cells #[.int .i64 N, .int .i64 D, .int .i64 d, .slice A n c] 101) _ rfl)
  clear hs hnk hr hl hS hwl
  unfold endN
  obtain ⟨E, hE⟩ : ∃ E, efL N D d k = E := ⟨_, rfl⟩
  rw [hE] at HPB HEL HWL HWI HEF ⊢
  obtain ⟨X, hX⟩ : ∃ X, witL high S E = X := ⟨_, rfl⟩
  rw [hX] at HPB HWL HWI ⊢
  clear hE hX
  go_enter Try.func65, Try.ntmps65
  go_upto_region 1 with (fail)
  generalize World.alloc w _ = w1 at *
  have b0 := cellOf (o := 0) HT0.out rfl
  have b1 := cellOf (o := 1) HT0.out rfl
  have b2 := cellOf (o := 2) HT0.out rfl
  have b3 := cellOf (o := 3) HT0.out rfl
  have l1 := lt_of_block HT0.out
  go_upto_region 2 with (go_at_call 100; refine Calls.mono (HEF.out _) ?_; rintro e w2 ⟨u, rfl, hq2, hb2⟩; obtain ⟨EA, ec, rfl, _, hri⟩ := hq2; have HRI := Lib.hid hri; have HB2 := Lib.hid (HB0.out.trans (hb2.mono HB0.out.size)); have HT2 := Lib.hid ((hb2.block _ (lt_of_block HT0.out)).trans HT0.out); clear hb2 hri b0 b1 b2 b3 l1)
  have b0 := cellOf (o := 0) HT2.out rfl
  have b1 := cellOf (o := 1) HT2.out rfl
  have b2 := cellOf (o := 2) HT2.out rfl
  have b3 := cellOf (o := 3) HT2.out rfl
  have l1 := lt_of_block HT2.out
  go_upto_region 3 with (go_at_call 67; refine Calls.mono (HWI.out _ HB2.out) ?_; rintro e w3 ⟨u, rfl, hq3, hb3⟩; obtain ⟨XA, xc, rfl, _, hri⟩ := hq3; have HRX := Lib.hid hri; have HB3 := Lib.hid (HB2.out.trans (hb3.mono HB2.out.size)); have HR3 := Lib.hid ((HRI.out.below hb3).more hb3.size); clear hb3 hri b0 b1 b2 b3 l1)
  have hXl := HWL.out
  have hEl := HEL.out
  rw [hXl, hEl]
  clear hXl hEl
  go_loopw [4, 18] (fun us ui wr => ∃ i : Nat, i ≤ n ∧ ui = .int .i64 i ∧ us = .int .i64 (dotL (X.take i) E) ∧ wr = w3) (fun _ ui _ => n - (intOf ui).toNat)
  case atStart => exact ⟨0, by omega, rfl, by rw [List.take_zero, dotL_nil], rfl⟩
  case round =>
    obtain ⟨i, hi, rfl, rfl, rfl⟩ := hrel
    by_cases hlt : i < n
    · obtain ⟨be, oe, e, rfl, hbe, hex, hce⟩ := HR3.out.at_ (show i < E.length by rw [HEL.out]; exact hlt)
      obtain ⟨bx, ox, x, rfl, hbx, hxx, hcx⟩ := HRX.out.at_ (show i < X.length by rw [HWL.out]; exact hlt)
      have hmo := dot_more X E i x e hxx hex
      have p1 := HPB.out i
      have p2 := HPB.out (i + 1)
      have HMO := Lib.hid hmo
      obtain ⟨q1, hq1⟩ : ∃ q, dotL (X.take i) E = q := ⟨_, rfl⟩
      obtain ⟨q2, hq2⟩ : ∃ q, dotL (X.take (i + 1)) E = q := ⟨_, rfl⟩
      obtain ⟨q3, hq3⟩ : ∃ q, e * x = q := ⟨_, rfl⟩
      rw [hq1, hq2, hq3] at hmo
      rw [hq1] at p1 ⊢
      rw [hq2] at p2
      have HQ2 := Lib.hid hq2
      have i1 : IntKind.i64.wrap (e * x) = q3 := by rw [hq3]; exact IntWalk.i64_in _ (by omega)
      have i2 : IntKind.i64.wrap (q1 + q3) = q2 := by rw [← hmo]; exact IntWalk.i64_in _ (by omega)
      clear hq1 hq2 hq3 hmo p1 p2 hex hxx
      go_wp2
      go_roundw
      case rel => exact ⟨i + 1, hlt, by go_num, by rw [HQ2.out], trivial⟩
      case measure => simp [intOf] <;> omega
    · obtain rfl : i = n := by omega
      have hq : dotL (X.take i) E = dotL X E := by rw [List.take_of_length_le (by rw [HWL.out]; exact Nat.le_refl _)]
      rw [hq]
      clear hq
      go_wp2
      go_ret2
      exact ⟨rfl, HB3.out⟩
end Go.Proofs.Ytnnmmojlgikdgaa

/- The reference's ends. -/
namespace Go.Proofs.Ytnnmmojlgikdgaa
open Go.RowKit

set_option maxRecDepth 100000 in
set_option maxHeartbeats 4000000 in
theorem rends7_any (N D d gl gh : Int) (Ab : Option Addr) (nb cb n B : Nat) (b : List (Int × Int)) (high : Bool) (w : World) (hs : slB N D d = true) (hn : n ≤ 16) (hb : b.length = nb) (hb2 : nb = 2) (hS : SB (b ++ List.replicate n (gl, gh))) (hB : B ≤ w.heap.size) (hr : RS w B Ab b) :
    Calls Try.prog 66 #[.agg #[.int .i64 N, .int .i64 D, .int .i64 d], .slice Ab nb cb, .agg #[.int .i64 gl, .int .i64 gh], .int .i64 n, .bool high] w fun e w' => ∃ u, e = .returned (.tuple #[u, .int .i64 (endN high (b ++ List.replicate n (gl, gh)) (efL N D d n))]) ∧ QI (witL high (b ++ List.replicate n (gl, gh)) (efL N D d n)) u w' ∧ Below w.heap.size w w' := by
  have HWE := Lib.hid (fun W => weights_any N D d n W hs hn)
  have hSl : (b ++ List.replicate n (gl, gh)).length = n + 2 := by simp; omega
  have hEl := efL_len N D d n
  have hwl : (witL high (b ++ List.replicate n (gl, gh)) (efL N D d n)).length = n + 2 := by rw [witL_len high (by rw [hSl, hEl]), hSl]
  have HPB := Lib.hid (part_bd hs hwl hn (hS.wit high _ (by rw [hSl, hEl])))
  have HSg := Lib.hid (fun (i : Nat) (h : i < 2) => show (b ++ List.replicate n (gl, gh))[i]? = b[i]? from List.getElem?_append_left (by omega))
  have HSr := Lib.hid (fun (i : Nat) (h : 2 ≤ i) (h' : i < n + 2) => show (b ++ List.replicate n (gl, gh))[i]? = some (gl, gh) by rw [List.getElem?_append_right (by omega), List.getElem?_replicate, if_pos (by omega)])
  have HR := Lib.hid (fun (W : World) (hW : Below w.heap.size w W) => (hr.more hB).below hW)
  have HBL := Lib.hid (show b.length = 2 by omega)
  have HB2 := Lib.hid hb2
  have HB0 := Lib.hid (((Below.refl w.heap.size w).alloc (Nat.le_refl _) (.cells #[.int .i64 N, .int .i64 D, .int .i64 d] 23)).alloc (by simp) (.cells #[.int .i64 gl, .int .i64 gh] 27))
  have HT0 := Lib.hid (blk_old (.cells #[.int .i64 gl, .int .i64 gh] 27) (blk_new w (.cells #[.int .i64 N, .int .i64 D, .int .i64 d] 23) _ rfl))
  have HG0 := Lib.hid (blk_new (w.alloc (.cells #[.int .i64 N, .int .i64 D, .int .i64 d] 23)) (.cells #[.int .i64 gl, .int .i64 gh] 27) (w.heap.size + 1) (by simp))
  unfold endN
  obtain ⟨E, hE⟩ : ∃ E, efL N D d n = E := ⟨_, rfl⟩
  obtain ⟨S, hS9⟩ : ∃ S, b ++ List.replicate n (gl, gh) = S := ⟨_, rfl⟩
  rw [hE] at HWE HPB hEl hwl ⊢
  rw [hS9] at HPB HSg HSr hwl hSl ⊢
  obtain ⟨X, hX⟩ : ∃ X, witL high S E = X := ⟨_, rfl⟩
  have HX := Lib.hid hX
  rw [hX] at HPB hwl ⊢
  have HSL := Lib.hid hSl
  have HEL := Lib.hid hEl
  have HWL := Lib.hid hwl
  clear hE hS9 hX hSl hEl hwl hs hS hr hb hb2
  go_enter Try.func66, Try.ntmps66
  go_upto_region 1 with (fail)
  generalize World.alloc _ _ = w1 at *
  have b0 := cellOf (o := 0) HT0.out rfl
  have b1 := cellOf (o := 1) HT0.out rfl
  have b2 := cellOf (o := 2) HT0.out rfl
  have l1 := lt_of_block HT0.out
  go_upto_region 5 with (go_at_call 101; refine Calls.mono (HWE.out _) ?_; rintro e w2 ⟨u, rfl, hq2, hb2⟩; obtain ⟨EA, ec, rfl, _, hri⟩ := hq2; have HRI := Lib.hid hri; have HB2w := Lib.hid (HB0.out.trans (hb2.mono HB0.out.size)); have HG2 := Lib.hid ((hb2.block _ (lt_of_block HG0.out)).trans HG0.out); clear hb2 hri b0 b1 b2 l1)
  rw [HEL.out]
  go_loopw [13, 14, 15] (fun ul us ui wr => ∃ i : Nat, i ≤ n + 2 ∧ ui = .int .i64 i ∧ OI w2.heap.size ul (X.take i) wr ∧ us = .int .i64 (dotL (X.take i) E) ∧ Below w2.heap.size w2 wr) (fun _ _ ui _ => n + 2 - (intOf ui).toNat)
  case atStart => exact ⟨0, by omega, rfl, OI.nil, by rw [List.take_zero, dotL_nil], Below.refl _ _⟩
  case round =>
    obtain ⟨i, hi, rfl, hol, rfl, hbw⟩ := hrel
    have HOL := Lib.hid hol
    have HBW := Lib.hid hbw
    by_cases hlt : i < n + 2
    · have hlti : (i : Int) < (n : Int) + 2 := by omega
      obtain ⟨be, oe, e, rfl, hbe, hex, hce⟩ := HRI.out.at_ (show i < E.length by rw [HEL.out]; exact hlt)
      have hsx : ∃ s, S[i]? = some s := ⟨_, List.getElem?_eq_getElem (show i < S.length by rw [HSL.out]; exact hlt)⟩
      obtain ⟨⟨s1, s2⟩, hsx⟩ := hsx
      have hwit := witL_get (high := high) hsx hex
      rw [HX.out] at hwit
      have hmore := take_more (show i < X.length by rw [HWL.out]; exact hlt)
      rw [show gz X i = witE high (s1, s2) e by unfold gz; rw [hwit]; rfl] at hmore
      have hmo := dot_more X E i _ e hwit hex
      have p1 := HPB.out i
      have p2 := HPB.out (i + 1)
      obtain ⟨p, hp⟩ : ∃ p, witE high (s1, s2) e = p := ⟨_, rfl⟩
      rw [hp] at hmore hmo
      have HMO := Lib.hid hmore
      obtain ⟨q1, hq1⟩ : ∃ q, dotL (X.take i) E = q := ⟨_, rfl⟩
      obtain ⟨q2, hq2⟩ : ∃ q, dotL (X.take (i + 1)) E = q := ⟨_, rfl⟩
      obtain ⟨q3, hq3⟩ : ∃ q, e * p = q := ⟨_, rfl⟩
      rw [hq1, hq2, hq3] at hmo
      rw [hq1] at p1 ⊢
      rw [hq2] at p2
      have HQ2 := Lib.hid hq2
      have i1 : IntKind.i64.wrap (e * p) = q3 := by rw [hq3]; exact IntWalk.i64_in _ (by omega)
      have i2 : IntKind.i64.wrap (q1 + q3) = q2 := by rw [← hmo]; exact IntWalk.i64_in _ (by omega)
      have hlen : (X.take i).length ≤ 1000000 := by simp; omega
      have HCE := Lib.hid hce
      have HGW := Lib.hid ((hbw.block _ (lt_of_block HG2.out)).trans HG2.out)
      have hway : (0 < e ∧ high = true ∧ s2 = p) ∨ (0 < e ∧ high = false ∧ s1 = p) ∨ (e < 0 ∧ high = false ∧ s2 = p) ∨ (e < 0 ∧ high = true ∧ s1 = p) ∨ (e = 0 ∧ high = true ∧ s1 = p) ∨ (e = 0 ∧ high = false ∧ s1 = p) := by
        rw [← hp]
        unfold witE
        cases high <;> by_cases h1 : 0 < e <;> by_cases h2 : e < 0 <;> simp [h1, h2] <;> omega
      have g0 := cellOf (o := 0) HGW.out rfl
      have g1 := cellOf (o := 1) HGW.out rfl
      have lg := lt_of_block HGW.out
      clear hp hq1 hq2 hq3 hmo p1 p2 hwit hmore hex hol hbw hbe hce
      have HWAY := Lib.hid hway
      clear hway
      by_cases hi2 : i < 2
      · obtain ⟨bb, off, s, rfl, hbb, hbx, hc1, hc2⟩ := (HR.out wr (HB2w.out.trans (HBW.out.mono HB2w.out.size))).at_ (show i < b.length by rw [HBL.out]; exact hi2)
        have he := HSg.out i hi2
        rw [hsx, hbx] at he
        injection he with he
        subst he
        simp only at hc1 hc2
        have hlb : bb < wr.heap.size := World.block_lt_of_cell? _ _ hc1
        have hi2i : (i : Int) < 2 := by omega
        have hi2n : (i : Int) < (nb : Int) := by have := HB2.out; omega
        have hi2nn : i < nb := by have := HB2.out; omega
        clear hsx hbx hbb
        go_upto_region 10 with (fail)
        have hway := HWAY.out
        have bkq := blk_new wr (.cells #[.int .i64 s1, .int .i64 s2] 27) _ rfl
        have HBA := Lib.hid ((Below.refl wr.heap.size wr).alloc (Nat.le_refl _) (.cells #[.int .i64 s1, .int .i64 s2] 27))
        obtain ⟨q, hq⟩ : ∃ q, wr.heap.size = q := ⟨_, rfl⟩
        rw [hq] at bkq ⊢
        clear hq
        clear g0 g1 lg hc1 hc2 hlb hi2i hi2n hi2nn HWAY
        generalize World.alloc wr _ = wq at *
        have HOQ := Lib.hid (HOL.out.stay HBA.out)
        have HBQ := Lib.hid (HBW.out.trans (HBA.out.mono HBW.out.size))
        have hceq := cell_keep HBQ.out HCE.out
        have c90 := cellOf (o := 0) bkq rfl
        have c91 := cellOf (o := 1) bkq rfl
        have lq := lt_of_block bkq
        have lbe : be < wq.heap.size := World.block_lt_of_cell? _ _ hceq
        clear bkq
        rcases hway with ⟨h1, rfl, rfl⟩ | ⟨h1, rfl, rfl⟩ | ⟨h1, rfl, rfl⟩ | ⟨h1, rfl, rfl⟩ | ⟨h1, rfl, rfl⟩ | ⟨h1, rfl, rfl⟩
        all_goals
          try have h2 : ¬ e < 0 := by omega
          try have h3 : ¬ 0 < e := by omega
          first
            | (have h9 : e = 0 := h1; clear h9 h1)
            | skip
          go_wp2_with (at_builtin; refine wpList_pushJ rfl _ _ rfl _ _ rfl HOQ.out HBQ.out _ rfl rfl rfl rfl rfl hlen ?_; intro v' w' hv' hb'; have HV' := Lib.hid hv'; have HB' := Lib.hid hb'; have hcw := cell_keep hb' HCE.out; have lbw : be < w'.heap.size := World.block_lt_of_cell? _ _ hcw; clear hv' hb' hceq c90 c91 lq lbe)
          go_roundw
          case rel => exact ⟨i + 1, hlt, by go_num, by rw [← HMO.out]; exact HV'.out, by rw [HQ2.out], HB'.out⟩
          case measure => simp [intOf] <;> omega
      · have he := HSr.out i (by omega) hlt
        rw [hsx] at he
        injection he with he
        injection he with e1 e2
        subst e1 e2
        have hi2i : ¬ ((i : Int) < 2) := by omega
        clear hsx
        go_upto_region 10 with (fail)
        have hway := HWAY.out
        have bkq := blk_new wr (.cells #[.int .i64 s1, .int .i64 s2] 27) _ rfl
        have HBA := Lib.hid ((Below.refl wr.heap.size wr).alloc (Nat.le_refl _) (.cells #[.int .i64 s1, .int .i64 s2] 27))
        obtain ⟨q, hq⟩ : ∃ q, wr.heap.size = q := ⟨_, rfl⟩
        rw [hq] at bkq ⊢
        clear hq
        clear g0 g1 lg hi2i HWAY
        generalize World.alloc wr _ = wq at *
        have HOQ := Lib.hid (HOL.out.stay HBA.out)
        have HBQ := Lib.hid (HBW.out.trans (HBA.out.mono HBW.out.size))
        have hceq := cell_keep HBQ.out HCE.out
        have c90 := cellOf (o := 0) bkq rfl
        have c91 := cellOf (o := 1) bkq rfl
        have lq := lt_of_block bkq
        have lbe : be < wq.heap.size := World.block_lt_of_cell? _ _ hceq
        clear bkq
        rcases hway with ⟨h1, rfl, rfl⟩ | ⟨h1, rfl, rfl⟩ | ⟨h1, rfl, rfl⟩ | ⟨h1, rfl, rfl⟩ | ⟨h1, rfl, rfl⟩ | ⟨h1, rfl, rfl⟩
        all_goals
          try have h2 : ¬ e < 0 := by omega
          try have h3 : ¬ 0 < e := by omega
          first
            | (have h9 : e = 0 := h1; clear h9 h1)
            | skip
          go_wp2_with (at_builtin; refine wpList_pushJ rfl _ _ rfl _ _ rfl HOQ.out HBQ.out _ rfl rfl rfl rfl rfl hlen ?_; intro v' w' hv' hb'; have HV' := Lib.hid hv'; have HB' := Lib.hid hb'; have hcw := cell_keep hb' HCE.out; have lbw : be < w'.heap.size := World.block_lt_of_cell? _ _ hcw; clear hv' hb' hceq c90 c91 lq lbe)
          go_roundw
          case rel => exact ⟨i + 1, hlt, by go_num, by rw [← HMO.out]; exact HV'.out, by rw [HQ2.out], HB'.out⟩
          case measure => simp [intOf] <;> omega
    · obtain rfl : i = n + 2 := by omega
      have hq := hol.qi
      rw [show X.take (n + 2) = X from List.take_of_length_le (by rw [HWL.out]; exact Nat.le_refl _)] at hq ⊢
      have HQ9 := Lib.hid hq
      have HBF := Lib.hid (HB2w.out.trans (hbw.mono HB2w.out.size))
      have hlti : ¬ ((n : Int) + 2 < (n : Int) + 2) := by omega
      clear hol hbw hq hlt
      go_wp2
      go_ret2
      exact ⟨_, rfl, HQ9.out, HBF.out⟩
end Go.Proofs.Ytnnmmojlgikdgaa

/- Plain mathematics: is a limit kept? -/
namespace Go.Proofs.Ytnnmmojlgikdgaa

def inF (lo hi num den : Int) : Bool := decide (lo * den ≤ num) && decide (num ≤ hi * den)
def kpB (N D d : Int) (S : List (Int × Int)) (lo hi : Int) (t : Nat) : Bool :=
  inF lo hi (endN false (S.take (t + 2)) (efL N D d t)) (powI d t) && inF lo hi (endN true (S.take (t + 2)) (efL N D d t)) (powI d t)
/-- The first number from i on that has not the property, at most f further. -/
def stF (p : Nat → Bool) : Nat → Nat → Nat
  | i, 0 => i
  | i, f + 1 => if p i then stF p (i + 1) f else i
theorem stF_bd (p : Nat → Bool) : ∀ f i, i ≤ stF p i f ∧ stF p i f ≤ i + f
  | 0, i => ⟨Nat.le_refl _, Nat.le_refl _⟩
  | f + 1, i => by
    unfold stF
    split
    · have := stF_bd p f (i + 1); omega
    · omega
theorem stF_spec (p : Nat → Bool) : ∀ f i, (∀ j, i ≤ j → j < stF p i f → p j = true) ∧ (stF p i f < i + f → p (stF p i f) = false)
  | 0, i => ⟨fun j h1 h2 => by simp [stF] at h2; omega, fun h => by simp [stF] at h⟩
  | f + 1, i => by
    unfold stF
    cases hp : p i with
    | true =>
      obtain ⟨a, b⟩ := stF_spec p f (i + 1)
      refine ⟨fun j h1 h2 => ?_, fun h => b (by simp at h; omega)⟩
      by_cases e : j = i
      · subst e; exact hp
      · exact a j (by omega) (by simpa using h2)
    | false => exact ⟨fun j h1 h2 => by simp at h2; omega, fun _ => by simpa using hp⟩
theorem stF_step {p : Nat → Bool} {i f : Nat} (h : p i = true) : stF p i (f + 1) = stF p (i + 1) f := by
  show (if p i then stF p (i + 1) f else i) = _
  rw [if_pos h]
theorem stF_stop {p : Nat → Bool} {i f : Nat} (h : p i = false) : stF p i (f + 1) = i := by
  show (if p i then stF p (i + 1) f else i) = _
  rw [h]
  rfl
def keN (N D d : Int) (S : List (Int × Int)) (lo hi : Int) (k : Nat) : Int × Bool :=
  if stF (kpB N D d S lo hi) 0 (k + 1) ≤ k then (stF (kpB N D d S lo hi) 0 (k + 1), false) else (0, true)
end Go.Proofs.Ytnnmmojlgikdgaa

/- The sets of a swing: until, keeps. -/
namespace Go.Proofs.Ytnnmmojlgikdgaa
open Go.RowKit

set_option maxRecDepth 100000 in
set_option maxHeartbeats 1000000 in
theorem until_any (N D d : Int) (A : Option Addr) (n c t : Nat) (w : World) (ht : t + 2 ≤ c) (hc : t ≤ 1000) :
    Calls Try.prog 103 #[.agg #[.int .i64 N, .int .i64 D, .int .i64 d, .slice A n c], .int .i64 t] w fun e w' => e = .returned (.agg #[.int .i64 N, .int .i64 D, .int .i64 d, .slice A (t + 2 : Nat) c]) ∧ Below w.heap.size w w' := by
  have HT0 := Lib.hid (blk_old (.cells #[.int .i64 0, .int .i64 0, .int .i64 0, .slice none 0 0] 101) (blk_new w (.cells #[.int .i64 N, .int .i64 D, .int .i64 d, .slice A n c] 101) _ rfl))
  have HR0 := Lib.hid (blk_new (w.alloc (.cells #[.int .i64 N, .int .i64 D, .int .i64 d, .slice A n c] 101)) (.cells #[.int .i64 0, .int .i64 0, .int .i64 0, .slice none 0 0] 101) (w.heap.size + 1) (by simp))
  have HB0 := Lib.hid (((Below.refl w.heap.size w).alloc (Nat.le_refl _) (.cells #[.int .i64 N, .int .i64 D, .int .i64 d, .slice A n c] 101)).alloc (by simp) (.cells #[.int .i64 0, .int .i64 0, .int .i64 0, .slice none 0 0] 101))
  have i1 : IntKind.i64.wrap ((t : Int) + 2) = (t : Int) + 2 := IntWalk.i64_in _ (by omega)
  have h2 : (t : Int) + 2 ≤ (c : Int) := by omega
  have h3 : (0 : Int) ≤ (t : Int) + 2 := by omega
  have h4 : ((t : Int) + 2).toNat = t + 2 := by omega
  have HM := Lib.hid (map_add0 A c 2)
  go_enter Try.func103, Try.ntmps103
  go_upto_region 1 with (fail)
  generalize World.alloc _ _ = w1 at *
  have b0 := cellOf (o := 0) HT0.out rfl
  have b1 := cellOf (o := 1) HT0.out rfl
  have b2 := cellOf (o := 2) HT0.out rfl
  have b3 := cellOf (o := 3) HT0.out rfl
  have l1 := lt_of_block HT0.out
  have bk0 := HR0.out
  obtain ⟨Q, hQ⟩ : ∃ q9 : Nat → Value → World → Prop, q9 = QG [some (.pointer (some ⟨w.heap.size, 0, none⟩)), some (.agg #[.int .i64 N, .int .i64 D, .int .i64 d]), some (.pointer (some ⟨w.heap.size, 3, none⟩)), some (.slice A n c), some (.int .i64 ((t : Int))), some (.int .i64 (((t : Int) + 2))), some (.slice A (t + 2) c), some (.agg #[.int .i64 N, .int .i64 D, .int .i64 d, .slice A (t + 2) c]), none] (fun _ _ _ => True) := ⟨_, rfl⟩
  have hst : Stays Q := by rw [hQ]; exact QG.stays (fun _ _ _ _ _ _ => trivial)
  have HQ := Lib.hid hQ
  clear hQ
  obtain ⟨fX, hfX⟩ : ∃ f9 : World → World, f9 = (fun y => ((((y.setCell ⟨w.heap.size + 1, 0, none⟩ (.int .i64 N)).setCell ⟨w.heap.size + 1, 1, none⟩ (.int .i64 D)).setCell ⟨w.heap.size + 1, 2, none⟩ (.int .i64 d)).setCell ⟨w.heap.size + 1, 3, none⟩ (.slice A (t + 2) c))) := ⟨_, rfl⟩
  have HfX := Lib.hid hfX
  clear hfX
  refine wpIn_wide.1 (region_inv2 (n := 9) (by kernel_rfl) (RT Q w1 8 fX) (by kernel_rfl) rfl (RT.start _ _ _ _ _) ?hstep ?hend)
  case hstep =>
    intro i' o ho val L b' x hF hR hpre hl
    match i', ho with
    | 0, ho =>
      simp at ho; subst ho; refine step_plain rfl ?_; have hN := hF.later hl 8 rfl (e := ⟨0, .phase⟩) (by simp) rfl rfl
      have hR := hR.1 hN
      have e2 := hF.was 2 (by kernel_rfl) rfl; have hgoal := RT.go (f := fX) hR hst HQ 0 rfl (by decide) hN; clear hF hpre hl hR hN; go_simp; exact ⟨_, rfl, hgoal _ _ (Below.refl _ _) rfl⟩
    | 1, ho =>
      simp at ho; subst ho; refine step_plain rfl ?_; have hN := hF.later hl 8 rfl (e := ⟨1, .phase⟩) (by simp) rfl rfl
      have hR := hR.1 hN
      have e5 := hF.gv hR.2 HQ 0 rfl (hpre ⟨0, .data⟩ (by simp) rfl) rfl; have hgoal := RT.go (f := fX) hR hst HQ 1 rfl (by decide) hN; have q0 := cell_keep hR.1 b0; have q1 := cell_keep hR.1 b1; have q2 := cell_keep hR.1 b2; clear hF hpre hl hR hN; go_simp; exact ⟨_, rfl, hgoal _ _ (Below.refl _ _) rfl⟩
    | 2, ho =>
      simp at ho; subst ho; refine step_plain rfl ?_; have hN := hF.later hl 8 rfl (e := ⟨2, .phase⟩) (by simp) rfl rfl
      have hR := hR.1 hN
      have e2 := hF.was 2 (by kernel_rfl) rfl; have hgoal := RT.go (f := fX) hR hst HQ 2 rfl (by decide) hN; clear hF hpre hl hR hN; go_simp; exact ⟨_, rfl, hgoal _ _ (Below.refl _ _) rfl⟩
    | 3, ho =>
      simp at ho; subst ho; refine step_plain rfl ?_; have hN := hF.later hl 8 rfl (e := ⟨3, .phase⟩) (by simp) rfl rfl
      have hR := hR.1 hN
      have e7 := hF.gv hR.2 HQ 2 rfl (hpre ⟨2, .data⟩ (by simp) rfl) rfl; have hgoal := RT.go (f := fX) hR hst HQ 3 rfl (by decide) hN; have q0 := cell_keep hR.1 b3; clear hF hpre hl hR hN; go_simp; exact ⟨_, rfl, hgoal _ _ (Below.refl _ _) rfl⟩
    | 4, ho =>
      simp at ho; subst ho; refine step_plain rfl ?_; have hN := hF.later hl 8 rfl (e := ⟨4, .phase⟩) (by simp) rfl rfl
      have hR := hR.1 hN
      have e1 := hF.was 1 (by kernel_rfl) rfl; have hgoal := RT.go (f := fX) hR hst HQ 4 rfl (by decide) hN; clear hF hpre hl hR hN; go_simp; exact ⟨_, rfl, hgoal _ _ (Below.refl _ _) rfl⟩
    | 5, ho =>
      simp at ho; subst ho; refine step_plain rfl ?_; have hN := hF.later hl 8 rfl (e := ⟨5, .phase⟩) (by simp) rfl rfl
      have hR := hR.1 hN
      have e9 := hF.gv hR.2 HQ 4 rfl (hpre ⟨4, .data⟩ (by simp) rfl) rfl; have hgoal := RT.go (f := fX) hR hst HQ 5 rfl (by decide) hN; clear hF hpre hl hR hN; go_simp; exact ⟨_, rfl, hgoal _ _ (Below.refl _ _) rfl⟩
    | 6, ho =>
      simp at ho; subst ho; refine step_plain rfl ?_; have hN := hF.later hl 8 rfl (e := ⟨6, .phase⟩) (by simp) rfl rfl
      have hR := hR.1 hN
      have e8 := hF.gv hR.2 HQ 3 rfl (hpre ⟨3, .data⟩ (by simp) rfl) rfl; have e10 := hF.gv hR.2 HQ 5 rfl (hpre ⟨5, .data⟩ (by simp) rfl) rfl; have hgoal := RT.go (f := fX) hR hst HQ 6 rfl (by decide) hN
      have hM := Lib.hid hR.1
      clear hF hpre hl hR hN
      have hm0 := HM.out
      go_simp; exact ⟨_, rfl, hgoal _ _ (Below.refl _ _) (by simp)⟩
    | 7, ho =>
      simp at ho; subst ho; refine step_plain rfl ?_; have hN := hF.later hl 8 rfl (e := ⟨7, .data⟩) (by simp) rfl rfl
      have hR := hR.1 hN
      have e6 := hF.gv hR.2 HQ 1 rfl (hpre ⟨1, .data⟩ (by simp) rfl) rfl; have e11 := hF.gv hR.2 HQ 6 rfl (hpre ⟨6, .data⟩ (by simp) rfl) rfl; have hgoal := RT.go (f := fX) hR hst HQ 7 rfl (by decide) hN; clear hF hpre hl hR hN; go_simp; exact ⟨_, rfl, hgoal _ _ (Below.refl _ _) rfl⟩
    | 8, ho =>
      simp at ho; subst ho; refine step_plain rfl ?_; have hN := hF.none2 hl (by decide)
      have hls : 8 < L.size := by rw [hF.lsize]; decide
      have hR := hR.1 hN
      have e4 := hF.was 4 (by kernel_rfl) rfl; have e12 := hF.gv hR.2 HQ 7 rfl (hpre ⟨7, .data⟩ (by simp) rfl) rfl
      have qb := (hR.1.block (w.heap.size + 1) (lt_of_block bk0)).trans bk0
      have g0 := cellOf (o := 0) qb rfl; have f0 := freeOf (o := 0) qb; have g1 := cellOf (o := 1) qb rfl; have f1 := freeOf (o := 1) qb; have g2 := cellOf (o := 2) qb rfl; have f2 := freeOf (o := 2) qb; have g3 := cellOf (o := 3) qb rfl; have f3 := freeOf (o := 3) qb; have hgoal := RT.store (f := fX) (v := undef) hR hls
      have hq := lt_of_block qb
      have HG := Lib.hid hgoal
      clear hF hpre hl hR hls hN qb hgoal; go_simp
      exact ⟨undef, by have h9 := HG.out; rw [HfX.out] at h9 ⊢; exact h9⟩
    | i + 9, ho => simp at ho
  case hend =>
    intro val L b' x hF hall hR
    have e := hF.all (by kernel_rfl) hall
    obtain ⟨y, hy, ey, hq⟩ := hR.done (hall 8 (by decide))
    rw [HfX.out] at ey; dsimp only at ey
    have bk := (block_setCell (o := 3) (.slice A (t + 2) c) (block_setCell (o := 2) (.int .i64 d) (block_setCell (o := 1) (.int .i64 D) (block_setCell (o := 0) (.int .i64 N) ((hy.block (w.heap.size + 1) (lt_of_block bk0)).trans bk0)))))
    rw [← ey] at bk
    have hX := Lib.hid (fun n9 w9 (h9 : Below n9 w9 w1) (hn9 : n9 ≤ w.heap.size + 1) => show Below n9 w9 x by rw [ey]; exact (((((h9.trans (hy.mono (by have := lt_of_block bk0; omega))).setCell (p := ⟨w.heap.size + 1, 0, none⟩) hn9 (.int .i64 N)).setCell (p := ⟨w.heap.size + 1, 1, none⟩) hn9 (.int .i64 D)).setCell (p := ⟨w.heap.size + 1, 2, none⟩) hn9 (.int .i64 d)).setCell (p := ⟨w.heap.size + 1, 3, none⟩) hn9 (.slice A (t + 2) c)))
    clear hF hall hR hst HfX hq hy ey HQ 
    subst e
    simp [final, dstOf, List.range, List.range.loop]
    have y0 := cellOf (o := 0) bk rfl
    have y1 := cellOf (o := 1) bk rfl
    have y2 := cellOf (o := 2) bk rfl
    have y3 := cellOf (o := 3) bk rfl
    have HB4 := Lib.hid (hX.out _ _ HB0.out (by omega))
    clear bk hX
    go_wp2
    exact bodyPost_ret (v := .agg #[.int .i64 N, .int .i64 D, .int .i64 d, .slice A (t + 2) c]) (by simp [results, Try.results103, go_sem, y0, y1, y2, y3]) rfl ⟨rfl, HB4.out⟩

set_option maxRecDepth 100000 in
set_option maxHeartbeats 2000000 in
theorem keeps_any (N D d lo hi : Int) (A : Option Addr) (k n c B : Nat) (S : List (Int × Int)) (w : World) (hs : slB N D d = true) (hv : vS (lo, hi) = true) (hnk : n = k + 2) (hk : k ≤ 16) (hl : S.length = n) (hc : n ≤ c) (hS : SB S) (hB : B ≤ w.heap.size) (hr : RS w B A S) :
    Calls Try.prog 68 #[.agg #[.int .i64 N, .int .i64 D, .int .i64 d, .slice A n c], .agg #[.int .i64 lo, .int .i64 hi]] w fun e w' => e = .returned (.tuple #[.int .i64 (keN N D d S lo hi k).1, .bool (keN N D d S lo hi k).2]) ∧ Below w.heap.size w w' := by
  have hn18 : n ≤ 18 := by omega
  obtain ⟨⟨d1, d2⟩, _, _⟩ := slB_get hs
  have HTK := Lib.hid (fun W => ticks_any N D d A n c W (by unfold maxLen; omega))
  have HUN := Lib.hid (fun (t : Nat) (h : t ≤ k) (W : World) => until_any N D d A n c t W (by omega) (by omega))
  have HEN := Lib.hid (fun (t : Nat) (h : t ≤ k) (high : Bool) (W : World) (hW : Below w.heap.size w W) => end_any N D d A t (t + 2) c w.heap.size (S.take (t + 2)) high W hs rfl (by omega) (by simp; omega) (hS.take _) hW.size (fun hp => by
    obtain ⟨b, off, e1, e2, e3⟩ := ((hr.more hB).below hW) (by simp at hp; omega)
    exact ⟨b, off, e1, e2, fun j p hj => e3 j p (by rw [List.getElem?_take] at hj; split at hj; exact hj; cases hj)⟩))
  have HPW := Lib.hid (fun (t : Nat) (h : t ≤ k) => And.intro (powI_bd d1 d2 t).1 (Int.le_trans ((powI_bd d1 d2 t).2 (by omega)) (powI_4 (show t ≤ 16 by omega))))
  have HIN := Lib.hid (fun (num den : Int) (hd : 1 ≤ den ∧ den ≤ 4294967296) (W : World) (g : Nat) (hg : g < W.heap.size) (h : RS W (g + 1) (some ⟨g, 0, none⟩) [(lo, hi)]) => inside1_any num den lo hi (some ⟨g, 0, none⟩) 1 (g + 1) W hv hd hg h)
  have HKP := Lib.hid (fun (t : Nat) => show kpB N D d S lo hi t = (inF lo hi (endN false (S.take (t + 2)) (efL N D d t)) (powI d t) && inF lo hi (endN true (S.take (t + 2)) (efL N D d t)) (powI d t)) from rfl)
  have HS0 := Lib.hid (((Below.refl w.heap.size w).alloc (Nat.le_refl _) (.cells #[.int .i64 N, .int .i64 D, .int .i64 d, .slice A n c] 101)).alloc (by simp) (.cells #[.int .i64 lo, .int .i64 hi] 27))
  have HT0 := Lib.hid (blk_old (.cells #[.int .i64 lo, .int .i64 hi] 27) (blk_new w (.cells #[.int .i64 N, .int .i64 D, .int .i64 d, .slice A n c] 101) _ rfl))
  have HL0 := Lib.hid (blk_new (w.alloc (.cells #[.int .i64 N, .int .i64 D, .int .i64 d, .slice A n c] 101)) (.cells #[.int .i64 lo, .int .i64 hi] 27) (w.heap.size + 1) (by simp))
  obtain ⟨P, hP⟩ : ∃ P, kpB N D d S lo hi = P := ⟨_, rfl⟩
  have hr9 : keN N D d S lo hi k = if stF P 0 (k + 1) ≤ k then ((stF P 0 (k + 1) : Int), false) else (0, true) := by unfold keN; rw [hP]
  rw [hP] at HKP
  generalize keN N D d S lo hi k = r9 at *
  obtain ⟨rt, ri⟩ := r9
  simp only
  have HR9 := Lib.hid hr9
  have i0 : IntKind.i64.wrap ((n : Int) - 2 + 1) = ((k + 1 : Nat) : Int) := by rw [hnk, show ((k + 2 : Nat) : Int) - 2 + 1 = ((k + 1 : Nat) : Int) by omega]; exact IntWalk.i64_in _ (by omega)
  clear hs hv hl hS hr hP hr9 d1 d2 hnk
  go_enter Try.func68, Try.ntmps68
  go_upto_region 1 with (fail)
  generalize World.alloc _ _ = w1 at *
  have b0 := cellOf (o := 0) HT0.out rfl
  have b1 := cellOf (o := 1) HT0.out rfl
  have b2 := cellOf (o := 2) HT0.out rfl
  have b3 := cellOf (o := 3) HT0.out rfl
  have l1 := lt_of_block HT0.out
  go_upto_region 2 with (go_at_call 102; refine Calls.mono (HTK.out _) ?_; rintro e w2 ⟨rfl, hb2⟩; have HB2 := Lib.hid (HS0.out.trans (hb2.mono HS0.out.size)); have HT2 := Lib.hid ((hb2.block _ (lt_of_block HT0.out)).trans HT0.out); have HL2 := Lib.hid ((hb2.block _ (lt_of_block HL0.out)).trans HL0.out); clear hb2 b0 b1 b2 b3 l1)
  clear i0
  go_loopw [15] (fun ui wr => ∃ t : Nat, t ≤ k + 1 ∧ ui = .int .i64 t ∧ stF P 0 (k + 1) = stF P t (k + 1 - t) ∧ Below w2.heap.size w2 wr) (fun ui _ => k + 1 - (intOf ui).toNat)
  case atStart => exact ⟨0, by omega, rfl, rfl, Below.refl _ _⟩
  case round =>
    obtain ⟨t, ht, rfl, hst, hbw⟩ := hrel
    have HST := Lib.hid hst
    have HBW := Lib.hid hbw
    have HTW := Lib.hid ((hbw.block _ (lt_of_block HT2.out)).trans HT2.out)
    have HLW := Lib.hid ((hbw.block _ (lt_of_block HL2.out)).trans HL2.out)
    have HBB := Lib.hid (HB2.out.trans (hbw.mono HB2.out.size))
    clear hst hbw
    by_cases hlt : t < k + 1
    · have htk : t ≤ k := by omega
      have hlti : (t : Int) < ((k + 1 : Nat) : Int) := by omega
      have hkp := HKP.out t
      have hen0 := HEN.out t htk false
      have hen1 := HEN.out t htk true
      have hpw := HPW.out t htk
      obtain ⟨lw, hlw⟩ : ∃ z, endN false (S.take (t + 2)) (efL N D d t) = z := ⟨_, rfl⟩
      obtain ⟨hw, hhw⟩ : ∃ z, endN true (S.take (t + 2)) (efL N D d t) = z := ⟨_, rfl⟩
      obtain ⟨dn, hdn⟩ : ∃ z, powI d t = z := ⟨_, rfl⟩
      rw [hlw, hdn] at hen0
      rw [hhw, hdn] at hen1
      rw [hlw, hhw, hdn] at hkp
      rw [hdn] at hpw
      have HE0 := Lib.hid hen0
      have HE1 := Lib.hid hen1
      have HI0 := Lib.hid (HIN.out lw dn hpw)
      have HI1 := Lib.hid (HIN.out hw dn hpw)
      clear hlw hhw hdn hen0 hen1 hpw
      have S0 := cellOf (o := 0) HTW.out rfl
      have S1 := cellOf (o := 1) HTW.out rfl
      have S2 := cellOf (o := 2) HTW.out rfl
      have S3 := cellOf (o := 3) HTW.out rfl
      have l1 := lt_of_block HTW.out
      go_upto_region 5 with (go_at_call 103; refine Calls.mono (HUN.out t htk _) ?_; rintro e w3 ⟨rfl, hb3⟩; have HB3 := Lib.hid (HBW.out.trans (hb3.mono HBW.out.size)); have HL3 := Lib.hid ((hb3.block _ (lt_of_block HLW.out)).trans HLW.out); clear hb3 S0 S1 S2 S3 l1)
      have HB4 := Lib.hid (HB3.out.alloc HB3.out.size (.cells #[.int .i64 N, .int .i64 D, .int .i64 d, .slice A (t + 2) c] 101))
      have HL4 := Lib.hid (blk_old (.cells #[.int .i64 N, .int .i64 D, .int .i64 d, .slice A (t + 2) c] 101) HL3.out)
      have bq := blk_new w3 (.cells #[.int .i64 N, .int .i64 D, .int .i64 d, .slice A (t + 2) c] 101) _ rfl
      obtain ⟨q, hq⟩ : ∃ q, w3.heap.size = q := ⟨_, rfl⟩
      rw [hq] at bq ⊢
      clear hq
      generalize World.alloc w3 _ = w4 at *
      have HQ4 := Lib.hid bq
      have S0 := cellOf (o := 0) bq rfl
      have S1 := cellOf (o := 1) bq rfl
      have S2 := cellOf (o := 2) bq rfl
      have S3 := cellOf (o := 3) bq rfl
      have lq := lt_of_block bq
      clear bq
      go_upto_region 6 with (go_at_call 65; refine Calls.mono (HE0.out _ (HB2.out.trans (HB4.out.mono HB2.out.size))) ?_; rintro e w5 ⟨rfl, hb5⟩; have HB5 := Lib.hid (HB4.out.trans (hb5.mono HB4.out.size)); have HL5 := Lib.hid ((hb5.block _ (lt_of_block HL4.out)).trans HL4.out); have HQ5 := Lib.hid ((hb5.block _ (lt_of_block HQ4.out)).trans HQ4.out); clear hb5 S0 S1 S2 S3 lq)
      have S0 := cellOf (o := 0) HQ5.out rfl
      have S1 := cellOf (o := 1) HQ5.out rfl
      have S2 := cellOf (o := 2) HQ5.out rfl
      have S3 := cellOf (o := 3) HQ5.out rfl
      have lq := lt_of_block HQ5.out
      go_upto_region 7 with (go_at_call 65; refine Calls.mono (HE1.out _ (HB2.out.trans (HB5.out.mono HB2.out.size))) ?_; rintro e w6 ⟨rfl, hb6⟩; have HB6 := Lib.hid (HB5.out.trans (hb6.mono HB5.out.size)); have HL6 := Lib.hid ((hb6.block _ (lt_of_block HL5.out)).trans HL5.out); clear hb6 S0 S1 S2 S3 lq)
      have x0 := cellOf (o := 0) HL6.out rfl
      have x1 := cellOf (o := 1) HL6.out rfl
      have lx := lt_of_block HL6.out
      obtain ⟨bl, hbl⟩ : ∃ z, inF lo hi lw dn = z := ⟨_, rfl⟩
      obtain ⟨bh, hbh⟩ : ∃ z, inF lo hi hw dn = z := ⟨_, rfl⟩
      rw [hbl, hbh] at hkp
      have HI0' := Lib.hid (fun W g hg h => by have := HI0.out W g hg h; rw [show (decide (lo * dn ≤ lw) && decide (lw ≤ hi * dn)) = bl from hbl] at this; exact this)
      have HI1' := Lib.hid (fun W g hg h => by have := HI1.out W g hg h; rw [show (decide (lo * dn ≤ hw) && decide (hw ≤ hi * dn)) = bh from hbh] at this; exact this)
      have HKPT := Lib.hid hkp
      clear hbl hbh hkp HI0 HI1
      have hst1 : k + 1 - t = (k - t) + 1 := by omega
      have HS1 := Lib.hid hst1
      clear hst1
      cases bl with
      | false =>
        go_wp2_with (go_at_call 60; refine Calls.mono (HI0'.out _ _ (by simp) (RS.new1 (by simp))) ?_; rintro e w7 ⟨rfl, hb7⟩; have HB7 := Lib.hid ((HB6.out.alloc HB6.out.size _).trans (hb7.mono (by simp; have := HB6.out.size; omega))); clear hb7)
        have HBF := Lib.hid (HB2.out.trans (HB7.out.mono HB2.out.size))
        go_ret2
        have hp0 : P t = false := by rw [HKPT.out]; rfl
        have h9 := HR9.out
        rw [HST.out, HS1.out, stF_stop hp0, if_pos htk] at h9
        injection h9 with e1 e2
        exact ⟨by rw [e1, e2]; rfl, HBF.out⟩
      | true =>
        cases bh with
        | false =>
          go_wp2_with (first
            | (go_at_call_of 60 (Value.int .i64 lw); refine Calls.mono (HI0'.out _ _ (by simp) (RS.new1 (by simp))) ?_; rintro e w7 ⟨rfl, hb7⟩; have y0 := keepA hb7 x0; have y1 := keepA hb7 x1; have ly := World.block_lt_of_cell? _ _ y0; have HB7 := Lib.hid ((HB6.out.alloc HB6.out.size _).trans (hb7.mono (by simp; have := HB6.out.size; omega))); clear hb7 x0 x1 lx)
            | (go_at_call_of 60 (Value.int .i64 hw); refine Calls.mono (HI1'.out _ _ (by simp) (RS.new1 (by simp))) ?_; rintro e w8 ⟨rfl, hb8⟩; have HB8 := Lib.hid ((HB7.out.alloc HB7.out.size _).trans (hb8.mono (by simp; have := HB7.out.size; omega))); clear hb8))
          have HBF := Lib.hid (HB2.out.trans (HB8.out.mono HB2.out.size))
          go_ret2
          have hp0 : P t = false := by rw [HKPT.out]; rfl
          have h9 := HR9.out
          rw [HST.out, HS1.out, stF_stop hp0, if_pos htk] at h9
          injection h9 with e1 e2
          exact ⟨by rw [e1, e2]; rfl, HBF.out⟩
        | true =>
          go_wp2_with (first
            | (go_at_call_of 60 (Value.int .i64 lw); refine Calls.mono (HI0'.out _ _ (by simp) (RS.new1 (by simp))) ?_; rintro e w7 ⟨rfl, hb7⟩; have y0 := keepA hb7 x0; have y1 := keepA hb7 x1; have ly := World.block_lt_of_cell? _ _ y0; have HB7 := Lib.hid ((HB6.out.alloc HB6.out.size _).trans (hb7.mono (by simp; have := HB6.out.size; omega))); clear hb7 x0 x1 lx)
            | (go_at_call_of 60 (Value.int .i64 hw); refine Calls.mono (HI1'.out _ _ (by simp) (RS.new1 (by simp))) ?_; rintro e w8 ⟨rfl, hb8⟩; have HB8 := Lib.hid ((HB7.out.alloc HB7.out.size _).trans (hb8.mono (by simp; have := HB7.out.size; omega))); clear hb8))
          go_roundw
          case rel =>
            have hp1 : P t = true := by rw [HKPT.out]; rfl
            exact ⟨t + 1, by omega, by go_num, by rw [HST.out, HS1.out, stF_step hp1, show k + 1 - (t + 1) = k - t by omega], HB8.out⟩
          case measure => simp [intOf] <;> omega
    · obtain rfl : t = k + 1 := by omega
      have h9 := HR9.out
      rw [HST.out, Nat.sub_self, show stF P (k + 1) 0 = k + 1 from rfl, if_neg (by omega)] at h9
      have HF9 := Lib.hid h9
      clear h9 hlt
      go_wp2
      go_ret2
      exact ⟨by have e9 := HF9.out; injection e9 with e1 e2; rw [e1, e2]; rfl, HBB.out⟩
end Go.Proofs.Ytnnmmojlgikdgaa

/- The sets that a call allows. -/
namespace Go.Proofs.Ytnnmmojlgikdgaa
open Go.RowKit

/-- The boxes of 'allow'. -/
structure AW (N D d gl gh : Int) (w W : World) : Prop where
  s : W.heap[w.heap.size]? = some (.cells #[.int .i64 N, .int .i64 D, .int .i64 d] 23 (0, 0))
  g : W.heap[w.heap.size + 1]? = some (.cells #[.int .i64 gl, .int .i64 gh] 27 (0, 0))
  r : W.heap[w.heap.size + 1 + 1]? = some (.cells #[.int .i64 0, .int .i64 0, .int .i64 0, .slice none 0 0] 101 (0, 0))
  b : Below w.heap.size w W
section
variable {N D d gl gh : Int} {w W W' : World}
theorem AW.next (h : AW N D d gl gh w W) (hb : Below W.heap.size W W') : AW N D d gl gh w W' :=
  ⟨(hb.block _ (lt_of_block h.s)).trans h.s, (hb.block _ (lt_of_block h.g)).trans h.g, (hb.block _ (lt_of_block h.r)).trans h.r, h.b.trans (hb.mono h.b.size)⟩
theorem AW.alloc (h : AW N D d gl gh w W) (o : Obj) : AW N D d gl gh w (W.alloc o) := h.next ((Below.refl _ _).alloc (Nat.le_refl _) _)
theorem AW.start : AW N D d gl gh w (((w.alloc (.cells #[.int .i64 N, .int .i64 D, .int .i64 d] 23)).alloc (.cells #[.int .i64 gl, .int .i64 gh] 27)).alloc (.cells #[.int .i64 0, .int .i64 0, .int .i64 0, .slice none 0 0] 101)) :=
  ⟨blk_old _ (blk_old _ (blk_new _ _ _ rfl)), blk_old _ (blk_new _ _ _ (by simp)), blk_new _ _ _ (by simp), by go_grown⟩
theorem AW.put (h : AW N D d gl gh w W) (a b c : Int) (v : Value) : ((((W.setCell ⟨w.heap.size + 1 + 1, 0, none⟩ (.int .i64 a)).setCell ⟨w.heap.size + 1 + 1, 1, none⟩ (.int .i64 b)).setCell ⟨w.heap.size + 1 + 1, 2, none⟩ (.int .i64 c)).setCell ⟨w.heap.size + 1 + 1, 3, none⟩ v).heap[w.heap.size + 1 + 1]? = some (.cells #[.int .i64 a, .int .i64 b, .int .i64 c, v] 101 (0, 0)) :=
  (block_setCell _ (block_setCell _ (block_setCell _ (block_setCell _ h.r)))).trans (by rfl)
theorem AW.putB (h : AW N D d gl gh w W) (a b c : Int) (v : Value) : Below w.heap.size w ((((W.setCell ⟨w.heap.size + 1 + 1, 0, none⟩ (.int .i64 a)).setCell ⟨w.heap.size + 1 + 1, 1, none⟩ (.int .i64 b)).setCell ⟨w.heap.size + 1 + 1, 2, none⟩ (.int .i64 c)).setCell ⟨w.heap.size + 1 + 1, 3, none⟩ v) :=
  (((h.b.setCell (p := ⟨w.heap.size + 1 + 1, 0, none⟩) (show w.heap.size ≤ w.heap.size + 1 + 1 by omega) _).setCell (p := ⟨w.heap.size + 1 + 1, 1, none⟩) (show w.heap.size ≤ w.heap.size + 1 + 1 by omega) _).setCell (p := ⟨w.heap.size + 1 + 1, 2, none⟩) (show w.heap.size ≤ w.heap.size + 1 + 1 by omega) _).setCell (p := ⟨w.heap.size + 1 + 1, 3, none⟩) (show w.heap.size ≤ w.heap.size + 1 + 1 by omega) _
end
/-- The numbers of sets are those of starts and gusts. -/
def saB (b : List (Int × Int)) (gl gh nn : Int) : Bool := (decide (b.length = 2) && wB (-100) 100 [gl, gh] && decide (0 ≤ nn ∧ nn ≤ 16)) && b.all fun s => wB (-1000) 1000 [s.1, s.2]
def alE (N D d : Int) (b : List (Int × Int)) (gl gh nn : Int) (l : List (Int × Int)) : Int :=
  if slB N D d then (if (chkB b && vS (gl, gh)) && l.all vS then (if saB b gl gh nn then 0 else 1) else 10) else 70

set_option maxRecDepth 100000 in
set_option maxHeartbeats 2000000 in
theorem allow_bad1 (N D d gl gh nn : Int) (Ab Al : Option Addr) (nb cb nl cl B : Nat) (b l : List (Int × Int)) (w : World) (hb : b.length = nb) (hnb : nb ≤ maxLen) (hl : l.length = nl) (hnl : nl ≤ maxLen) (hB : B ≤ w.heap.size) (hrb : RS w B Ab b) (hrl : RS w B Al l) (E : Int) (hE : alE N D d b gl gh nn l = E) (h : E = 70 ∨ E = 10) :
    Calls Try.prog 63 #[.agg #[.int .i64 N, .int .i64 D, .int .i64 d], .slice Ab nb cb, .agg #[.int .i64 gl, .int .i64 gh], .int .i64 nn, .slice Al nl cl] w fun e w' => e = .returned (.tuple #[.agg #[.int .i64 0, .int .i64 0, .int .i64 0, .slice none 0 0], .int .i64 E]) ∧ Below w.heap.size w w' := by
  have HA0 := Lib.hid (AW.start (N := N) (D := D) (d := d) (gl := gl) (gh := gh) (w := w))
  have HC := Lib.hid (fun W => slcheck_any N D d W)
  have HCB := Lib.hid (fun (W : World) (hW : Below w.heap.size w W) => check_any Ab nb cb w.heap.size b W hb hnb hW.size ((hrb.more hB).below hW))
  have HSG := Lib.hid (fun (W : World) (g : Nat) (hg : g < W.heap.size) (hr : RS W (g + 1) (some ⟨g, 0, none⟩) [(gl, gh)]) => checkSpans_any (some ⟨g, 0, none⟩) 1 1 (g + 1) [(gl, gh)] W rfl (le_maxLen (by omega)) hg hr)
  simp only [List.all_cons, List.all_nil, Bool.and_true] at HSG
  have HSL := Lib.hid (fun (W : World) (hW : Below w.heap.size w W) => checkSpans_any Al nl cl w.heap.size l W hl hnl hW.size ((hrl.more hB).below hW))
  cases hs : slB N D d with
  | false =>
    obtain rfl : E = 70 := by rw [← hE]; unfold alE; rw [hs]; rfl
    rw [slE_no hs] at HC
    clear hE h hs hrb hrl hb hl
    go_enter Try.func63, Try.ntmps63
    go_upto_region 1 with (fail)
    generalize World.alloc _ _ = w1 at *
    have s0 := cellOf (o := 0) HA0.out.s rfl
    have s1 := cellOf (o := 1) HA0.out.s rfl
    have s2 := cellOf (o := 2) HA0.out.s rfl
    have g0 := cellOf (o := 0) HA0.out.g rfl
    have g1 := cellOf (o := 1) HA0.out.g rfl
    have l0 := lt_of_block HA0.out.s
    have l1 := lt_of_block HA0.out.g
    have l2 := lt_of_block HA0.out.r
    go_upto_region 2 with (go_at_call 15; refine Calls.mono (HC.out _) ?_; rintro e w2 ⟨rfl, hb2⟩; have HA2 := Lib.hid (HA0.out.next hb2); clear hb2 s0 s1 s2 g0 g1 l0 l1 l2)
    have r0 := cellOf (o := 0) HA2.out.r rfl
    have f0 := freeOf (o := 0) HA2.out.r
    have r1 := cellOf (o := 1) HA2.out.r rfl
    have f1 := freeOf (o := 1) HA2.out.r
    have r2 := cellOf (o := 2) HA2.out.r rfl
    have f2 := freeOf (o := 2) HA2.out.r
    have r3 := cellOf (o := 3) HA2.out.r rfl
    have f3 := freeOf (o := 3) HA2.out.r
    have l2 := lt_of_block HA2.out.r
    go_wp2
    have hp9 := HA2.out.put 0 0 0 (.slice none 0 0)
    have hq9 := HA2.out.putB 0 0 0 (.slice none 0 0)
    clear r0 r1 r2 r3 f0 f1 f2 f3 l2
    generalize (((World.setCell w2 _ _).setCell _ _).setCell _ _).setCell _ _ = w9 at *
    have d0 := cellOf (o := 0) hp9 rfl
    have d1' := cellOf (o := 1) hp9 rfl
    have d2' := cellOf (o := 2) hp9 rfl
    have d3 := cellOf (o := 3) hp9 rfl
    exact bodyPost_ret (v := .tuple #[.agg #[.int .i64 0, .int .i64 0, .int .i64 0, .slice none 0 0], .int .i64 70]) (by simp [results, Try.results63, go_sem, d0, d1', d2', d3]) rfl ⟨rfl, hq9⟩
  | true =>
    rw [slE_yes hs] at HC
    cases hc : chkB b with
    | false =>
      obtain rfl : E = 10 := by rw [← hE]; unfold alE; rw [hs, hc]; rfl
      rw [chkE_no hc] at HCB
      clear hE h hs hc hrb hrl hb hl
      go_enter Try.func63, Try.ntmps63
      go_upto_region 1 with (fail)
      generalize World.alloc _ _ = w1 at *
      have s0 := cellOf (o := 0) HA0.out.s rfl
      have s1 := cellOf (o := 1) HA0.out.s rfl
      have s2 := cellOf (o := 2) HA0.out.s rfl
      have g0 := cellOf (o := 0) HA0.out.g rfl
      have g1 := cellOf (o := 1) HA0.out.g rfl
      have l0 := lt_of_block HA0.out.s
      have l1 := lt_of_block HA0.out.g
      have l2 := lt_of_block HA0.out.r
      go_upto_region 2 with (go_at_call 15; refine Calls.mono (HC.out _) ?_; rintro e w2 ⟨rfl, hb2⟩; have HA2 := Lib.hid (HA0.out.next hb2); clear hb2 s0 s1 s2 g0 g1 l0 l1 l2)
      go_upto_region 5 with (go_at_call 97; refine Calls.mono (HCB.out _ HA2.out.b) ?_; rintro e w3 ⟨rfl, hb3⟩; have HA3 := Lib.hid (HA2.out.next hb3); clear hb3; have g0 := cellOf (o := 0) HA3.out.g rfl; have g1 := cellOf (o := 1) HA3.out.g rfl; have l1 := lt_of_block HA3.out.g)
      clear g0 g1 l1
      have r0 := cellOf (o := 0) HA3.out.r rfl
      have f0 := freeOf (o := 0) HA3.out.r
      have r1 := cellOf (o := 1) HA3.out.r rfl
      have f1 := freeOf (o := 1) HA3.out.r
      have r2 := cellOf (o := 2) HA3.out.r rfl
      have f2 := freeOf (o := 2) HA3.out.r
      have r3 := cellOf (o := 3) HA3.out.r rfl
      have f3 := freeOf (o := 3) HA3.out.r
      have l2 := lt_of_block HA3.out.r
      go_wp2
      have hp9 := HA3.out.put 0 0 0 (.slice none 0 0)
      have hq9 := HA3.out.putB 0 0 0 (.slice none 0 0)
      clear r0 r1 r2 r3 f0 f1 f2 f3 l2
      generalize (((World.setCell w3 _ _).setCell _ _).setCell _ _).setCell _ _ = w9 at *
      have d0 := cellOf (o := 0) hp9 rfl
      have d1' := cellOf (o := 1) hp9 rfl
      have d2' := cellOf (o := 2) hp9 rfl
      have d3 := cellOf (o := 3) hp9 rfl
      exact bodyPost_ret (v := .tuple #[.agg #[.int .i64 0, .int .i64 0, .int .i64 0, .slice none 0 0], .int .i64 10]) (by simp [results, Try.results63, go_sem, d0, d1', d2', d3]) rfl ⟨rfl, hq9⟩
    | true =>
      rw [chkE_yes hc] at HCB
      cases hv : vS (gl, gh) with
      | false =>
        obtain rfl : E = 10 := by rw [← hE]; unfold alE; rw [hs, hc, hv]; rfl
        rw [hv] at HSG
        clear hE h hs hc hv hrb hrl hb hl
        go_enter Try.func63, Try.ntmps63
        go_upto_region 1 with (fail)
        generalize World.alloc _ _ = w1 at *
        have s0 := cellOf (o := 0) HA0.out.s rfl
        have s1 := cellOf (o := 1) HA0.out.s rfl
        have s2 := cellOf (o := 2) HA0.out.s rfl
        have g0 := cellOf (o := 0) HA0.out.g rfl
        have g1 := cellOf (o := 1) HA0.out.g rfl
        have l0 := lt_of_block HA0.out.s
        have l1 := lt_of_block HA0.out.g
        have l2 := lt_of_block HA0.out.r
        go_upto_region 2 with (go_at_call 15; refine Calls.mono (HC.out _) ?_; rintro e w2 ⟨rfl, hb2⟩; have HA2 := Lib.hid (HA0.out.next hb2); clear hb2 s0 s1 s2 g0 g1 l0 l1 l2)
        go_upto_region 5 with (first
          | (go_at_call 97; refine Calls.mono (HCB.out _ HA2.out.b) ?_; rintro e w3 ⟨rfl, hb3⟩; have HA3 := Lib.hid (HA2.out.next hb3); clear hb3; have g0 := cellOf (o := 0) HA3.out.g rfl; have g1 := cellOf (o := 1) HA3.out.g rfl; have l1 := lt_of_block HA3.out.g)
          | (go_at_call 59; refine Calls.mono (HSG.out _ _ (by simp) (RS.new1 (by simp))) ?_; rintro e w4 ⟨rfl, hb4⟩; have HA4 := Lib.hid ((HA3.out.alloc _).next hb4); clear hb4 g0 g1 l1))
        have r0 := cellOf (o := 0) HA4.out.r rfl
        have f0 := freeOf (o := 0) HA4.out.r
        have r1 := cellOf (o := 1) HA4.out.r rfl
        have f1 := freeOf (o := 1) HA4.out.r
        have r2 := cellOf (o := 2) HA4.out.r rfl
        have f2 := freeOf (o := 2) HA4.out.r
        have r3 := cellOf (o := 3) HA4.out.r rfl
        have f3 := freeOf (o := 3) HA4.out.r
        have l2 := lt_of_block HA4.out.r
        go_wp2
        have hp9 := HA4.out.put 0 0 0 (.slice none 0 0)
        have hq9 := HA4.out.putB 0 0 0 (.slice none 0 0)
        clear r0 r1 r2 r3 f0 f1 f2 f3 l2
        generalize (((World.setCell w4 _ _).setCell _ _).setCell _ _).setCell _ _ = w9 at *
        have d0 := cellOf (o := 0) hp9 rfl
        have d1' := cellOf (o := 1) hp9 rfl
        have d2' := cellOf (o := 2) hp9 rfl
        have d3 := cellOf (o := 3) hp9 rfl
        exact bodyPost_ret (v := .tuple #[.agg #[.int .i64 0, .int .i64 0, .int .i64 0, .slice none 0 0], .int .i64 10]) (by simp [results, Try.results63, go_sem, d0, d1', d2', d3]) rfl ⟨rfl, hq9⟩
      | true =>
        rw [hv] at HSG
        cases hll : l.all vS with
        | false =>
          obtain rfl : E = 10 := by rw [← hE]; unfold alE; rw [hs, hc, hv, hll]; rfl
          rw [hll] at HSL
          clear hE h hs hc hv hll hrb hrl hb hl
          go_enter Try.func63, Try.ntmps63
          go_upto_region 1 with (fail)
          generalize World.alloc _ _ = w1 at *
          have s0 := cellOf (o := 0) HA0.out.s rfl
          have s1 := cellOf (o := 1) HA0.out.s rfl
          have s2 := cellOf (o := 2) HA0.out.s rfl
          have g0 := cellOf (o := 0) HA0.out.g rfl
          have g1 := cellOf (o := 1) HA0.out.g rfl
          have l0 := lt_of_block HA0.out.s
          have l1 := lt_of_block HA0.out.g
          have l2 := lt_of_block HA0.out.r
          go_upto_region 2 with (go_at_call 15; refine Calls.mono (HC.out _) ?_; rintro e w2 ⟨rfl, hb2⟩; have HA2 := Lib.hid (HA0.out.next hb2); clear hb2 s0 s1 s2 g0 g1 l0 l1 l2)
          go_upto_region 5 with (first
            | (go_at_call 97; refine Calls.mono (HCB.out _ HA2.out.b) ?_; rintro e w3 ⟨rfl, hb3⟩; have HA3 := Lib.hid (HA2.out.next hb3); clear hb3; have g0 := cellOf (o := 0) HA3.out.g rfl; have g1 := cellOf (o := 1) HA3.out.g rfl; have l1 := lt_of_block HA3.out.g)
            | (go_at_call_of 59 (Value.slice Al nl cl); refine Calls.mono (HSL.out _ HA4.out.b) ?_; rintro e w5 ⟨rfl, hb5⟩; have HA5 := Lib.hid (HA4.out.next hb5); clear hb5)
            | (go_at_call 59; refine Calls.mono (HSG.out _ _ (by simp) (RS.new1 (by simp))) ?_; rintro e w4 ⟨rfl, hb4⟩; have HA4 := Lib.hid ((HA3.out.alloc _).next hb4); clear hb4 g0 g1 l1))
          have r0 := cellOf (o := 0) HA5.out.r rfl
          have f0 := freeOf (o := 0) HA5.out.r
          have r1 := cellOf (o := 1) HA5.out.r rfl
          have f1 := freeOf (o := 1) HA5.out.r
          have r2 := cellOf (o := 2) HA5.out.r rfl
          have f2 := freeOf (o := 2) HA5.out.r
          have r3 := cellOf (o := 3) HA5.out.r rfl
          have f3 := freeOf (o := 3) HA5.out.r
          have l2 := lt_of_block HA5.out.r
          go_wp2
          have hp9 := HA5.out.put 0 0 0 (.slice none 0 0)
          have hq9 := HA5.out.putB 0 0 0 (.slice none 0 0)
          clear r0 r1 r2 r3 f0 f1 f2 f3 l2
          generalize (((World.setCell w5 _ _).setCell _ _).setCell _ _).setCell _ _ = w9 at *
          have d0 := cellOf (o := 0) hp9 rfl
          have d1' := cellOf (o := 1) hp9 rfl
          have d2' := cellOf (o := 2) hp9 rfl
          have d3 := cellOf (o := 3) hp9 rfl
          exact bodyPost_ret (v := .tuple #[.agg #[.int .i64 0, .int .i64 0, .int .i64 0, .slice none 0 0], .int .i64 10]) (by simp [results, Try.results63, go_sem, d0, d1', d2', d3]) rfl ⟨rfl, hq9⟩
        | true =>
          exfalso
          unfold alE at hE
          rw [hs, hc, hv, hll] at hE
          simp only [Bool.and_true, if_true] at hE
          split at hE <;> omega
end Go.Proofs.Ytnnmmojlgikdgaa

/- Measure of both sides. -/
import Derived.Test.YtliocbjmledfbaaHRes
namespace Go.Proofs.Ytliocbjmledfbaa
open Go.RowKit

def LB (W : World) (g : Nat) (a b c d : Int) : Prop := W.heap[g]? = some (.cells #[.int .i64 a, .int .i64 b, .int .i64 c, .int .i64 d] 35 (0, 0))
section
variable {W W' : World} {g : Nat} {a b c d : Int}
theorem LB.lt (h : LB W g a b c d) : g < W.heap.size := lt_of_block h
theorem LB.stay (h : LB W g a b c d) (hb : Below W.heap.size W W') : LB W' g a b c d := (hb.block g h.lt).trans h
theorem LB.low {B : Nat} (h : LB W g a b c d) (hb : Below B W W') (hB : g < B) : LB W' g a b c d := (hb.block g hB).trans h
theorem LB.c0 (h : LB W g a b c d) : W.cell? ⟨g, 0, none⟩ = some (.int .i64 a) := cellOf h rfl
theorem LB.c1 (h : LB W g a b c d) : W.cell? ⟨g, 1, none⟩ = some (.int .i64 b) := cellOf h rfl
theorem LB.c2 (h : LB W g a b c d) : W.cell? ⟨g, 2, none⟩ = some (.int .i64 c) := cellOf h rfl
theorem LB.c3 (h : LB W g a b c d) : W.cell? ⟨g, 3, none⟩ = some (.int .i64 d) := cellOf h rfl
theorem LB.free (h : LB W g a b c d) (k : Nat) : W.frozen? ⟨g, k, none⟩ = false := freeOf h
theorem LB.set0 (h : LB W g a b c d) (x : Int) : LB (W.setCell ⟨g, 0, none⟩ (.int .i64 x)) g x b c d := by
  unfold LB
  rw [block_setCell _ h]
  rfl
theorem LB.set1 (h : LB W g a b c d) (x : Int) : LB (W.setCell ⟨g, 1, none⟩ (.int .i64 x)) g a x c d := by
  unfold LB
  rw [block_setCell _ h]
  rfl
theorem LB.set2 (h : LB W g a b c d) (x : Int) : LB (W.setCell ⟨g, 2, none⟩ (.int .i64 x)) g a b x d := by
  unfold LB
  rw [block_setCell _ h]
  rfl
theorem LB.set3 (h : LB W g a b c d) (x : Int) : LB (W.setCell ⟨g, 3, none⟩ (.int .i64 x)) g a b c x := by
  unfold LB
  rw [block_setCell _ h]
  rfl
theorem LB.put (h : LB W g a b c d) (x y z u : Int) : LB ((((W.setCell ⟨g, 0, none⟩ (.int .i64 x)).setCell ⟨g, 1, none⟩ (.int .i64 y)).setCell ⟨g, 2, none⟩ (.int .i64 z)).setCell ⟨g, 3, none⟩ (.int .i64 u)) g x y z u :=
  (((h.set0 x).set1 y).set2 z).set3 u
theorem put_below {B : Nat} {w : World} (h : Below B w W) (hg : B ≤ g) (x y z u : Value) : Below B w ((((W.setCell ⟨g, 0, none⟩ x).setCell ⟨g, 1, none⟩ y).setCell ⟨g, 2, none⟩ z).setCell ⟨g, 3, none⟩ u) :=
  (((h.setCell (p := ⟨g, 0, none⟩) hg x).setCell (p := ⟨g, 1, none⟩) hg y).setCell (p := ⟨g, 2, none⟩) hg z).setCell (p := ⟨g, 3, none⟩) hg u
theorem LB.new (W : World) (a b c d : Int) : LB (W.alloc (.cells #[.int .i64 a, .int .i64 b, .int .i64 c, .int .i64 d] 35)) W.heap.size a b c d := by
  unfold LB
  show (W.heap.push _)[W.heap.size]? = _
  rw [Array.getElem?_push, if_pos rfl]
theorem LB.made (W : World) : LB (W.alloc (.cells #[.int .i64 0, .int .i64 0, .int .i64 0, .int .i64 0] 35)) W.heap.size 0 0 0 0 := by
  unfold LB
  show (W.heap.push _)[W.heap.size]? = _
  rw [Array.getElem?_push, if_pos rfl]
end
def meV (l : Lv) : Value := .tuple #[.agg #[.int .i64 l.en, .int .i64 l.pk, .int .i64 l.su, .int .i64 l.dn], .int .i64 l.er]
def GivesMe (w : World) (l : Lv) (e : Ending) (w' : World) : Prop := e = .returned (meV l) ∧ Below w.heap.size w w'
theorem meaN_no {L : List Int} {den t : Int} (h : ¬ (teB L t = true ∧ 1 ≤ den ∧ den ≤ 1000000)) : meaN L den t = ⟨0, 0, 0, 0, 1⟩ := by
  unfold meaN
  rw [if_neg]
  simpa using h
theorem meaN_yes {L : List Int} {den t : Int} (h : teB L t = true) (h2 : 1 ≤ den ∧ den ≤ 1000000) : meaN L den t = ⟨enN (resN L t).1 L.length, pkN (resN L t).1 L.length, suN (resN L t).1 L.length, den * t, 0⟩ := by
  unfold meaN
  rw [if_pos]
  simp [h, h2]

theorem lv_step {R : List Int} {k n : Nat} (hR : ∀ j, -48000000 ≤ atL R j ∧ atL R j ≤ 48000000) (hk : k < n) (hn : n ≤ 24) :
    IntKind.i64.wrap (atL R k * atL R k) = atL R k * atL R k ∧ IntKind.i64.wrap (enN R k + atL R k * atL R k) = enN R (k + 1) ∧ max (pkN R k) (absZ (atL R k)) = pkN R (k + 1) ∧ IntKind.i64.wrap (suN R k + absZ (atL R k)) = suN R (k + 1) := by
  have a := (lv_bd (M := 48000000) (by omega) hR (k + 1))
  have e1 : enN R (k + 1) = enN R k + atL R k * atL R k := rfl
  have e2 : suN R (k + 1) = suN R k + absZ (atL R k) := rfl
  have b := sq_bd (hR k)
  refine ⟨IntWalk.i64_in _ (by omega), ?_, rfl, ?_⟩
  · rw [← e1]; exact IntWalk.i64_in _ (by omega)
  · rw [← e2]; exact IntWalk.i64_in _ (by omega)

theorem abs_still (a : Int) (w : World) (h1 : -4611686018427387904 ≤ a) (h2 : a ≤ 4611686018427387904) :
    Calls Try.prog 61 #[.int .i64 a] w (fun e w' => e = .returned (.int .i64 (absZ a)) ∧ w' = w) :=
  (abs_any a w h1 h2).mono fun _ _ h => ⟨h.1, h.2.symm⟩

set_option maxRecDepth 100000 in
set_option maxHeartbeats 1000000 in
theorem measure_any (A : Option Addr) (n c B : Nat) (L : List Int) (den t : Int) (w : World) (hl : L.length = n) (hn : n ≤ maxLen) (hB : B ≤ w.heap.size) (h : RI w B A L) :
    Calls Try.prog 27 #[.slice A n c, .int .i64 den, .int .i64 t] w (GivesMe w (meaN L den t)) := by
  have HC := Lib.hid (fun W (hW : Below w.heap.size w W) => residual_any A n c B L t W hl hn (by have := hW.size; omega) (h.below (hW.mono hB)))
  cases ht : teB L t with
  | false =>
    rw [resN_no ht] at HC
    rw [meaN_no (by simp [ht])]
    clear ht h
    go_enter Try.func27, Try.ntmps27
    go_wp2_with (go_at_call 25; refine Calls.mono (HC.out _ (by go_grown)) ?_; rintro e w1 ⟨v, rfl, hv, hb1⟩; have hb6 := (LB.made w).stay hb1; have hlt := hb6.lt; have c0 := hb6.c0; have c1 := hb6.c1; have c2 := hb6.c2; have c3 := hb6.c3; have f0 := hb6.free 0; have f1 := hb6.free 1; have f2 := hb6.free 2; have f3 := hb6.free 3; have HB := Lib.hid (And.intro hb1 hb6); clear hb1 hb6 hv)
    have hp := HB.out.2.put 0 0 0 0
    have hq := put_below (g := w.heap.size) (Below.trans (by go_grown : Below w.heap.size w (w.alloc _)) (HB.out.1.mono (by simp))) (Nat.le_refl _) (.int .i64 0) (.int .i64 0) (.int .i64 0) (.int .i64 0)
    clear c0 c1 c2 c3 f0 f1 f2 f3 HB
    generalize (((w1.setCell _ _).setCell _ _).setCell _ _).setCell _ _ = w4 at *
    refine bodyPost_ret (v := .tuple #[.agg #[.int .i64 0, .int .i64 0, .int .i64 0, .int .i64 0], .int .i64 1]) (by simp [results, Try.results27, go_sem, hp.c0, hp.c1, hp.c2, hp.c3]) rfl ⟨rfl, hq⟩
  | true =>
    obtain ⟨tn, m, hT⟩ := TE.get ht
    rw [resN_yes ht hT] at HC
    by_cases hd : 1 ≤ den ∧ den ≤ 1000000
    · have HD := Lib.hid (show wB 1 1000000 [den] = true by rw [wB_1]; simp [hd])
      rw [meaN_yes ht hd, resN_yes ht hT]
      have hRb : ∀ j, -48000000 ≤ atL (reL L m t) j ∧ atL (reL L m t) j ≤ 48000000 := fun j => by
        by_cases hj : j < L.length
        · rw [reL_get hj]; exact re_bd hT j
        · have : atL (reL L m t) j = 0 := by unfold atL; rw [List.getElem?_eq_none (by rw [reL_len]; omega)]; rfl
          omega
      have HLN := Lib.hid (show (reL L m t).length = n by rw [reL_len]; exact hl)
      obtain ⟨d1, d2⟩ := hd
      have n2 := hT.n2
      rw [hl] at n2 ⊢
      have t1 := hT.t1
      have t2 := hT.t2
      have hte := hT.te
      have j0 : IntKind.i64.wrap (den * t) = den * t := by
        have a1 : den * t ≤ 1000000 * 24 := Int.mul_le_mul d2 (by omega) (by omega) (by omega)
        have a2 : 0 ≤ den * t := Int.mul_nonneg (by omega) (by omega)
        exact IntWalk.i64_in _ (by omega)
      clear ht h hT hl t1 t2 hte
      dsimp only
      generalize reL L m t = R at *
      have HRb := Lib.hid hRb
      clear hRb
      go_enter Try.func27, Try.ntmps27
      go_wp2_with (first
        | (go_at_call 25; refine Calls.mono (HC.out _ (by go_grown)) ?_; rintro e w1 ⟨v, rfl, hv, hb1⟩; obtain ⟨rA, rc, rfl, hrc, hri⟩ := hv.get; have HB := Lib.hid (And.intro hb1 hri); clear hb1 hv hri; rw [HLN.out])
        | (go_at_call 54; refine (within_any 1 1000000 _ 1 _ _ [den] _ rfl (le_maxLen (by omega)) (RI.new1 (by simp))).mono ?_; rintro e w2 ⟨rfl, hw2⟩; rw [HD.out]; have hbx := HB.out.1.alloc HB.out.1.size (.cells #[.int .i64 den] 3); rw [hw2] at hbx; have hri := (RI.below HB.out.2 (((Below.refl w1.heap.size w1).alloc (Nat.le_refl _) (.cells #[.int .i64 den] 3)))).more (by simp : w1.heap.size ≤ (w1.alloc (.cells #[.int .i64 den] 3)).heap.size); rw [hw2] at hri; have hb6 := (LB.made w).stay hbx; have hlt := hb6.lt; have c0 := hb6.c0; have c1 := hb6.c1; have c2 := hb6.c2; have c3 := hb6.c3; have f0 := hb6.free 0; have f1 := hb6.free 1; have f2 := hb6.free 2; have f3 := hb6.free 3; have HB := Lib.hid (And.intro (Below.trans (by go_grown : Below w.heap.size w (w.alloc _)) (hbx.mono (by simp))) (And.intro hb6 hri)); clear hbx hb6 hri hw2))
      have hg0 := LB.new w2 0 0 0 (den * t)
      have hb0 := (Below.refl w2.heap.size w2).alloc (Nat.le_refl _) (.cells #[.int .i64 0, .int .i64 0, .int .i64 0, .int .i64 (den * t)] 35)
      have HB3 := Lib.hid (And.intro (HB.out.1.trans (hb0.mono (Nat.le_of_lt hlt))) (And.intro (HB.out.2.1.stay hb0) (RI.below HB.out.2.2 hb0)))
      have HG0 := Lib.hid hg0
      obtain ⟨g, hg⟩ : ∃ g, w2.heap.size = g := ⟨_, rfl⟩
      rw [hg] at HG0 HB3 hlt ⊢
      clear hg0 hb0 c0 c1 c2 c3 f0 f1 f2 f3 HB hg
      generalize w2.alloc _ = w3 at *
      generalize den * t = dt at *
      go_loopw [34] (fun i wr => ∃ k : Nat, k ≤ n ∧ i = .int .i64 k ∧ LB wr g (enN R k) (pkN R k) (suN R k) dt ∧ Below g w3 wr) (fun i _ => n - (intOf i).toNat)
      case atStart => exact ⟨0, Nat.zero_le _, rfl, HG0.out, Below.refl _ _⟩
      case round =>
        obtain ⟨k, hk, rfl, hg, hbw⟩ := hrel
        by_cases hlt2 : k < n
        · have hx0 := HB3.out.2.2.below hbw
          obtain ⟨b, off, x, rfl, hb, hx, hc⟩ := hx0.at_ (k := k) (by rw [HLN.out]; exact hlt2)
          have hat : atL R k = x := by simp [atL, hx]
          obtain ⟨j1, j2, j3, j4⟩ := lv_step HRb.out hlt2 n2
          have hRk := HRb.out k
          rw [hat] at j1 j2 j3 j4 hRk
          have hgb : g < wr.heap.size := hg.lt
          have c0 := hg.c0
          have f0 := hg.free 0
          have HS := Lib.hid (And.intro (hg.set0 (enN R (k + 1))) (hbw.setCell (p := ⟨g, 0, none⟩) (Nat.le_refl _) (.int .i64 (enN R (k + 1)))))
          clear hg hbw hx0 hx hat
          generalize hen : enN R (k + 1) = en1 at *
          generalize hpk : pkN R (k + 1) = pk1 at *
          generalize hsu : suN R (k + 1) = su1 at *
          have HE := Lib.hid (And.intro hen (And.intro hpk hsu))
          clear hen hpk hsu
          generalize enN R k = en0 at *
          generalize pkN R k = pk0 at *
          generalize suN R k = su0 at *
          go_upto_region 11 with fail
          generalize wr.setCell _ _ = wa at *
          have hga := HS.out.1
          have hgb := hga.lt
          have c1 := hga.c1
          have f1 := hga.free 1
          have HS2 := Lib.hid (And.intro (hga.set1 pk1) (HS.out.2.setCell (p := ⟨g, 1, none⟩) (Nat.le_refl _) (.int .i64 pk1)))
          clear hga
          refine region_tail 6 (by kernel_rfl) (by kernel_rfl) ?_
          simp only [List.take_succ_cons, List.take_zero, List.drop_succ_cons, List.drop_zero]
          still_step
          still_step
          still_step
          still_call (abs_still x _ (by omega) (by omega))
          still_step
          still_step
          refine wpStill_nil ?_
          go_upto_region 12 with fail
          have HS3 := Lib.hid (show LB (wa.setCell ⟨g, 1, none⟩ (.int .i64 pk1)).drew g en1 pk1 su0 dt ∧ Below g w3 (wa.setCell ⟨g, 1, none⟩ (.int .i64 pk1)).drew from ⟨HS2.out.1, HS2.out.2.drew⟩)
          clear c1 f1 HS2 hgb
          generalize (wa.setCell _ _).drew = wb at *
          have hga := HS3.out.1
          have hgb := hga.lt
          have c2 := hga.c2
          have f2 := hga.free 2
          have HS4 := Lib.hid (And.intro (hga.set2 su1) (HS3.out.2.setCell (p := ⟨g, 2, none⟩) (Nat.le_refl _) (.int .i64 su1)))
          clear hga
          refine region_tail 6 (by kernel_rfl) (by kernel_rfl) ?_
          simp only [List.take_succ_cons, List.take_zero, List.drop_succ_cons, List.drop_zero]
          still_step
          still_step
          still_step
          still_call (abs_still x _ (by omega) (by omega))
          still_step
          still_step
          refine wpStill_nil ?_
          go_wp2
          go_roundw
          case rel => exact ⟨k + 1, by omega, by go_num, by rw [HE.out.1, HE.out.2.1, HE.out.2.2]; exact HS4.out.1, HS4.out.2.drew⟩
          case measure => simp [intOf]; omega
        · obtain rfl : k = n := by omega
          have hgx := hg.lt
          have c0 := hg.c0
          have c1 := hg.c1
          have c2 := hg.c2
          have c3 := hg.c3
          have h6 := HB3.out.2.1.low hbw hlt
          have d0 := h6.c0
          have d1 := h6.c1
          have d2 := h6.c2
          have d3 := h6.c3
          have f0 := h6.free 0
          have f1 := h6.free 1
          have f2 := h6.free 2
          have f3 := h6.free 3
          have hp := Lib.hid (And.intro (h6.put (enN R k) (pkN R k) (suN R k) dt) (put_below (g := w.heap.size) (HB3.out.1.trans (hbw.mono (by omega))) (Nat.le_refl _) (.int .i64 (enN R k)) (.int .i64 (pkN R k)) (.int .i64 (suN R k)) (.int .i64 dt)))
          clear hg hbw h6
          go_wp2
          clear c0 c1 c2 c3 d0 d1 d2 d3 f0 f1 f2 f3
          generalize (((wr.setCell _ _).setCell _ _).setCell _ _).setCell _ _ = w4 at *
          refine bodyPost_ret (v := .tuple #[.agg #[.int .i64 (enN R k), .int .i64 (pkN R k), .int .i64 (suN R k), .int .i64 dt], .int .i64 0]) (by simp [results, Try.results27, go_sem, hp.out.1.c0, hp.out.1.c1, hp.out.1.c2, hp.out.1.c3]) rfl ⟨rfl, hp.out.2⟩
    · have HD := Lib.hid (show wB 1 1000000 [den] = false by rw [wB_1]; simp; omega)
      rw [meaN_no (by intro hx; exact hd hx.2)]
      clear ht h hd hT
      go_enter Try.func27, Try.ntmps27
      go_wp2_with (first
        | (go_at_call 25; refine Calls.mono (HC.out _ (by go_grown)) ?_; rintro e w1 ⟨v, rfl, hv, hb1⟩; obtain ⟨rA, rc, rfl, hrc, hri⟩ := hv.get; have HB := Lib.hid (And.intro hb1 hri); clear hb1 hv hri)
        | (go_at_call 54; refine (within_any 1 1000000 _ 1 _ _ [den] _ rfl (le_maxLen (by omega)) (RI.new1 (by simp))).mono ?_; rintro e w2 ⟨rfl, hw2⟩; rw [HD.out]; have hbx := HB.out.1.alloc HB.out.1.size (.cells #[.int .i64 den] 3); rw [hw2] at hbx; have hri := (RI.below HB.out.2 (((Below.refl w1.heap.size w1).alloc (Nat.le_refl _) (.cells #[.int .i64 den] 3)))).more (by simp : w1.heap.size ≤ (w1.alloc (.cells #[.int .i64 den] 3)).heap.size); rw [hw2] at hri; have hb6 := (LB.made w).stay hbx; have hlt := hb6.lt; have c0 := hb6.c0; have c1 := hb6.c1; have c2 := hb6.c2; have c3 := hb6.c3; have f0 := hb6.free 0; have f1 := hb6.free 1; have f2 := hb6.free 2; have f3 := hb6.free 3; have HB := Lib.hid (And.intro (Below.trans (by go_grown : Below w.heap.size w (w.alloc _)) (hbx.mono (by simp))) (And.intro hb6 hri)); clear hbx hb6 hri hw2))
      have hp := HB.out.2.1.put 0 0 0 0
      have hq := put_below (g := w.heap.size) HB.out.1 (Nat.le_refl _) (.int .i64 0) (.int .i64 0) (.int .i64 0) (.int .i64 0)
      clear c0 c1 c2 c3 f0 f1 f2 f3 HB
      generalize (((w2.setCell _ _).setCell _ _).setCell _ _).setCell _ _ = w4 at *
      refine bodyPost_ret (v := .tuple #[.agg #[.int .i64 0, .int .i64 0, .int .i64 0, .int .i64 0], .int .i64 1]) (by simp [results, Try.results27, go_sem, hp.c0, hp.c1, hp.c2, hp.c3]) rfl ⟨rfl, hq⟩

end Go.Proofs.Ytliocbjmledfbaa

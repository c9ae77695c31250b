/- Measure of the reference. -/
import Derived.Test.YtliocbjmledfbaaHMea
namespace Go.Proofs.Ytliocbjmledfbaa
open Go.RowKit

set_option maxRecDepth 100000 in
set_option maxHeartbeats 1000000 in
theorem rmeasure_any (A : Option Addr) (n c B : Nat) (L : List Int) (den t : Int) (w : World) (hl : L.length = n) (hn : n ≤ maxLen) (hB : B ≤ w.heap.size) (h : RI w B A L) :
    Calls Try.prog 28 #[.slice A n c, .int .i64 den, .int .i64 t] w (GivesMe w (meaN L den t)) := by
  have HC := Lib.hid (fun W (hW : Below w.heap.size w W) => rresidual_any A n c B L t W hl hn (by have := hW.size; omega) (h.below (hW.mono hB)))
  cases ht : teB L t with
  | false =>
    rw [resN_no ht] at HC
    rw [meaN_no (by simp [ht])]
    clear ht h
    go_enter Try.func28, Try.ntmps28
    go_wp2_with (go_at_call 26; refine Calls.mono (HC.out _ (by go_grown)) ?_; rintro e w1 ⟨v, rfl, hv, hb1⟩; have hb6 := (LB.made w).stay hb1; have hlt := hb6.lt; have c0 := hb6.c0; have c1 := hb6.c1; have c2 := hb6.c2; have c3 := hb6.c3; have f0 := hb6.free 0; have f1 := hb6.free 1; have f2 := hb6.free 2; have f3 := hb6.free 3; have HB := Lib.hid (And.intro hb1 hb6); clear hb1 hb6 hv)
    have hp := HB.out.2.put 0 0 0 0
    have hq := put_below (g := w.heap.size) (Below.trans (by go_grown : Below w.heap.size w (w.alloc _)) (HB.out.1.mono (by simp))) (Nat.le_refl _) (.int .i64 0) (.int .i64 0) (.int .i64 0) (.int .i64 0)
    clear c0 c1 c2 c3 f0 f1 f2 f3 HB
    generalize (((w1.setCell _ _).setCell _ _).setCell _ _).setCell _ _ = w4 at *
    refine bodyPost_ret (v := .tuple #[.agg #[.int .i64 0, .int .i64 0, .int .i64 0, .int .i64 0], .int .i64 1]) (by simp [results, Try.results28, go_sem, hp.c0, hp.c1, hp.c2, hp.c3]) rfl ⟨rfl, hq⟩
  | true =>
    obtain ⟨tn, m, hT⟩ := TE.get ht
    rw [resN_yes ht hT] at HC
    by_cases hd : 1 ≤ den ∧ den ≤ 1000000
    · have HD := Lib.hid (rwithin_yes hd.1 hd.2)
      rw [meaN_yes ht hd, resN_yes ht hT]
      have hRb : ∀ j, -48000000 ≤ atL (reL L m t) j ∧ atL (reL L m t) j ≤ 48000000 := fun j => by
        by_cases hj : j < L.length
        · rw [reL_get hj]; exact re_bd hT j
        · have : atL (reL L m t) j = 0 := by unfold atL; rw [List.getElem?_eq_none (by rw [reL_len]; omega)]; rfl
          omega
      have HLN := Lib.hid (show (reL L m t).length = n by rw [reL_len]; exact hl)
      obtain ⟨d1, d2⟩ := hd
      have n2 := hT.n2
      rw [hl] at n2 ⊢
      have t1 := hT.t1
      have t2 := hT.t2
      have hte := hT.te
      have j0 : IntKind.i64.wrap (den * t) = den * t := by
        have a1 : den * t ≤ 1000000 * 24 := Int.mul_le_mul d2 (by omega) (by omega) (by omega)
        have a2 : 0 ≤ den * t := Int.mul_nonneg (by omega) (by omega)
        exact IntWalk.i64_in _ (by omega)
      clear ht h hT hl t1 t2 hte
      dsimp only
      generalize reL L m t = R at *
      have HRb := Lib.hid hRb
      clear hRb
      go_enter Try.func28, Try.ntmps28
      go_wp2_with (first
        | (go_at_call 26; refine Calls.mono (HC.out _ (by go_grown)) ?_; rintro e w2 ⟨v, rfl, hv, hb1⟩; obtain ⟨rA, rc, rfl, hrc, hri⟩ := hv.get; have hb6 := (LB.made w).stay hb1; have hlt := hb6.lt; have HB := Lib.hid (And.intro (Below.trans (by go_grown : Below w.heap.size w (w.alloc _)) (hb1.mono (by simp))) (And.intro hb6 hri)); clear hb1 hb6 hv hri; rw [HLN.out])
        | (go_at_call 56; refine Calls.mono (HD.out _) ?_; rintro e w' ⟨rfl, rfl⟩))
      have hg0 := LB.new w2 0 0 0 (den * t)
      have hb0 := (Below.refl w2.heap.size w2).alloc (Nat.le_refl _) (.cells #[.int .i64 0, .int .i64 0, .int .i64 0, .int .i64 (den * t)] 35)
      have HB3 := Lib.hid (And.intro (HB.out.1.trans (hb0.mono (Nat.le_of_lt hlt))) (And.intro (HB.out.2.1.stay hb0) (RI.below HB.out.2.2 hb0)))
      have HG0 := Lib.hid hg0
      obtain ⟨g, hg⟩ : ∃ g, w2.heap.size = g := ⟨_, rfl⟩
      rw [hg] at HG0 HB3 hlt ⊢
      clear hg0 hb0 HB hg
      generalize w2.alloc _ = w3 at *
      generalize den * t = dt at *
      go_loopw [11] (fun i wr => ∃ k : Nat, k ≤ n ∧ i = .int .i64 k ∧ LB wr g (enN R k) (pkN R k) (suN R k) dt ∧ Below g w3 wr) (fun i _ => n - (intOf i).toNat)
      case atStart => exact ⟨0, Nat.zero_le _, rfl, HG0.out, Below.refl _ _⟩
      case round =>
        obtain ⟨k, hk, rfl, hg, hbw⟩ := hrel
        by_cases hlt2 : k < n
        · have hx0 := HB3.out.2.2.below hbw
          obtain ⟨b, off, x, rfl, hb, hx, hc⟩ := hx0.at_ (k := k) (by rw [HLN.out]; exact hlt2)
          have hat : atL R k = x := by simp [atL, hx]
          obtain ⟨j1, j2, j3, j4⟩ := lv_step HRb.out hlt2 n2
          have hRk := HRb.out k
          rw [hat] at j1 j2 j3 j4 hRk
          have hgb : g < wr.heap.size := hg.lt
          have c0 := hg.c0
          have c1 := hg.c1
          have c2 := hg.c2
          have f0 := hg.free 0
          have f1 := hg.free 1
          have f2 := hg.free 2
          have HS := Lib.hid (And.intro (((hg.set0 (enN R (k + 1))).set1 (pkN R (k + 1))).set2 (suN R (k + 1))) (((hbw.setCell (p := ⟨g, 0, none⟩) (Nat.le_refl _) (.int .i64 (enN R (k + 1)))).setCell (p := ⟨g, 1, none⟩) (Nat.le_refl _) (.int .i64 (pkN R (k + 1)))).setCell (p := ⟨g, 2, none⟩) (Nat.le_refl _) (.int .i64 (suN R (k + 1)))))
          clear hg hbw hx0 hx hat
          generalize hen : enN R (k + 1) = en1 at *
          generalize hpk : pkN R (k + 1) = pk1 at *
          generalize hsu : suN R (k + 1) = su1 at *
          have HE := Lib.hid (And.intro hen (And.intro hpk hsu))
          clear hen hpk hsu
          generalize enN R k = en0 at *
          generalize pkN R k = pk0 at *
          generalize suN R k = su0 at *
          have i7 : (k : Int) < n := by omega
          have i8 : 0 ≤ (k : Int) := by omega
          go_upto_region 8 with fail
          go_quiet (fail)
          have hsq : x * x = max x (-x) * max x (-x) := by
            rcases Int.le_total 0 x with h0 | h0
            · rw [Int.max_eq_left (by omega)]
            · rw [Int.max_eq_right (by omega), Int.neg_mul_neg]
          have hax : 0 ≤ max x (-x) ∧ max x (-x) ≤ 48000000 := by omega
          rw [show absZ x = max x (-x) from rfl] at j3 j4
          rw [hsq] at j1 j2
          clear hsq
          generalize max x (-x) = ax at *
          go_wp2
          go_roundw
          case rel => exact ⟨k + 1, by omega, by go_num, by rw [HE.out.1, HE.out.2.1, HE.out.2.2]; exact HS.out.1, below_drewN HS.out.2 _⟩
          case measure => simp [intOf]; omega
        · obtain rfl : k = n := by omega
          have hgx := hg.lt
          have c0 := hg.c0
          have c1 := hg.c1
          have c2 := hg.c2
          have c3 := hg.c3
          have h6 := HB3.out.2.1.low hbw hlt
          have d0 := h6.c0
          have d1 := h6.c1
          have d2 := h6.c2
          have d3 := h6.c3
          have f0 := h6.free 0
          have f1 := h6.free 1
          have f2 := h6.free 2
          have f3 := h6.free 3
          have hp := Lib.hid (And.intro (h6.put (enN R k) (pkN R k) (suN R k) dt) (put_below (g := w.heap.size) (HB3.out.1.trans (hbw.mono (by omega))) (Nat.le_refl _) (.int .i64 (enN R k)) (.int .i64 (pkN R k)) (.int .i64 (suN R k)) (.int .i64 dt)))
          clear hg hbw h6
          go_wp2
          clear c0 c1 c2 c3 d0 d1 d2 d3 f0 f1 f2 f3
          generalize (((wr.setCell _ _).setCell _ _).setCell _ _).setCell _ _ = w4 at *
          refine bodyPost_ret (v := .tuple #[.agg #[.int .i64 (enN R k), .int .i64 (pkN R k), .int .i64 (suN R k), .int .i64 dt], .int .i64 0]) (by simp [results, Try.results28, go_sem, hp.out.1.c0, hp.out.1.c1, hp.out.1.c2, hp.out.1.c3]) rfl ⟨rfl, hp.out.2⟩
    · have HD := Lib.hid (rwithin_no hd)
      rw [meaN_no (by intro hx; exact hd hx.2)]
      clear ht h hd hT
      go_enter Try.func28, Try.ntmps28
      go_wp2_with (first
        | (go_at_call 26; refine Calls.mono (HC.out _ (by go_grown)) ?_; rintro e w2 ⟨v, rfl, hv, hb1⟩; obtain ⟨rA, rc, rfl, hrc, hri⟩ := hv.get; have hb6 := (LB.made w).stay hb1; have hlt := hb6.lt; have c0 := hb6.c0; have c1 := hb6.c1; have c2 := hb6.c2; have c3 := hb6.c3; have f0 := hb6.free 0; have f1 := hb6.free 1; have f2 := hb6.free 2; have f3 := hb6.free 3; have HB := Lib.hid (And.intro (Below.trans (by go_grown : Below w.heap.size w (w.alloc _)) (hb1.mono (by simp))) (And.intro hb6 hri)); clear hb1 hb6 hv hri)
        | (go_at_call 56; refine Calls.mono (HD.out _) ?_; rintro e w' ⟨rfl, rfl⟩))
      have hp := HB.out.2.1.put 0 0 0 0
      have hq := put_below (g := w.heap.size) HB.out.1 (Nat.le_refl _) (.int .i64 0) (.int .i64 0) (.int .i64 0) (.int .i64 0)
      clear c0 c1 c2 c3 f0 f1 f2 f3 HB
      generalize (((w2.setCell _ _).setCell _ _).setCell _ _).setCell _ _ = w4 at *
      refine bodyPost_ret (v := .tuple #[.agg #[.int .i64 0, .int .i64 0, .int .i64 0, .int .i64 0], .int .i64 1]) (by simp [results, Try.results28, go_sem, hp.c0, hp.c1, hp.c2, hp.c3]) rfl ⟨rfl, hq⟩

end Go.Proofs.Ytliocbjmledfbaa

/- The law of the whole. -/
import Derived.Test.YtliocbjmledfbaaHAvgRow
import Derived.Test.YtliocbjmledfbaaHMea
import Derived.Test.YtliocbjmledfbaaHWh
namespace Go.Proofs.Ytliocbjmledfbaa
open Go.RowKit

set_option maxRecDepth 100000 in
set_option maxHeartbeats 2000000 in
theorem law_whole (wk : WK) (w : World) (A : Option Addr) (n c : Nat) (L : List Int) (hl : L.length = n) (hm : n ≤ maxLen ∧ n ≤ c) (hr : RI w w.heap.size A L) (t : Int) :
    Calls Try.prog 12 #[.slice A n c, .int .i64 t] w fun e w' => e = .returned (.bool true) ∧ Below w.heap.size w w' := by
  have HWK := Lib.hid wk
  have HR := Lib.hid (fun W (hW : Below w.heap.size w W) => residual_any A n c w.heap.size L t W hl hm.1 hW.size (hr.below hW))
  have HP := Lib.hid (fun W (hW : Below w.heap.size w W) => pattern_any A n c w.heap.size L t W hl hm.1 hW.size (hr.below hW))
  have HM := Lib.hid (fun W (hW : Below w.heap.size w W) => measure_any A n c w.heap.size L 1 t W hl hm.1 hW.size (hr.below hW))
  cases ht : teB L t with
  | false =>
    rw [resN_no ht] at HR
    rw [patN_no ht] at HP
    rw [meaN_no (by simp [ht])] at HM
    clear ht wk hr hl hm
    go_enter Try.func12, Try.ntmps12
    go_wp2_with (first
      | (go_at_call 25; refine Calls.mono (HR.out _ (Below.refl _ _)) ?_; rintro e w1 ⟨va, rfl, hq1, hb1⟩; have HX1 := Lib.hid hb1; clear hq1 hb1; dsimp only)
      | (go_at_call 23; refine Calls.mono (HP.out _ HX1.out) ?_; rintro e w2 ⟨vb, rfl, hq2, hb2⟩; have HX2 := Lib.hid (HX1.out.trans (hb2.mono HX1.out.size)); clear hq2 hb2; dsimp only)
      | (go_at_call 27; refine Calls.mono (HM.out _ HX2.out) ?_; rintro e w3 ⟨rfl, hb3⟩; have HX3 := Lib.hid ((HX2.out.trans (hb3.mono HX2.out.size)).alloc (by have := HX2.out.size; have := hb3.size; omega) (.cells #[.int .i64 0, .int .i64 0, .int .i64 0, .int .i64 0] 35)); clear hb3; dsimp only [meV])
      | (go_at_call 22; refine Calls.mono (HWK.out _) ?_; rintro e w9 ⟨rfl, hb9⟩; have HX9 := Lib.hid (HX3.out.trans (hb9.mono HX3.out.size)); clear hb9))
    go_ret
    exact ⟨rfl, HX9.out⟩
  | true =>
    obtain ⟨tn, m, hT⟩ := TE.get ht
    rw [resN_yes ht hT] at HR
    rw [patN_yes ht hT] at HP
    rw [meaN_yes ht (by omega), resN_yes ht hT] at HM
    obtain ⟨t1, t2, m1, m2, n2⟩ : _ ∧ _ ∧ _ ∧ _ ∧ _ := ⟨hT.t1, hT.t2, hT.m1, hT.m2, hT.n2⟩
    have HT := Lib.hid hT
    obtain ⟨te1, te2⟩ := te_bd hT
    have k2 : (((m : Nat) : Int) == 0) = false := by simp; omega
    have HRL := Lib.hid (show (reL L m t).length = n by rw [reL_len, hl])
    have HPL := Lib.hid (show (paL L m).length = m from paL_len L m)
    have HL := Lib.hid hl
    have HRb := Lib.hid (fun j => (by
      by_cases hj : j < L.length
      · rw [reL_get hj]; exact re_bd hT j
      · have : atL (reL L m t) j = 0 := by unfold atL; rw [List.getElem?_eq_none (by rw [reL_len]; omega)]; rfl
        omega : -48000000 ≤ atL (reL L m t) j ∧ atL (reL L m t) j ≤ 48000000))
    have hmt : (m : Int) * t = n := by rw [hT.te, ← hl, hT.n]; grind
    have j0 : IntKind.i64.wrap ((m : Int) * t) = (n : Int) := by rw [hmt]; exact IntWalk.i64_in _ (by omega)
    rw [hl] at n2
    clear ht wk hT hl hmt
    go_enter Try.func12, Try.ntmps12
    go_wp2_with (first
      | (go_at_call 25; refine Calls.mono (HR.out _ (Below.refl _ _)) ?_; rintro e w1 ⟨va, rfl, hq1, hb1⟩; obtain ⟨rA, rc, rfl, hrc, hri⟩ := hq1.get; have HX1 := Lib.hid (And.intro hb1 hri); clear hq1 hb1 hri; rw [HRL.out]; dsimp only)
      | (go_at_call 23; refine Calls.mono (HP.out _ HX1.out.1) ?_; rintro e w2 ⟨vb, rfl, hq2, hb2⟩; obtain ⟨pA, pc, rfl, hpc, hpi⟩ := hq2.get; have HX2 := Lib.hid (And.intro (HX1.out.1.trans (hb2.mono HX1.out.1.size)) (And.intro ((HX1.out.2.below hb2).more hb2.size) hpi)); clear hq2 hb2 hpi; rw [HPL.out]; dsimp only)
      | (go_at_call 27; refine Calls.mono (HM.out _ HX2.out.1) ?_; rintro e w3 ⟨rfl, hb3⟩; have HX3 := Lib.hid (And.intro (HX2.out.1.trans (hb3.mono HX2.out.1.size)) (And.intro ((HX2.out.2.1.below hb3).more hb3.size) ((HX2.out.2.2.below hb3).more hb3.size))); clear hb3; dsimp only [meV]))
    have HLV := Lib.hid (LB.new w3 (enN (reL L m t) L.length) (pkN (reL L m t) L.length) (suN (reL L m t) L.length) t)
    have hb4 := (Below.refl w3.heap.size w3).alloc (Nat.le_refl _) (.cells #[.int .i64 (enN (reL L m t) L.length), .int .i64 (pkN (reL L m t) L.length), .int .i64 (suN (reL L m t) L.length), .int .i64 t] 35)
    have HX4 := Lib.hid (And.intro (HX3.out.1.trans (hb4.mono HX3.out.1.size)) (And.intro ((HX3.out.2.1.below hb4).more hb4.size) ((HX3.out.2.2.below hb4).more hb4.size)))
    obtain ⟨g, hg⟩ : ∃ g, w3.heap.size = g := ⟨_, rfl⟩
    rw [hg] at HLV ⊢
    clear hb4 HX3 hg
    generalize w3.alloc _ = w4 at *
    go_loopw [12, 13, 14, 15, 16] (fun sq pp en al i wr => ∃ k : Nat, k ≤ n ∧ sq = .int .i64 (sqN L t k) ∧ pp = .int .i64 (ppN L m k) ∧ en = .int .i64 (enN (reL L m t) k) ∧ al = .bool (alN L m k) ∧ i = .int .i64 k ∧ Below w4.heap.size w4 wr) (fun _ _ _ _ i _ => n - (intOf i).toNat)
    case atStart => exact ⟨0, Nat.zero_le _, rfl, rfl, rfl, rfl, rfl, Below.refl _ _⟩
    case round =>
      obtain ⟨k, hk, rfl, rfl, rfl, rfl, rfl, hbw⟩ := hrel
      by_cases hlt : k < n
      · have hbx := HX4.out.1.trans (hbw.mono HX4.out.1.size)
        have hkm : k % m < m := Nat.mod_lt _ (by omega)
        have hmn : m ≤ n := by
          have := HT.out.n
          rw [HL.out] at this
          rw [this]
          exact Nat.le_mul_of_pos_left m t1
        obtain ⟨b, off, x, rfl, hb, hx, hc1⟩ := (hr.below hbx).at_ (k := k) (by rw [HL.out]; exact hlt)
        obtain ⟨b', off', y, eb, hb', hy, hc2⟩ := (hr.below hbx).at_ (k := k % m) (by rw [HL.out]; omega)
        obtain ⟨rfl, rfl⟩ : b = b' ∧ off = off' := by simpa using eb
        obtain ⟨pb, poff, p, rfl, hpb, hp, hc3⟩ := (HX4.out.2.2.below hbw).at_ (k := k % m) (by rw [HPL.out]; exact hkm)
        obtain ⟨rb, roff, r, rfl, hrb, hrr, hc4⟩ := (HX4.out.2.1.below hbw).at_ (k := k) (by rw [HRL.out]; exact hlt)
        rw [paL_get L m _ hkm] at hp
        have ep : paN L m (k % m) L.length = p := by simpa using hp
        have ex : atL L k = x := by simp [atL, hx]
        have ey : atL L (k % m) = y := by simp [atL, hy]
        have er : atL (reL L m t) k = r := by simp [atL, hrr]
        obtain ⟨a1, a2, a3, a4, a5, a6⟩ := wh_step HT.out (by rw [HL.out]; exact hlt) x p ex ep
        obtain ⟨a7, a8, _, _⟩ := lv_step HRb.out hlt n2
        rw [er] at a7 a8
        have HAL := Lib.hid (show alN L m (k + 1) = (alN L m k && (x == y)) by simp only [alN]; rw [ex, ey])
        have HBW := Lib.hid hbw
        have i1 : (k : Int) % (m : Int) = ((k % m : Nat) : Int) := emod_cast k m
        have i6 : (k : Int).tmod (m : Int) = ((k % m : Nat) : Int) := by rw [Int.tmod_eq_emod_of_nonneg (by omega), i1]
        have i2 : ¬ m = 0 := by omega
        have i3 : ((k % m : Nat) : Int) < m := by omega
        have i4 : ((k % m : Nat) : Int) < n := by omega
        have i7 : (k : Int) < n := by omega
        have i8 : 0 ≤ (k : Int) := by omega
        clear hbw hbx hx hy hp hrr ep ex ey er eb hkm
        generalize hr0 : k % m = r0 at *
        clear hr0
        generalize hal : alN L m k = al at *
        clear hal
        have HE := Lib.hid (And.intro (Eq.refl (sqN L t (k + 1))) (And.intro (Eq.refl (ppN L m (k + 1))) (Eq.refl (enN (reL L m t) (k + 1)))))
        generalize sqN L t k = sq at *
        generalize ppN L m k = pp at *
        generalize enN (reL L m t) k = en at *
        go_wp2
        go_quiet (fail)
        go_wp2
        go_quiet (fail)
        go_wp2
        go_quiet (fail)
        go_wp2
        cases al with
        | false =>
          go_quiet (fail)
          go_wp2
          go_roundw
          case rel => exact ⟨k + 1, by omega, rfl, rfl, rfl, by rw [HAL.out]; rfl, by go_num, below_drewN HBW.out _⟩
          case measure => simp [intOf]; omega
        | true =>
          go_quiet (fail)
          go_wp2
          go_roundw
          case rel => exact ⟨k + 1, by omega, rfl, rfl, rfl, by rw [HAL.out]; simp, by go_num, below_drewN HBW.out _⟩
          case measure => simp [intOf]; omega
      · obtain rfl : k = n := by omega
        have hbx := HX4.out.1.trans (hbw.mono HX4.out.1.size)
        have HRR := Lib.hid (HX4.out.2.1.below hbw)
        have c0 := (HLV.out.stay hbw).c0
        have hsq := wh_squares HT.out
        have hal := wh_alike HT.out
        have e1 := wh_wrap HT.out
        have HTN := HT.out.n
        rw [HL.out] at c0 hsq hal HTN e1
        have HTN := Lib.hid HTN
        have HZ := Lib.hid (fun j (hj : j < m) => wh_zero HT.out hj)
        have HEND := Lib.hid hbx
        clear hbw hbx hr HLV HX4 HM HP HR HX2 HX1 j0
        generalize enN (reL L m t) k = E at *
        generalize ppN L m k = Pp at *
        generalize sqN L t k = S at *
        generalize alN L m k = AL at *
        obtain rfl := hal
        obtain rfl := hsq
        generalize reL L m t = R at *
        go_wp2
        go_loop [17] (fun i => ∃ j : Nat, j ≤ m ∧ i = .int .i64 j) (fun i => m - (intOf i).toNat)
        case atStart => exact ⟨0, Nat.zero_le _, rfl⟩
        case round =>
          obtain ⟨j, hj, rfl⟩ := hrel
          by_cases hjm : j < m
          · have HZ := Lib.hid (HZ.out j hjm)
            go_wp2
            go_loop [18, 19] (fun s i => ∃ q : Nat, q ≤ tn ∧ s = .int .i64 (sm (fun q => atL R (q * m + j)) q) ∧ i = .int .i64 ((q * m + j : Nat) : Int)) (fun _ i => k + m - (intOf i).toNat)
            case atStart => exact ⟨0, Nat.zero_le _, rfl, by simp⟩
            case round =>
              obtain ⟨q, hq, rfl, rfl⟩ := hrel
              by_cases hqt : q < tn
              · have hkk : q * m + j < k := by
                  rw [HTN.out]
                  have hq' : (q + 1) * m ≤ tn * m := Nat.mul_le_mul_right m hqt
                  rw [Nat.succ_mul] at hq'
                  omega
                have j1 := wh_part HRb.out m j hqt t2
                have HN := Lib.hid (show (q + 1) * m + j = q * m + j + m by rw [Nat.succ_mul]; omega)
                obtain ⟨rb, roff, r, rfl, hrb, hrr, hc4⟩ := HRR.out.at_ (k := q * m + j) (by rw [HRL.out]; exact hkk)
                have er : atL R (q * m + j) = r := by simp [atL, hrr]
                rw [er] at j1
                clear er hrr
                have HS := Lib.hid (Eq.refl (sm (fun q => atL R (q * m + j)) (q + 1)))
                generalize sm (fun q => atL R (q * m + j)) q = s0 at *
                generalize q * m + j = kk at *
                go_wp2
                go_round
                case rel => exact ⟨q + 1, by omega, rfl, by rw [HN.out]; go_num⟩
                case measure => simp [intOf]; omega
              · obtain rfl : q = tn := by omega
                have hge : k ≤ q * m + j := by rw [HTN.out]; omega
                rw [HZ.out]
                generalize q * m + j = kk at *
                go_wp2
                go_round
                case rel => exact ⟨j + 1, by omega, by go_num⟩
                case measure => simp [intOf]; omega
          · obtain rfl : j = m := by omega
            go_wp2_with (go_at_call 22; refine Calls.mono (HWK.out _) ?_; rintro e w9 ⟨rfl, hb9⟩; have HX9 := Lib.hid (HEND.out.trans (hb9.mono HEND.out.size)); clear hb9)
            go_ret
            exact ⟨rfl, HX9.out⟩
end Go.Proofs.Ytliocbjmledfbaa

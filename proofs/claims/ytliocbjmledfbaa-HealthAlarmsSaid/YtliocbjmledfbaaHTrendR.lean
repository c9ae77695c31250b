/- valued, trend and Trend of both sides. -/
import Derived.Test.YtliocbjmledfbaaHTabR
import Derived.Test.YtliocbjmledfbaaHChance2
import Derived.Test.YtliocbjmledfbaaHOrd
namespace Go.Proofs.Ytliocbjmledfbaa
open Go.RowKit

set_option maxRecDepth 100000 in
theorem valued_any (A : Option Addr) (n c B : Nat) (V : List Int) (w : World) (hx : V.length = n) (hn : n ≤ maxLen) (h : RI w B A V) :
    Calls Try.prog 66 #[.slice A n c] w fun e w' => e = .returned (.bool (valB V)) ∧ w = w' := by
  subst hx
  unfold maxLen at hn
  go_enter Try.func66, Try.ntmps66
  go_wp2
  go_loop [3] (fun i => ∃ k : Nat, k ≤ V.length ∧ i = .int .i64 k ∧ wB (-1000000) 1000000 (V.take k) = true) (fun i => V.length - (intOf i).toNat)
  case atStart => exact ⟨0, Nat.zero_le _, rfl, by simp [wB]⟩
  case round =>
    obtain ⟨k, hk, rfl, hw⟩ := hrel
    by_cases hlt : k < V.length
    · obtain ⟨b, off, x, rfl, hb, hx, hc⟩ := h.at_ hlt
      have HX := Lib.hid hx
      clear hx
      by_cases g : -1000000 ≤ x ∧ x ≤ 1000000
      · have HV2 := Lib.hid (show wB (-1000000) 1000000 (V.take (k + 1)) = true by rw [wB_step HX.out, hw]; simp [g])
        have HG := Lib.hid (rwithin_yes g.1 g.2)
        clear hw g
        go_wp2_with (go_at_call 56; refine Calls.mono (HG.out _) ?_; rintro e w' ⟨rfl, rfl⟩)
        go_round
        case rel => exact ⟨k + 1, by omega, by go_num, HV2.out⟩
        case measure => simp [intOf]; omega
      · have HG := Lib.hid (rwithin_no g)
        have HE := Lib.hid (show valB V = false by unfold valB; rw [wB_bad HX.out (by omega)]; simp)
        clear hw g
        go_wp2_with (go_at_call 56; refine Calls.mono (HG.out _) ?_; rintro e w' ⟨rfl, rfl⟩)
        go_ret
        exact ⟨ret_bool HE.out.symm, rfl⟩
    · have HE := Lib.hid (show (decide (1 ≤ (V.length : Int)) && decide ((V.length : Int) ≤ 8)) = valB V by
        have : wB (-1000000) 1000000 V = true := by rw [← hw, List.take_of_length_le (by omega)]
        unfold valB
        rw [this, Bool.and_true]
        rw [Bool.eq_iff_iff]
        simp only [Bool.and_eq_true, decide_eq_true_eq]
        omega)
      have HG := Lib.hid (rwithin_any (V.length : Int) 1 8)
      rw [HE.out] at HG
      clear hw
      go_wp2_with (go_at_call 56; refine Calls.mono (HG.out _) ?_; rintro e w' ⟨rfl, rfl⟩)
      go_ret
      exact ⟨rfl, rfl⟩

set_option maxRecDepth 100000 in
set_option maxHeartbeats 1000000 in
theorem rtrend_any (A : Option Addr) (n c B : Nat) (V : List Int) (w : World) (hx : V.length = n) (hn : n ≤ 1000) (h : RI w B A V) :
    Calls Try.prog 67 #[.slice A n c] w fun e w' => e = .returned (.int .i64 (trL V)) ∧ ∃ d, w' = w.drewN d := by
  subst hx
  have HI := Lib.hid h
  go_enter Try.func67, Try.ntmps67
  go_wp2
  go_loopw [3, 4] (fun s i wr => ∃ k d : Nat, k ≤ V.length ∧ i = .int .i64 k ∧ s = .int .i64 (trN V k) ∧ wr = w.drewN d) (fun _ i _ => V.length - (intOf i).toNat)
  case atStart => exact ⟨0, 0, Nat.zero_le _, rfl, rfl, rfl⟩
  case round =>
    obtain ⟨k, d, hk, rfl, rfl, hwd⟩ := hrel
    by_cases hlt : k < V.length
    · have hbd := trN_bd V k hk
      have hkk : (k * k : Int) ≤ 1000 * 1000 := Int.mul_le_mul (by omega) (by omega) (by omega) (by omega)
      obtain ⟨b1, b2⟩ := hbd
      have b3 : -1000000 ≤ trN V k := by omega
      have b4 : trN V k ≤ 1000000 := by omega
      obtain ⟨b, off, x, rfl, hb, hx, _⟩ := h.at_ hlt
      have HX := Lib.hid (show trN V (k + 1) = trN V k + risN (V.take k) x by simp [trN, hx])
      have HGX := Lib.hid hx
      have HWD := Lib.hid hwd
      clear b1 b2 hkk hx hwd h
      generalize trN V k = t0 at *
      go_wp2
      go_loopw [3, 5] (fun s i wr => ∃ j d : Nat, j ≤ k ∧ i = .int .i64 j ∧ s = .int .i64 (t0 + risN (V.take j) x) ∧ wr = w.drewN d) (fun _ i _ => k - (intOf i).toNat)
      case atStart => exact ⟨0, d, Nat.zero_le _, rfl, by simp [risN], HWD.out⟩
      case round =>
        obtain ⟨j, d2, hj, rfl, rfl, hwd⟩ := hrel
        by_cases hlj : j < k
        · have hri : RI wr B (some ⟨b, off, none⟩) V := by rw [hwd]; exact HI.out.drewN d2
          obtain ⟨b1, off1, x1, e1, hb1, hx1, hc1⟩ := hri.at_ (k := k) hlt
          obtain ⟨b2, off2, y, e2, hb2, hy, hc2⟩ := hri.at_ (k := j) (by omega)
          obtain ⟨rfl, rfl⟩ : b = b1 ∧ off = off1 := by simpa using e1
          obtain ⟨rfl, rfl⟩ : b = b2 ∧ off = off2 := by simpa using e2
          obtain rfl : x1 = x := by have := hx1.symm.trans HGX.out; simpa using this
          have hrs := risN_step (v := x1) hy
          have hrb := risN_bd (V.take j) x1
          rw [List.length_take] at hrb
          obtain ⟨r1, r2⟩ := hrb
          have r3 : -1000 ≤ risN (V.take j) x1 := by omega
          have r4 : risN (V.take j) x1 ≤ 1000 := by omega
          have HD := Lib.hid (fun q => drew_more hwd q)
          have i1 : (j : Int) < V.length := by omega
          have i2 : 0 ≤ (j : Int) := by omega
          have i3 : (k : Int) < V.length := by omega
          have i4 : 0 ≤ (k : Int) := by omega
          clear e1 e2 hri hx1 hy hwd r1 r2
          obtain g | g | g : y < x1 ∨ x1 < y ∨ x1 = y := by omega
          · have HS := Lib.hid (show risN (V.take (j + 1)) x1 = risN (V.take j) x1 + 1 by rw [hrs]; unfold cmpI; rw [if_neg (by omega), if_neg (by omega)])
            have g' : ¬ x1 < y := by omega
            clear hrs
            generalize risN (V.take j) x1 = r0 at *
            go_wp2
            go_quiet (fail)
            go_wp2
            go_quiet (fail)
            go_wp2
            go_roundw
            case rel => exact ⟨j + 1, _, by omega, by go_num, by rw [HS.out]; go_num, (HD.out _).choose_spec⟩
            case measure => simp [intOf]; omega
          · have HS := Lib.hid (show risN (V.take (j + 1)) x1 = risN (V.take j) x1 - 1 by rw [hrs]; unfold cmpI; rw [if_pos g]; omega)
            have g' : ¬ y < x1 := by omega
            clear hrs
            generalize risN (V.take j) x1 = r0 at *
            go_wp2
            go_quiet (fail)
            go_wp2
            go_quiet (fail)
            go_wp2
            go_roundw
            case rel => exact ⟨j + 1, _, by omega, by go_num, by rw [HS.out]; go_num, (HD.out _).choose_spec⟩
            case measure => simp [intOf]; omega
          · have HS := Lib.hid (show risN (V.take (j + 1)) x1 = risN (V.take j) x1 by rw [hrs]; unfold cmpI; rw [if_neg (by omega), if_pos g]; omega)
            have g' : ¬ y < x1 := by omega
            have g'' : ¬ x1 < y := by omega
            clear hrs g
            generalize risN (V.take j) x1 = r0 at *
            go_wp2
            go_quiet (fail)
            go_wp2
            go_quiet (fail)
            go_wp2
            go_roundw
            case rel => exact ⟨j + 1, _, by omega, by go_num, by rw [HS.out], (HD.out _).choose_spec⟩
            case measure => simp [intOf]; omega
        · obtain rfl : j = k := by omega
          have HWE := Lib.hid hwd
          clear hwd
          go_wp2
          go_roundw
          case rel => exact ⟨j + 1, d2, by omega, by go_num, by rw [HX.out], HWE.out⟩
          case measure => simp [intOf]; omega
    · have HE := Lib.hid (show trN V k = trL V by unfold trL; congr 1; omega)
      have HWD := Lib.hid hwd
      clear hwd
      rw [HE.out]
      go_wp2
      go_ret
      exact ⟨rfl, d, HWD.out⟩
end Go.Proofs.Ytliocbjmledfbaa

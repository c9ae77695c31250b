/- Alarm of the reference. -/
import Derived.Test.YtliocbjmledfbaaHAlA
namespace Go.Proofs.Ytliocbjmledfbaa
open Go.RowKit

set_option maxRecDepth 100000 in
set_option maxHeartbeats 2000000 in
theorem ralarm_any (A : Option Addr) (n c B : Nat) (V : List Int) (lim num den : Int) (w : World) (hx : V.length = n) (hn : n ≤ maxLen) (hc : n ≤ c) (hB : B ≤ w.heap.size) (h : RI w B A V) :
    Calls Try.prog 37 #[.slice A n c, .int .i64 lim, .int .i64 num, .int .i64 den] w fun e w' => e = .returned (.tuple #[.int .i64 (amN V lim num den).1, .int .i64 (amN V lim num den).2]) ∧ Below w.heap.size w w' := by
  have hnn := hn
  unfold maxLen at hnn
  by_cases g : 64 < n
  · rw [amN_many (by omega)]
    clear h
    go_enter Try.func37, Try.ntmps37
    go_wp2
    go_ret2
    exact ⟨rfl, Below.refl _ _⟩
  · by_cases g1 : -1000000 ≤ lim ∧ lim ≤ 1000000
    · have H1 := Lib.hid (rwithin_yes g1.1 g1.2)
      by_cases g2 : 0 ≤ num ∧ num ≤ 1000000
      · have H2 := Lib.hid (rwithin_yes g2.1 g2.2)
        by_cases g3 : 1 ≤ den ∧ den ≤ 1000000
        · have H3 := Lib.hid (rwithin_yes g3.1 g3.2)
          have HI := Lib.hid h
          have HXL := Lib.hid hx
          have HOK := Lib.hid (show alB V lim num den = wB (-1000000) 1000000 V by unfold alB; simp [g1, g2, g3])
          have HG := Lib.hid (show ¬ 64 < V.length by omega)
          have g2' := Lib.hid g2
          have g3' := Lib.hid g3
          clear h g1 g2 g3
          go_enter Try.func37, Try.ntmps37
          go_wp2_with (first
            | (go_at_call 56; with_reducible refine Calls.mono (H1.out _) ?_; rintro e w' ⟨rfl, rfl⟩)
            | (go_at_call 56; with_reducible refine Calls.mono (H2.out _) ?_; rintro e w' ⟨rfl, rfl⟩)
            | (go_at_call 56; with_reducible refine Calls.mono (H3.out _) ?_; rintro e w' ⟨rfl, rfl⟩))
          go_loop [10] (fun i => ∃ k : Nat, k ≤ n ∧ i = .int .i64 k ∧ wB (-1000000) 1000000 (V.take k) = true) (fun i => n - (intOf i).toNat)
          case atStart => exact ⟨0, Nat.zero_le _, rfl, by simp [wB]⟩
          case round =>
            obtain ⟨k, hk, rfl, hw⟩ := hrel
            by_cases hlt : k < n
            · obtain ⟨b, off, x, rfl, hb, hxx, hcx⟩ := HI.out.at_ (k := k) (by rw [HXL.out]; exact hlt)
              have HX := Lib.hid hxx
              clear hxx
              by_cases gx : -1000000 ≤ x ∧ x ≤ 1000000
              · have HV2 := Lib.hid (show wB (-1000000) 1000000 (V.take (k + 1)) = true by rw [wB_step HX.out, hw]; simp [gx])
                have HW := Lib.hid (rwithin_yes gx.1 gx.2)
                clear hw gx
                go_wp2_with (go_at_call 56; with_reducible refine Calls.mono (HW.out _) ?_; rintro e w' ⟨rfl, rfl⟩)
                go_round
                case rel => exact ⟨k + 1, by omega, by go_num, HV2.out⟩
                case measure => simp [intOf]; omega
              · have HW := Lib.hid (rwithin_no gx)
                have HE := Lib.hid (amN_bad HG.out (HOK.out.trans (wB_bad HX.out (by omega))))
                clear hw gx
                go_wp2_with (go_at_call 56; with_reducible refine Calls.mono (HW.out _) ?_; rintro e w' ⟨rfl, rfl⟩)
                go_ret2
                exact ⟨by rw [HE.out]; rfl, Below.refl _ _⟩
            · obtain rfl : k = n := by omega
              have HVB := Lib.hid (show wB (-1000000) 1000000 V = true by rw [← hw, List.take_of_length_le (by rw [HXL.out]; omega)])
              have HYS := Lib.hid (amN_yes HG.out (HOK.out.trans HVB.out))
              clear hw
              go_wp2
              go_loopw [11] (fun i wr => ∃ j : Nat, j ≤ k ∧ i = .int .i64 j ∧ alS V lim num den 0 k = alS V lim num den j (k - j) ∧ Below w.heap.size w wr) (fun i _ => k - (intOf i).toNat)
              case atStart => exact ⟨0, Nat.zero_le _, rfl, rfl, Below.refl _ _⟩
              case round =>
                obtain ⟨j, hj, rfl, hs, hbw⟩ := hrel
                by_cases hlt : j < k
                · obtain ⟨b, off, x, rfl, hb, hxx, hcx⟩ := (HI.out.below (hbw.mono hB)).at_ (k := j) (by rw [HXL.out]; exact hlt)
                  have HAT := Lib.hid (show atL V j = x by simp [atL, hxx])
                  have HRI := Lib.hid (HI.out.below (hbw.mono hB))
                  have HBW := Lib.hid hbw
                  have HSS := Lib.hid hs
                  clear hxx hbw hs
                  have i7 : (j : Int) < k := by omega
                  by_cases hlx : x < lim
                  · have HNO := Lib.hid (alS_no (V := V) (lim := lim) (num := num) (den := den) hlt (fun hh => by have := HAT.out; omega))
                    go_wp2
                    go_roundw
                    case rel => exact ⟨j + 1, by omega, by go_num, HSS.out.trans HNO.out, HBW.out⟩
                    case measure => simp [intOf]; omega
                  · obtain ⟨lo, hlo⟩ : ∃ lo, j + 1 - 8 = lo := ⟨_, rfl⟩
                    have m1 : max 0 ((j : Int) + 1 - 8) = (lo : Int) := by omega
                    have hll : j + 1 - lo ≤ 8 ∧ 1 ≤ j + 1 - lo ∧ lo ≤ j + 1 := by omega
                    obtain ⟨l1, l2, l3⟩ := hll
                    have hlc : ¬ c = lo := by omega
                    have hpl := prt_len (V := V) (i := j) (by rw [HXL.out]; exact hlt)
                    rw [hlo] at hpl
                    have HPR := Lib.hid (show RI wr B (some ⟨b, off + lo, none⟩) (prt V j) by unfold prt; rw [hlo]; exact HRI.out.cut lo (j + 1 - lo))
                    have hv := prt_val (V := V) (i := j) (by rw [HXL.out]; exact hlt) HVB.out
                    have hp := lst_pos (valB_get hv).2.1
                    have hbd := lst_bd (valB_get hv).2.1
                    have HCH := Lib.hid (rChance_any (some ⟨b, off + lo, none⟩) (j + 1 - lo) (c - lo) B (prt V j) wr hpl (le_maxLen (by omega)) (by omega) (by have := HBW.out.size; omega) HPR.out)
                    rw [show cnN (prt V j) = ((lowN (lst (prt V j)).1 (lst (prt V j)).2).1, (lowN (lst (prt V j)).1 (lst (prt V j)).2).2, 0) by unfold cnN; simp [hv]] at HCH
                    have hlb := lowN_bd (M := 16777216) hbd.1.1 hbd.1.2 hp hbd.2.2
                    have HLE := Lib.hid (low_le (n := (lst (prt V j)).1) (num := num) (den := den) hp)
                    have HHB := Lib.hid (show hitB V num den j = decide ((lst (prt V j)).1 * den ≤ num * (lst (prt V j)).2) from rfl)
                    generalize lowN (lst (prt V j)).1 (lst (prt V j)).2 = ll at *
                    obtain ⟨u, v⟩ := ll
                    dsimp only at HCH HLE hlb
                    obtain ⟨b1, b2, b3, b4⟩ := hlb
                    have z1 := mul_bd b1 b2 (show 0 ≤ den by have := g3'.out; omega) g3'.out.2
                    have z2 := mul_bd g2'.out.1 g2'.out.2 b3 b4
                    clear hv hpl hlo hp hbd
                    generalize h9 : u * den = ud at *
                    generalize h8 : num * v = nv at *
                    have z3 : IntKind.i64.wrap ud = ud := IntWalk.i64_in _ (by omega)
                    have z4 : IntKind.i64.wrap nv = nv := IntWalk.i64_in _ (by omega)
                    by_cases hit : ud ≤ nv
                    · have HY := Lib.hid (alS_yes (V := V) (lim := lim) (num := num) (den := den) hlt ⟨by rw [HAT.out]; omega, by rw [HHB.out]; simpa using HLE.out.1 hit⟩)
                      go_wp2_with (go_at_call 35; refine Calls.mono HCH.out ?_; rintro e w5 ⟨rfl, hb5⟩; have HB5 := Lib.hid (HBW.out.trans (hb5.mono HBW.out.size)); clear hb5)
                      go_ret2
                      exact ⟨by rw [HYS.out, HXL.out, HSS.out, HY.out]; rfl, HB5.out⟩
                    · have HNO := Lib.hid (alS_no (V := V) (lim := lim) (num := num) (den := den) hlt (fun hh => by rw [HHB.out] at hh; simp at hh; exact hit (HLE.out.2 hh.2)))
                      go_wp2_with (go_at_call 35; refine Calls.mono HCH.out ?_; rintro e w5 ⟨rfl, hb5⟩; have HB5 := Lib.hid (HBW.out.trans (hb5.mono HBW.out.size)); clear hb5)
                      go_roundw
                      case rel => exact ⟨j + 1, by omega, by go_num, HSS.out.trans HNO.out, HB5.out⟩
                      case measure => simp [intOf]; omega
                · obtain rfl : j = k := by omega
                  have HE := Lib.hid (show alS V lim num den 0 j = -1 by rw [hs, Nat.sub_self]; rfl)
                  have HBW := Lib.hid hbw
                  clear hbw hs
                  go_wp2
                  go_ret2
                  exact ⟨by rw [HYS.out, HXL.out, HE.out]; rfl, HBW.out⟩
        · have H3 := Lib.hid (rwithin_no g3)
          rw [amN_bad (by omega) (by unfold alB; simp; omega)]
          clear h
          go_enter Try.func37, Try.ntmps37
          go_wp2_with (first
            | (go_at_call 56; with_reducible refine Calls.mono (H1.out _) ?_; rintro e w' ⟨rfl, rfl⟩)
            | (go_at_call 56; with_reducible refine Calls.mono (H2.out _) ?_; rintro e w' ⟨rfl, rfl⟩)
            | (go_at_call 56; with_reducible refine Calls.mono (H3.out _) ?_; rintro e w' ⟨rfl, rfl⟩))
          go_ret2
          exact ⟨rfl, Below.refl _ _⟩
      · have H2 := Lib.hid (rwithin_no g2)
        rw [amN_bad (by omega) (by unfold alB; simp; omega)]
        clear h
        go_enter Try.func37, Try.ntmps37
        go_wp2_with (first
          | (go_at_call 56; with_reducible refine Calls.mono (H1.out _) ?_; rintro e w' ⟨rfl, rfl⟩)
          | (go_at_call 56; with_reducible refine Calls.mono (H2.out _) ?_; rintro e w' ⟨rfl, rfl⟩))
        go_ret2
        exact ⟨rfl, Below.refl _ _⟩
    · have H1 := Lib.hid (rwithin_no g1)
      rw [amN_bad (by omega) (by unfold alB; simp; omega)]
      clear h
      go_enter Try.func37, Try.ntmps37
      go_wp2_with (go_at_call 56; with_reducible refine Calls.mono (H1.out _) ?_; rintro e w' ⟨rfl, rfl⟩)
      go_ret2
      exact ⟨rfl, Below.refl _ _⟩
end Go.Proofs.Ytliocbjmledfbaa

/- The tables of the reference: tabled. -/
import Derived.Test.YtliocbjmledfbaaHTab
import Derived.Test.YtliocbjmledfbaaHAvg
namespace Go.Proofs.Ytliocbjmledfbaa
open Go.RowKit

theorem RR.drewN {w : World} {B : Nat} {A : Option Addr} {V : List (List Int)} (h : RR w B A V) (k : Nat) : RR (w.drewN k) B A V := h
theorem drew_more {w wr : World} {d : Nat} (h : wr = w.drewN d) (n : Nat) : ∃ k, wr.drewN n = w.drewN k := ⟨d + n, by rw [h, World.drewN_drewN]⟩

set_option maxRecDepth 100000 in
set_option maxHeartbeats 2000000 in
theorem tabled_any (A : Option Addr) (n c B : Nat) (V : List (List Int)) (w : World) (hV : V.length = n) (hn : n ≤ maxLen) (hvl : ∀ r ∈ V, r.length ≤ maxLen) (rv : RR w B A V) :
    Calls Try.prog 79 #[.slice A n c] w fun e w' => e = .returned (.bool (tabB V)) ∧ ∃ d, w' = w.drewN d := by
  have hn2 := hn
  unfold maxLen at hn2
  by_cases h1 : 1 ≤ n ∧ n ≤ 8
  · have H1 := Lib.hid (rwithin_yes (a := (n : Int)) (b := 1) (c := 8) (by omega) (by omega))
    have HV0 := Lib.hid rv
    have HLV := Lib.hid hV
    have HVL := Lib.hid hvl
    have HT := Lib.hid (show tabB V = V.all (okR V) by unfold tabB; simp; omega)
    clear rv hV hvl
    go_enter Try.func79, Try.ntmps79
    go_wp2_with (go_at_call 56; refine Calls.mono (H1.out _) ?_; rintro e w' ⟨rfl, rfl⟩)
    go_loopw [3] (fun i wr => ∃ k d : Nat, k ≤ n ∧ i = .int .i64 k ∧ (V.take k).all (okR V) = true ∧ wr = w.drewN d) (fun i _ => n - (intOf i).toNat)
    case atStart => exact ⟨0, 0, Nat.zero_le _, rfl, by simp, rfl⟩
    case round =>
      obtain ⟨k, d, hk, rfl, ha1, hwd⟩ := hrel
      by_cases hlt : k < n
      · have rv : RR wr B A V := by rw [hwd]; exact RR.drewN HV0.out d
        obtain ⟨b, off, r, A1, c1, rfl, hb, hr, hc1, hri⟩ := rv.at_ (k := k) (by rw [HLV.out]; exact hlt)
        obtain ⟨b0, off0, z, A0, c0, eb, hb0, hz, hc0, _⟩ := rv.at_ (k := 0) (by rw [HLV.out]; omega)
        obtain ⟨rfl, rfl⟩ : b = b0 ∧ off = off0 := by simpa using eb
        have hd : hdN V = z.length := by unfold hdN; rw [hz]; rfl
        have HR := Lib.hid (And.intro hr (And.intro ha1 hri))
        have hrl := HVL.out r (List.mem_of_getElem? hr)
        have hHD := Lib.hid hd
        have HWD := Lib.hid hwd
        unfold maxLen at hrl
        rw [Nat.add_zero] at hc0
        clear hr ha1 hri hd hz eb rv HV0 hwd
        have i7 : (k : Int) < n := by omega
        have i8 : 0 ≤ (k : Int) := by omega
        have i9 : (0 : Int) < n := by omega
        by_cases g2 : 1 ≤ r.length ∧ r.length ≤ 12
        · have H2 := Lib.hid (rwithin_yes (a := (r.length : Int)) (b := 1) (c := 12) (by omega) (by omega))
          by_cases g1 : r.length = z.length
          · have hne : ((r.length : Int) != z.length) = false := by rw [g1]; simp
            have hOK := Lib.hid (show okR V r = wB 0 1000000 r by unfold okR; rw [hHD.out]; simp [g1]; omega)
            clear g1
            go_wp2
            go_quiet ((go_at_call 56; exact quiet_left (H2.out _)))
            go_wp2
            have HDD := Lib.hid (drew_more HWD.out nq)
            have HRI := Lib.hid (HR.out.2.2.drewN nq)
            have hcx : (wr.drewN nq).cell? ⟨b, off + k, none⟩ = some (.slice A1 r.length c1) := hc1
            clear hc1 hc0
            generalize wr.drewN nq = wd at *
            go_loop [4] (fun i => ∃ j : Nat, j ≤ r.length ∧ i = .int .i64 j ∧ wB 0 1000000 (r.take j) = true) (fun i => r.length - (intOf i).toNat)
            case atStart => exact ⟨0, Nat.zero_le _, rfl, by simp [wB]⟩
            case round =>
              obtain ⟨j, hj, rfl, hw⟩ := hrel
              by_cases hjl : j < r.length
              · obtain ⟨rb, roff, x, rfl, hrb, hx, hc⟩ := HRI.out.at_ hjl
                have HX := Lib.hid hx
                have i4 : (j : Int) < r.length := by omega
                clear hx
                by_cases g : 0 ≤ x ∧ x ≤ 1000000
                · have HV2 := Lib.hid (show wB 0 1000000 (r.take (j + 1)) = true by rw [wB_step HX.out, hw]; simp [g])
                  have HG := Lib.hid (rwithin_yes g.1 g.2)
                  clear hw g
                  go_wp2_with (go_at_call 56; refine Calls.mono (HG.out _) ?_; rintro e w' ⟨rfl, rfl⟩)
                  go_round
                  case rel => exact ⟨j + 1, by omega, by go_num, HV2.out⟩
                  case measure => simp [intOf]; omega
                · have HG := Lib.hid (rwithin_no g)
                  have HE := Lib.hid (show tabB V = false from HT.out.trans (all_no HR.out.1 (hOK.out.trans (wB_bad HX.out (by omega)))))
                  clear hw g
                  go_wp2_with (go_at_call 56; refine Calls.mono (HG.out _) ?_; rintro e w' ⟨rfl, rfl⟩)
                  go_ret
                  exact ⟨ret_bool HE.out.symm, HDD.out⟩
              · have HK := Lib.hid (show okR V r = true by rw [hOK.out, ← hw, List.take_of_length_le (by omega)])
                obtain rfl : j = r.length := by omega
                clear hw
                go_wp2
                go_roundw
                case rel =>
                  obtain ⟨d2, hd2⟩ := HDD.out
                  exact ⟨k + 1, d2, by omega, by go_num, all_take HR.out.1 HR.out.2.1 HK.out, hd2⟩
                case measure => simp [intOf]; omega
          · have hne : ((r.length : Int) != z.length) = true := by rw [bne_iff_ne]; omega
            have HE := Lib.hid (show tabB V = false from HT.out.trans (all_no HR.out.1 (by unfold okR; rw [hHD.out]; simp; omega)))
            clear g1
            go_wp2
            go_quiet ((go_at_call 56; exact quiet_left (H2.out _)))
            go_wp2
            go_ret
            exact ⟨ret_bool HE.out.symm, drew_more HWD.out nq⟩
        · have H2 := Lib.hid (rwithin_no (a := (r.length : Int)) (b := 1) (c := 12) (by omega))
          have HE := Lib.hid (show tabB V = false from HT.out.trans (all_no HR.out.1 (by unfold okR; simp; omega)))
          clear g2
          go_wp2
          go_quiet ((go_at_call 56; exact quiet_left (H2.out _)))
          go_wp2
          go_ret
          exact ⟨ret_bool HE.out.symm, drew_more HWD.out nq⟩
      · obtain rfl : k = n := by omega
        have HE := Lib.hid (show tabB V = true by rw [HT.out, ← ha1, List.take_of_length_le (by rw [HLV.out]; omega)])
        have HWD := Lib.hid hwd
        clear ha1 hwd
        go_wp2
        go_ret
        exact ⟨ret_bool HE.out.symm, d, HWD.out⟩
  · have H1 := Lib.hid (rwithin_no (a := (n : Int)) (b := 1) (c := 8) (by omega))
    have HE := Lib.hid (show tabB V = false by unfold tabB; simp; omega)
    clear rv hV hvl
    go_enter Try.func79, Try.ntmps79
    go_wp2_with (go_at_call 56; refine Calls.mono (H1.out _) ?_; rintro e w' ⟨rfl, rfl⟩)
    go_ret
    exact ⟨ret_bool HE.out.symm, 0, rfl⟩
end Go.Proofs.Ytliocbjmledfbaa

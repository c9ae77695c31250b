/- Check of a vibration, of the reference. -/
import Derived.Test.YtliocbjmledfbaaHVib
namespace Go.Proofs.Ytliocbjmledfbaa
open Go.RowKit

theorem vib_bad1 {S M : List Int} {k : Nat} {x : Int} (hx : S[k]? = some x) (h : ¬ (-100 ≤ x ∧ x ≤ 100)) : vibB S M = false := by
  unfold vibB
  rw [wB_bad hx (by omega)]
  simp
theorem vib_bad2 {S M : List Int} {k : Nat} {x : Int} (hx : M[k]? = some x) (h : ¬ (0 ≤ x ∧ x ≤ (S.length : Int) - 1)) : vibB S M = false := by
  unfold vibB
  rw [wB_bad hx (by omega)]
  simp
theorem vib_bad3 {S M : List Int} {k : Nat} {x y : Int} (hx : M[k]? = some x) (hy : M[k + 1]? = some y) (h : y ≤ x) : vibB S M = false := by
  unfold vibB
  have hk : k + 1 < M.length := (List.getElem?_eq_some_iff.1 hy).1
  rw [ascN_bad (X := M) (n := M.length - 1) (m := k) (by omega) (by rw [hx, hy]; simpa using h)]
  simp

set_option maxRecDepth 100000 in
set_option maxHeartbeats 1000000 in
theorem rcheck_any (AS AM : Option Addr) (ns cs nm cm B : Nat) (S M : List Int) (w : World) (hs : S.length = ns) (hm : M.length = nm) (hns : ns ≤ maxLen) (hnm : nm ≤ maxLen) (hB : B ≤ w.heap.size) (rs : RI w B AS S) (rm : RI w B AM M) :
    Calls Try.prog 18 #[.agg #[.slice AS ns cs, .slice AM nm cm]] w fun e w' => e = .returned (.int .i64 (vibE S M)) ∧ Below w.heap.size w w' := by
  subst hs hm
  unfold maxLen at hns hnm
  by_cases h1 : S.length ≤ 400
  · by_cases h3 : 2 ≤ M.length ∧ M.length ≤ 9
    · have H3 := Lib.hid (rwithin_yes (a := (M.length : Int)) (b := 2) (c := 9) (by omega) (by omega))
      have H13 := Lib.hid (And.intro h1 h3)
      obtain ⟨m1, m2⟩ := h3
      go_enter Try.func18, Try.ntmps18
      go_wp2_with (go_at_call 56; refine Calls.mono (H3.out _) ?_; rintro e w' ⟨rfl, rfl⟩)
      have HB0 := Lib.hid (show Below w.heap.size w (w.alloc (.cells #[.slice AS S.length cs, .slice AM M.length cm] 24)) by go_grown)
      have t0 : (w.alloc (.cells #[.slice AS S.length cs, .slice AM M.length cm] 24)).cell? ⟨w.heap.size, 0, none⟩ = some (.slice AS S.length cs) := by rw [cell_newest]; rfl
      have t1 : (w.alloc (.cells #[.slice AS S.length cs, .slice AM M.length cm] 24)).cell? ⟨w.heap.size, 1, none⟩ = some (.slice AM M.length cm) := by rw [cell_newest]; rfl
      have hsz0 : w.heap.size < (w.alloc (.cells #[.slice AS S.length cs, .slice AM M.length cm] 24)).heap.size := by simp
      generalize w.alloc (.cells #[.slice AS S.length cs, .slice AM M.length cm] 24) = w0 at *
      have HS := Lib.hid (rs.below (HB0.out.mono hB))
      have HM := Lib.hid (rm.below (HB0.out.mono hB))
      clear rs rm
      go_loop [3] (fun i => ∃ k : Nat, k ≤ S.length ∧ i = .int .i64 k ∧ wB (-100) 100 (S.take k) = true) (fun i => S.length - (intOf i).toNat)
      case atStart => exact ⟨0, Nat.zero_le _, rfl, by simp [wB]⟩
      case round =>
        obtain ⟨k, hk, rfl, hw⟩ := hrel
        by_cases hlt : k < S.length
        · obtain ⟨b, off, x, rfl, hb, hx, hc⟩ := HS.out.at_ hlt
          have HX := Lib.hid hx
          clear hx
          by_cases g : -100 ≤ x ∧ x ≤ 100
          · have HV := Lib.hid (show wB (-100) 100 (S.take (k + 1)) = true by rw [wB_step HX.out, hw]; simp [g])
            have HG := Lib.hid (rwithin_yes g.1 g.2)
            clear hw g
            go_wp2_with (go_at_call 56; refine Calls.mono (HG.out _) ?_; rintro e w' ⟨rfl, rfl⟩)
            go_round
            case rel => exact ⟨k + 1, by omega, by go_num, HV.out⟩
            case measure => simp [intOf]; omega
          · have HG := Lib.hid (rwithin_no g)
            have e := Lib.hid (vibE_no (vib_bad1 (M := M) HX.out g))
            clear hw g
            go_wp2_with (go_at_call 56; refine Calls.mono (HG.out _) ?_; rintro e w' ⟨rfl, rfl⟩)
            go_ret
            exact ⟨ret_int e.out.symm, HB0.out⟩
        · have HW := Lib.hid (show wB (-100) 100 S = true by rw [← hw, List.take_of_length_le (by omega)])
          obtain rfl : k = S.length := by omega
          clear hw
          go_wp2
          go_loopw [4] (fun i wr => ∃ k : Nat, k ≤ M.length ∧ i = .int .i64 k ∧ wB 0 ((S.length : Int) - 1) (M.take k) = true ∧ ascN M (k - 1) = true ∧ Below w0.heap.size w0 wr) (fun i _ => M.length - (intOf i).toNat)
          case atStart => exact ⟨0, Nat.zero_le _, rfl, by simp [wB], by simp [ascN], Below.refl _ _⟩
          case round =>
            obtain ⟨k, hk, rfl, hw, ha, hbw⟩ := hrel
            have HBW := Lib.hid (HB0.out.trans (hbw.mono HB0.out.size))
            have HB1 := Lib.hid hbw
            have d0 := cell_keep hbw t0
            have d1 := cell_keep hbw t1
            have hMr := HM.out.below (hbw.mono (by omega))
            have HWA := Lib.hid (And.intro hw ha)
            clear hw ha
            by_cases hlt : k < M.length
            · obtain ⟨b, off, x, rfl, hb, hx, hc⟩ := hMr.at_ hlt
              have HX := Lib.hid hx
              have i1 : (k : Int) < M.length := by omega
              have i2 : (0 : Int) ≤ k := by omega
              have i3 : IntKind.i64.wrap ((S.length : Int) - 1) = (S.length : Int) - 1 := IntWalk.i64_in _ (by omega)
              clear hx hbw
              by_cases g : 0 ≤ x ∧ x ≤ (S.length : Int) - 1
              · have HG := Lib.hid (rwithin_yes g.1 g.2)
                have HV := Lib.hid (show wB 0 ((S.length : Int) - 1) (M.take (k + 1)) = true by rw [wB_step HX.out, HWA.out.1]; simp [g])
                by_cases hz : k = 0
                · subst hz
                  simp only [Nat.add_zero] at hc
                  clear g hMr
                  go_wp2
                  go_quiet ((go_at_call 56; exact quiet_left (HG.out _)))
                  go_wp2
                  go_roundw
                  case rel => exact ⟨1, by omega, by go_num, HV.out, by simp [ascN], below_drewN HB1.out _⟩
                  case measure => simp [intOf]; omega
                · obtain ⟨b', off', y, hA, hb', hy, hc2⟩ := hMr.at_ (k := k - 1) (by omega)
                  obtain ⟨rfl, rfl⟩ : b = b' ∧ off = off' := by simpa using hA
                  have HY := Lib.hid hy
                  have j1 : IntKind.i64.wrap ((k : Int) - 1) = (k : Int) - 1 := IntWalk.i64_in _ (by omega)
                  have j2 : ((k : Int) - 1).toNat = k - 1 := by omega
                  have j3 : 0 ≤ (k : Int) - 1 := by omega
                  have j4 : (k : Int) - 1 < M.length := by omega
                  have j5 : 1 ≤ (k : Int) := by omega
                  have j6 : 0 < (k : Int) := by omega
                  have j7 : 0 < k := by omega
                  have j8 : decide (0 < k) = true := by simpa using j7
                  have hyk : M[k - 1 + 1]? = some x := by rw [show k - 1 + 1 = k by omega]; exact HX.out
                  have HYK := Lib.hid hyk
                  clear hy hA hb' g hMr hyk
                  by_cases g2 : y < x
                  · have HV2 := Lib.hid (show ascN M (k + 1 - 1) = true by rw [show k + 1 - 1 = (k - 1) + 1 by omega, ascN_step, HWA.out.2, HY.out, HYK.out]; simpa using g2)
                    have g3 : decide (x ≤ y) = false := by simp; omega
                    go_wp2
                    go_quiet ((go_at_call 56; exact quiet_left (HG.out _)))
                    go_wp2
                    go_roundw
                    case rel => exact ⟨k + 1, by omega, by go_num, HV.out, HV2.out, below_drewN HB1.out _⟩
                    case measure => simp [intOf]; omega
                  · have e := Lib.hid (vibE_no (vib_bad3 (S := S) HY.out HYK.out (by omega)))
                    have g3 : decide (x ≤ y) = true := by simp; omega
                    go_wp2
                    go_quiet ((go_at_call 56; exact quiet_left (HG.out _)))
                    go_wp2
                    go_ret
                    exact ⟨ret_int e.out.symm, below_drewN HBW.out _⟩
              · have HG := Lib.hid (rwithin_no g)
                have e := Lib.hid (vibE_no (vib_bad2 (S := S) HX.out g))
                clear g hMr
                go_wp2
                go_quiet ((go_at_call 56; exact quiet_left (HG.out _)))
                go_wp2
                go_ret
                exact ⟨ret_int e.out.symm, below_drewN HBW.out _⟩
            · obtain rfl : k = M.length := by omega
              have e := Lib.hid (vibE_yes (S := S) (M := M) (by
                have hw := HWA.out.1
                rw [List.take_of_length_le (by omega)] at hw
                unfold vibB
                rw [HW.out, hw, HWA.out.2]
                simp [H13.out]))
              clear hMr hbw
              go_wp2
              go_ret
              exact ⟨ret_int e.out.symm, HBW.out⟩
    · have H3 := Lib.hid (rwithin_no (a := (M.length : Int)) (b := 2) (c := 9) (by omega))
      have e := vibE_no (S := S) (M := M) (by unfold vibB; simp; omega)
      rw [e]
      clear e h3
      go_enter Try.func18, Try.ntmps18
      go_wp2_with (go_at_call 56; refine Calls.mono (H3.out _) ?_; rintro e w' ⟨rfl, rfl⟩)
      go_ret
      exact ⟨rfl, by go_grown⟩
  · have e := vibE_no (S := S) (M := M) (by unfold vibB; simp; omega)
    rw [e]
    clear e
    have h1' : (400 : Int) < S.length := by omega
    go_enter Try.func18, Try.ntmps18
    go_wp2
    go_ret
    exact ⟨rfl, by go_grown⟩
end Go.Proofs.Ytliocbjmledfbaa

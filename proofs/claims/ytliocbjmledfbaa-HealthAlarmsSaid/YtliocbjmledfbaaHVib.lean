/- Check of a vibration, of both sides. -/
import Derived.Test.YtliocbjmledfbaaHWhole
namespace Go.Proofs.Ytliocbjmledfbaa
open Go.RowKit

theorem wB_1 (lo hi x : Int) : wB lo hi [x] = decide (lo ≤ x ∧ x ≤ hi) := by simp [wB]
theorem vibE_no {S M : List Int} (h : vibB S M = false) : vibE S M = 80 := by unfold vibE; simp [h]
theorem vibE_yes {S M : List Int} (h : vibB S M = true) : vibE S M = 0 := by unfold vibE; simp [h]

set_option maxRecDepth 100000 in
set_option maxHeartbeats 1000000 in
theorem check_any (AS AM : Option Addr) (ns cs nm cm B : Nat) (S M : List Int) (w : World) (hs : S.length = ns) (hm : M.length = nm) (hns : ns ≤ maxLen) (hnm : nm ≤ maxLen) (hB : B ≤ w.heap.size) (rs : RI w B AS S) (rm : RI w B AM M) :
    Calls Try.prog 17 #[.agg #[.slice AS ns cs, .slice AM nm cm]] w fun e w' => e = .returned (.int .i64 (vibE S M)) ∧ Below w.heap.size w w' := by
  subst hs hm
  have hns' := hns
  unfold maxLen at hns'
  have HS := Lib.hid (fun (W : World) (hW : Below w.heap.size w W) => within_any (-100) 100 AS _ cs B S W rfl hns (rs.below (hW.mono hB)))
  have HM := Lib.hid (fun (W : World) (hW : Below w.heap.size w W) => within_any 0 ((S.length : Int) - 1) AM _ cm B M W rfl hnm (rm.below (hW.mono hB)))
  have HA := Lib.hid (fun (W : World) (hW : Below w.heap.size w W) => asc_any AM _ cm B M W rfl hnm (by have := hW.size; omega) (rm.below (hW.mono hB)))
  clear rs rm
  by_cases h1 : S.length ≤ 400
  · cases h2 : wB (-100) 100 S with
    | false =>
      have e := vibE_no (S := S) (M := M) (by unfold vibB; simp [h2])
      rw [e]
      rw [h2] at HS
      clear e h2
      go_enter Try.func17, Try.ntmps17
      go_wp2_with (go_at_call 54; refine Calls.mono (HS.out _ (by go_grown)) ?_; rintro e w' ⟨rfl, rfl⟩)
      go_ret
      exact ⟨rfl, by go_grown⟩
    | true =>
    by_cases h3 : 2 ≤ M.length ∧ M.length ≤ 9
    · have H3 := Lib.hid (show wB 2 9 [(M.length : Int)] = true by rw [wB_1]; simp; omega)
      cases h4 : wB 0 ((S.length : Int) - 1) M with
      | false =>
        have e := vibE_no (S := S) (M := M) (by unfold vibB; simp [h4])
        rw [e]
        rw [h2] at HS
        rw [h4] at HM
        clear e h2 h4
        go_enter Try.func17, Try.ntmps17
        go_wp2_with (first
          | (go_at_call_of 54 (Value.int .i64 100); refine Calls.mono (HS.out _ (by go_grown)) ?_; rintro e w' ⟨rfl, rfl⟩)
          | (go_at_call_of 54 (Value.int .i64 9); refine (within_any 2 9 _ 1 _ _ [(M.length : Int)] _ rfl (le_maxLen (by omega)) (RI.new1 (by simp))).mono ?_; rintro e w' ⟨rfl, rfl⟩; rw [H3.out])
          | (go_at_call 54; refine Calls.mono (HM.out _ (by go_grown)) ?_; rintro e w' ⟨rfl, rfl⟩))
        go_ret
        exact ⟨rfl, by go_grown⟩
      | true =>
        have hv : vibB S M = ascN M (M.length - 1) := by unfold vibB; simp [h1, h2, h3, h4]
        rw [h2] at HS
        rw [h4] at HM
        cases h5 : ascN M (M.length - 1) with
        | false =>
          have e := vibE_no (hv.trans h5)
          rw [e]
          rw [h5] at HA
          clear e h2 h4 h5 hv
          go_enter Try.func17, Try.ntmps17
          go_wp2_with (first
            | (go_at_call_of 54 (Value.int .i64 100); refine Calls.mono (HS.out _ (by go_grown)) ?_; rintro e w' ⟨rfl, rfl⟩)
            | (go_at_call_of 54 (Value.int .i64 9); refine (within_any 2 9 _ 1 _ _ [(M.length : Int)] _ rfl (le_maxLen (by omega)) (RI.new1 (by simp))).mono ?_; rintro e w' ⟨rfl, rfl⟩; rw [H3.out])
            | (go_at_call 54; refine Calls.mono (HM.out _ (by go_grown)) ?_; rintro e w' ⟨rfl, rfl⟩)
            | (go_at_call 55; refine Calls.mono (HA.out _ (by go_grown)) ?_; rintro e w5 ⟨rfl, hb5⟩))
          go_ret
          exact ⟨rfl, Below.trans (by go_grown) (hb5.mono (by simp; omega))⟩
        | true =>
          have e := vibE_yes (hv.trans h5)
          rw [e]
          rw [h5] at HA
          clear e h2 h4 h5 hv
          go_enter Try.func17, Try.ntmps17
          go_wp2_with (first
            | (go_at_call_of 54 (Value.int .i64 100); refine Calls.mono (HS.out _ (by go_grown)) ?_; rintro e w' ⟨rfl, rfl⟩)
            | (go_at_call_of 54 (Value.int .i64 9); refine (within_any 2 9 _ 1 _ _ [(M.length : Int)] _ rfl (le_maxLen (by omega)) (RI.new1 (by simp))).mono ?_; rintro e w' ⟨rfl, rfl⟩; rw [H3.out])
            | (go_at_call 54; refine Calls.mono (HM.out _ (by go_grown)) ?_; rintro e w' ⟨rfl, rfl⟩)
            | (go_at_call 55; refine Calls.mono (HA.out _ (by go_grown)) ?_; rintro e w5 ⟨rfl, hb5⟩))
          go_ret
          exact ⟨rfl, Below.trans (by go_grown) (hb5.mono (by simp; omega))⟩
    · have H3 := Lib.hid (show wB 2 9 [(M.length : Int)] = false by rw [wB_1]; simp; omega)
      have e := vibE_no (S := S) (M := M) (by unfold vibB; simp; omega)
      rw [e]
      rw [h2] at HS
      clear e h2 h3
      go_enter Try.func17, Try.ntmps17
      go_wp2_with (first
        | (go_at_call_of 54 (Value.int .i64 100); refine Calls.mono (HS.out _ (by go_grown)) ?_; rintro e w' ⟨rfl, rfl⟩)
        | (go_at_call 54; refine (within_any 2 9 _ 1 _ _ [(M.length : Int)] _ rfl (le_maxLen (by omega)) (RI.new1 (by simp))).mono ?_; rintro e w' ⟨rfl, rfl⟩; rw [H3.out]))
      go_ret
      exact ⟨rfl, by go_grown⟩
  · have e := vibE_no (S := S) (M := M) (by unfold vibB; simp; omega)
    rw [e]
    clear e
    have h1' : ¬ ((S.length : Int) ≤ 400) := by omega
    go_enter Try.func17, Try.ntmps17
    go_wp2
    go_ret
    exact ⟨rfl, by go_grown⟩
end Go.Proofs.Ytliocbjmledfbaa

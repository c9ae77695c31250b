/- checkAverage, averaged, Pattern of both sides. -/
import Derived.Test.YtliocbjmledfbaaHT
import Derived.Test.YtliocbjmledfbaaHVib
import Derived.Test.YtliocbjmledfbaaHStore
import Derived.Test.YtliocbjmledfbaaHOwn
import Derived.StillTailTactics
namespace Go.Proofs.Ytliocbjmledfbaa
open Go.RowKit

def teE (L : List Int) (t : Int) : Int := if teB L t then 0 else 1
theorem teE_no {L : List Int} {t : Int} (h : teB L t = false) : teE L t = 1 := by unfold teE; simp [h]
theorem teE_yes {L : List Int} {t : Int} (h : teB L t = true) : teE L t = 0 := by unfold teE; simp [h]

set_option maxRecDepth 100000 in
theorem checkAverage_any (A : Option Addr) (n c B : Nat) (L : List Int) (t : Int) (w : World) (hl : L.length = n) (hn : n ≤ maxLen) (hB : B ≤ w.heap.size) (h : RI w B A L) :
    Calls Try.prog 59 #[.slice A n c, .int .i64 t] w fun e w' => e = .returned (.int .i64 (teE L t)) ∧ Below w.heap.size w w' := by
  subst hl
  have hn' := hn
  unfold maxLen at hn'
  have HS := Lib.hid (fun (W : World) (hW : Below w.heap.size w W) => within_any (-1000000) 1000000 A _ c B L W rfl hn (h.below (hW.mono hB)))
  clear h
  by_cases h1 : 1 ≤ L.length ∧ L.length ≤ 24
  · have H1 := Lib.hid (show wB 1 24 [(L.length : Int)] = true by rw [wB_1]; simp; omega)
    cases h2 : wB (-1000000) 1000000 L with
    | false =>
      have e := teE_no (L := L) (t := t) (by unfold teB; simp [h2])
      rw [e]
      rw [h2] at HS
      clear e h2
      go_enter Try.func59, Try.ntmps59
      go_wp2_with (first
        | (go_at_call_of 54 (Value.int .i64 24); refine (within_any 1 24 _ 1 _ _ [(L.length : Int)] _ rfl (le_maxLen (by omega)) (RI.new1 (by simp))).mono ?_; rintro e w' ⟨rfl, rfl⟩; rw [H1.out])
        | (go_at_call 54; refine Calls.mono (HS.out _ (by go_grown)) ?_; rintro e w' ⟨rfl, rfl⟩))
      go_ret
      exact ⟨rfl, by go_grown⟩
    | true =>
      rw [h2] at HS
      by_cases h3 : 1 ≤ t ∧ t ≤ L.length
      · have H3 := Lib.hid (show wB 1 (L.length : Int) [t] = true by rw [wB_1]; simp [h3])
        have hv : teB L t = decide ((L.length : Int) % t = 0) := by unfold teB; simp [h1, h2, h3]
        have hne : ((t : Int) == 0) = false := by simp; omega
        have hne' : t ≠ 0 := by omega
        have q0 := Int.emod_nonneg (L.length : Int) hne'
        have q1 := Int.emod_lt_of_pos (L.length : Int) (show 0 < t by omega)
        obtain ⟨t1, t2⟩ := h3
        by_cases h4 : (L.length : Int) % t = 0
        · have e := teE_yes (hv.trans (by simpa using h4))
          rw [e]
          clear e h2 hv
          go_enter Try.func59, Try.ntmps59
          go_wp2_with (first
            | (go_at_call_of 54 (Value.int .i64 24); refine (within_any 1 24 _ 1 _ _ [(L.length : Int)] _ rfl (le_maxLen (by omega)) (RI.new1 (by simp))).mono ?_; rintro e w' ⟨rfl, rfl⟩; rw [H1.out])
            | (go_at_call_of 54 (Value.int .i64 1000000); refine Calls.mono (HS.out _ (by go_grown)) ?_; rintro e w' ⟨rfl, rfl⟩)
            | (go_at_call 54; refine (within_any 1 (L.length : Int) _ 1 _ _ [t] _ rfl (le_maxLen (by omega)) (RI.new1 (by simp))).mono ?_; rintro e w' ⟨rfl, rfl⟩; rw [H3.out]))
          go_ret
          exact ⟨rfl, by go_grown⟩
        · have e := teE_no (hv.trans (by simpa using h4))
          rw [e]
          have h4' : (((L.length : Int) % t) != 0) = true := by simpa using h4
          clear e h2 hv
          go_enter Try.func59, Try.ntmps59
          go_wp2_with (first
            | (go_at_call_of 54 (Value.int .i64 24); refine (within_any 1 24 _ 1 _ _ [(L.length : Int)] _ rfl (le_maxLen (by omega)) (RI.new1 (by simp))).mono ?_; rintro e w' ⟨rfl, rfl⟩; rw [H1.out])
            | (go_at_call_of 54 (Value.int .i64 1000000); refine Calls.mono (HS.out _ (by go_grown)) ?_; rintro e w' ⟨rfl, rfl⟩)
            | (go_at_call 54; refine (within_any 1 (L.length : Int) _ 1 _ _ [t] _ rfl (le_maxLen (by omega)) (RI.new1 (by simp))).mono ?_; rintro e w' ⟨rfl, rfl⟩; rw [H3.out]))
          go_ret
          exact ⟨rfl, by go_grown⟩
      · have H3 := Lib.hid (show wB 1 (L.length : Int) [t] = false by rw [wB_1]; simp; omega)
        have e := teE_no (L := L) (t := t) (by unfold teB; simp; omega)
        rw [e]
        clear e h2 h3
        go_enter Try.func59, Try.ntmps59
        go_wp2_with (first
          | (go_at_call_of 54 (Value.int .i64 24); refine (within_any 1 24 _ 1 _ _ [(L.length : Int)] _ rfl (le_maxLen (by omega)) (RI.new1 (by simp))).mono ?_; rintro e w' ⟨rfl, rfl⟩; rw [H1.out])
          | (go_at_call_of 54 (Value.int .i64 1000000); refine Calls.mono (HS.out _ (by go_grown)) ?_; rintro e w' ⟨rfl, rfl⟩)
          | (go_at_call 54; refine (within_any 1 (L.length : Int) _ 1 _ _ [t] _ rfl (le_maxLen (by omega)) (RI.new1 (by simp))).mono ?_; rintro e w' ⟨rfl, rfl⟩; rw [H3.out]))
        go_ret
        exact ⟨rfl, by go_grown⟩
  · have H1 := Lib.hid (show wB 1 24 [(L.length : Int)] = false by rw [wB_1]; simp; omega)
    have e := teE_no (L := L) (t := t) (by unfold teB; simp; omega)
    rw [e]
    clear e h1
    go_enter Try.func59, Try.ntmps59
    go_wp2_with (go_at_call 54; refine (within_any 1 24 _ 1 _ _ [(L.length : Int)] _ rfl (le_maxLen (by omega)) (RI.new1 (by simp))).mono ?_; rintro e w' ⟨rfl, rfl⟩; rw [H1.out])
    go_ret
    exact ⟨rfl, by go_grown⟩

set_option maxRecDepth 100000 in
theorem averaged_any (A : Option Addr) (n c B : Nat) (L : List Int) (t : Int) (w : World) (hl : L.length = n) (hn : n ≤ maxLen) (h : RI w B A L) :
    Calls Try.prog 60 #[.slice A n c, .int .i64 t] w fun e w' => e = .returned (.bool (teB L t)) ∧ w = w' := by
  subst hl
  unfold maxLen at hn
  by_cases h1 : 1 ≤ L.length ∧ L.length ≤ 24
  · have H1 := Lib.hid (rwithin_yes (a := (L.length : Int)) (b := 1) (c := 24) (by omega) (by omega))
    by_cases h3 : 1 ≤ t ∧ t ≤ L.length
    · have H3 := Lib.hid (rwithin_yes h3.1 h3.2)
      have hne : ((t : Int) == 0) = false := by simp; omega
      have hne' : t ≠ 0 := by omega
      have q0 := Int.emod_nonneg (L.length : Int) hne'
      have q1 := Int.emod_lt_of_pos (L.length : Int) (show 0 < t by omega)
      by_cases h4 : (L.length : Int) % t = 0
      · have HV := Lib.hid (show teB L t = wB (-1000000) 1000000 L by unfold teB; simp [h1, h3, h4])
        have h4' : (((L.length : Int) % t) != 0) = false := by simpa using h4
        obtain ⟨t1, t2⟩ := h3
        clear h4
        go_enter Try.func60, Try.ntmps60
        go_wp2_with (first
          | (go_at_call_of 56 (Value.int .i64 24); refine Calls.mono (H1.out _) ?_; rintro e w' ⟨rfl, rfl⟩)
          | (go_at_call 56; refine Calls.mono (H3.out _) ?_; rintro e w' ⟨rfl, rfl⟩))
        go_loop [6] (fun i => ∃ k : Nat, k ≤ L.length ∧ i = .int .i64 k ∧ wB (-1000000) 1000000 (L.take k) = true) (fun i => L.length - (intOf i).toNat)
        case atStart => exact ⟨0, Nat.zero_le _, rfl, by simp [wB]⟩
        case round =>
          obtain ⟨k, hk, rfl, hw⟩ := hrel
          by_cases hlt : k < L.length
          · obtain ⟨b, off, x, rfl, hb, hx, hc⟩ := h.at_ hlt
            have HX := Lib.hid hx
            clear hx
            by_cases g : -1000000 ≤ x ∧ x ≤ 1000000
            · have HV2 := Lib.hid (show wB (-1000000) 1000000 (L.take (k + 1)) = true by rw [wB_step HX.out, hw]; simp [g])
              have HG := Lib.hid (rwithin_yes g.1 g.2)
              clear hw g
              go_wp2_with (go_at_call 56; refine Calls.mono (HG.out _) ?_; rintro e w' ⟨rfl, rfl⟩)
              go_round
              case rel => exact ⟨k + 1, by omega, by go_num, HV2.out⟩
              case measure => simp [intOf]; omega
            · have HG := Lib.hid (rwithin_no g)
              have HE := Lib.hid (show teB L t = false by rw [HV.out]; exact wB_bad HX.out (by omega))
              clear hw g
              go_wp2_with (go_at_call 56; refine Calls.mono (HG.out _) ?_; rintro e w' ⟨rfl, rfl⟩)
              go_ret
              exact ⟨ret_bool HE.out.symm, rfl⟩
          · have HE := Lib.hid (show teB L t = true by rw [HV.out, ← hw, List.take_of_length_le (by omega)])
            obtain rfl : k = L.length := by omega
            clear hw
            go_wp2
            go_ret
            exact ⟨ret_bool HE.out.symm, rfl⟩
      · have HE := Lib.hid (show teB L t = false by unfold teB; simp [h4])
        have h4' : (((L.length : Int) % t) != 0) = true := by simpa using h4
        obtain ⟨t1, t2⟩ := h3
        clear h4
        go_enter Try.func60, Try.ntmps60
        go_wp2_with (first
          | (go_at_call_of 56 (Value.int .i64 24); refine Calls.mono (H1.out _) ?_; rintro e w' ⟨rfl, rfl⟩)
          | (go_at_call 56; refine Calls.mono (H3.out _) ?_; rintro e w' ⟨rfl, rfl⟩))
        go_ret
        exact ⟨ret_bool HE.out.symm, rfl⟩
    · have H3 := Lib.hid (rwithin_no h3)
      have HE := Lib.hid (show teB L t = false by unfold teB; simp; omega)
      clear h3
      go_enter Try.func60, Try.ntmps60
      go_wp2_with (first
        | (go_at_call_of 56 (Value.int .i64 24); refine Calls.mono (H1.out _) ?_; rintro e w' ⟨rfl, rfl⟩)
        | (go_at_call 56; refine Calls.mono (H3.out _) ?_; rintro e w' ⟨rfl, rfl⟩))
      go_ret
      exact ⟨ret_bool HE.out.symm, rfl⟩
  · have H1 := Lib.hid (rwithin_no (a := (L.length : Int)) (b := 1) (c := 24) (by omega))
    have HE := Lib.hid (show teB L t = false by unfold teB; simp; omega)
    clear h1
    go_enter Try.func60, Try.ntmps60
    go_wp2_with (go_at_call 56; refine Calls.mono (H1.out _) ?_; rintro e w' ⟨rfl, rfl⟩)
    go_ret
    exact ⟨ret_bool HE.out.symm, rfl⟩

end Go.Proofs.Ytliocbjmledfbaa

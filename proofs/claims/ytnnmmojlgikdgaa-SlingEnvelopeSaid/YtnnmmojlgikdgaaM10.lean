/- Contracts of the functions that the statement reaches: JKeepR, JGustR, JKeepLaw. -/
import Derived.Test.YtnnmmojlgikdgaaM9
import Derived.Test.YtnnmmojlgikdgaaM7

/- Keeps of the reference. -/
namespace Go.Proofs.Ytnnmmojlgikdgaa
open Go.RowKit

theorem rnum_any (gl gh nn : Int) (Ab : Option Addr) (nb cb B : Nat) (b : List (Int × Int)) (w : World) (hc : chkB b = true) (hv : vS (gl, gh) = true) (hb : b.length = nb) (hB : B ≤ w.heap.size) (hr : RS w B Ab b) :
    Calls Try.prog 70 #[.slice Ab nb cb, .agg #[.int .i64 gl, .int .i64 gh], .int .i64 nn] w fun e w' => e = .returned (.int .i64 (if saB b gl gh nn then 0 else 1)) ∧ Below w.heap.size w w' := by
  by_cases h2 : b.length = 2
  · obtain ⟨⟨a1, a2⟩, ⟨c1, c2⟩, rfl⟩ := list_two h2
    rw [saB_nu hc hv]
    obtain rfl : nb = 2 := by rw [← hb]; rfl
    exact checkNumbers_two a1 a2 c1 c2 gl gh nn Ab cb B w hB hr
  · rw [saB_len h2]
    exact checkNumbers_no gl gh nn Ab nb cb w (by omega)

set_option maxRecDepth 100000 in
set_option maxHeartbeats 2000000 in
theorem rkeepsT_any (N D d gl gh nn lo hi : Int) (Ab : Option Addr) (nb cb B : Nat) (b : List (Int × Int)) (w : World) (hb : b.length = nb) (hnb : nb ≤ maxLen) (hB : B ≤ w.heap.size) (hr : RS w B Ab b) :
    Calls Try.prog 29 #[.agg #[.int .i64 N, .int .i64 D, .int .i64 d], .slice Ab nb cb, .agg #[.int .i64 gl, .int .i64 gh], .int .i64 nn, .agg #[.int .i64 lo, .int .i64 hi]] w fun e w' => e = .returned (.tuple #[.int .i64 (kpN N D d b gl gh nn lo hi).1.1, .bool (kpN N D d b gl gh nn lo hi).1.2, .int .i64 (kpN N D d b gl gh nn lo hi).2]) ∧ Below w.heap.size w w' := by
  have HA0 := Lib.hid ((AV.start (N := N) (D := D) (d := d) (gl := gl) (gh := gh) (w := w)).alloc (.cells #[.int .i64 lo, .int .i64 hi] 27))
  have HL0 := Lib.hid (blk_new ((w.alloc (.cells #[.int .i64 N, .int .i64 D, .int .i64 d] 23)).alloc (.cells #[.int .i64 gl, .int .i64 gh] 27)) (.cells #[.int .i64 lo, .int .i64 hi] 27) (w.heap.size + 1 + 1) (by simp))
  have HC := Lib.hid (fun W => rslcheck_any N D d W)
  have HCB := Lib.hid (fun (W : World) (hW : Below w.heap.size w W) => rcheck_any Ab nb cb w.heap.size b W hb hnb hW.size ((hr.more hB).below hW))
  have HV := Lib.hid (fun W => rvalid_any gl gh W)
  rw [← vS_vI gl gh] at HV
  have HW := Lib.hid (fun W => rvalid_any lo hi W)
  rw [← vS_vI lo hi] at HW
  have no : ∀ E, alE N D d b gl gh nn [(lo, hi)] = E → E ≠ 0 → kpN N D d b gl gh nn lo hi = ((0, false), E) := fun E h h0 => by unfold kpN; rw [h, if_neg h0]
  cases hs : slB N D d with
  | false =>
    rw [no 70 (by unfold alE; rw [hs]; rfl) (by decide)]
    rw [slE_no hs] at HC
    clear hs hr hb no
    go_enter Try.func29, Try.ntmps29
    go_upto_region 1 with (fail)
    generalize World.alloc _ _ = w1 at *
    have s0 := cellOf (o := 0) HA0.out.s rfl
    have s1 := cellOf (o := 1) HA0.out.s rfl
    have s2 := cellOf (o := 2) HA0.out.s rfl
    have g0 := cellOf (o := 0) HA0.out.g rfl
    have g1 := cellOf (o := 1) HA0.out.g rfl
    have x0 := cellOf (o := 0) HL0.out rfl
    have x1 := cellOf (o := 1) HL0.out rfl
    have l0 := lt_of_block HA0.out.s
    have l1 := lt_of_block HA0.out.g
    have l2 := lt_of_block HL0.out
    go_wp2_with (first
      | (go_at_call 16; refine Calls.mono (HC.out _) ?_; rintro e w2 ⟨rfl, hb2⟩; have HA2 := Lib.hid (HA0.out.next hb2); have HL2 := Lib.hid ((hb2.block _ (lt_of_block HL0.out)).trans HL0.out); clear hb2 s0 s1 s2 g0 g1 x0 x1 l0 l1 l2; have s0 := cellOf (o := 0) HA2.out.s rfl; have s1 := cellOf (o := 1) HA2.out.s rfl; have s2 := cellOf (o := 2) HA2.out.s rfl; have g0 := cellOf (o := 0) HA2.out.g rfl; have g1 := cellOf (o := 1) HA2.out.g rfl; have x0 := cellOf (o := 0) HL2.out rfl; have x1 := cellOf (o := 1) HL2.out rfl; have l0 := lt_of_block HA2.out.s; have l1 := lt_of_block HA2.out.g; have l2 := lt_of_block HL2.out))
    go_ret3
    exact ⟨by first | rfl | (simp; done), HA2.out.b⟩
  | true =>
    rw [slE_yes hs] at HC
    cases hc : chkB b with
    | false =>
      rw [no 10 (by unfold alE; rw [hs, hc]; rfl) (by decide)]
      rw [chkE_no hc] at HCB
      clear hs hc hr hb no
      go_enter Try.func29, Try.ntmps29
      go_upto_region 1 with (fail)
      generalize World.alloc _ _ = w1 at *
      have s0 := cellOf (o := 0) HA0.out.s rfl
      have s1 := cellOf (o := 1) HA0.out.s rfl
      have s2 := cellOf (o := 2) HA0.out.s rfl
      have g0 := cellOf (o := 0) HA0.out.g rfl
      have g1 := cellOf (o := 1) HA0.out.g rfl
      have x0 := cellOf (o := 0) HL0.out rfl
      have x1 := cellOf (o := 1) HL0.out rfl
      have l0 := lt_of_block HA0.out.s
      have l1 := lt_of_block HA0.out.g
      have l2 := lt_of_block HL0.out
      go_wp2_with (first
        | (go_at_call 16; refine Calls.mono (HC.out _) ?_; rintro e w2 ⟨rfl, hb2⟩; have HA2 := Lib.hid (HA0.out.next hb2); have HL2 := Lib.hid ((hb2.block _ (lt_of_block HL0.out)).trans HL0.out); clear hb2 s0 s1 s2 g0 g1 x0 x1 l0 l1 l2; have s0 := cellOf (o := 0) HA2.out.s rfl; have s1 := cellOf (o := 1) HA2.out.s rfl; have s2 := cellOf (o := 2) HA2.out.s rfl; have g0 := cellOf (o := 0) HA2.out.g rfl; have g1 := cellOf (o := 1) HA2.out.g rfl; have x0 := cellOf (o := 0) HL2.out rfl; have x1 := cellOf (o := 1) HL2.out rfl; have l0 := lt_of_block HA2.out.s; have l1 := lt_of_block HA2.out.g; have l2 := lt_of_block HL2.out)
        | (go_at_call 69; refine Calls.mono (HCB.out _ HA2.out.b) ?_; rintro e w3 ⟨rfl, hb3⟩; have HA3 := Lib.hid (HA2.out.next hb3); have HL3 := Lib.hid ((hb3.block _ (lt_of_block HL2.out)).trans HL2.out); clear hb3 s0 s1 s2 g0 g1 x0 x1 l0 l1 l2; have s0 := cellOf (o := 0) HA3.out.s rfl; have s1 := cellOf (o := 1) HA3.out.s rfl; have s2 := cellOf (o := 2) HA3.out.s rfl; have g0 := cellOf (o := 0) HA3.out.g rfl; have g1 := cellOf (o := 1) HA3.out.g rfl; have x0 := cellOf (o := 0) HL3.out rfl; have x1 := cellOf (o := 1) HL3.out rfl; have l0 := lt_of_block HA3.out.s; have l1 := lt_of_block HA3.out.g; have l2 := lt_of_block HL3.out))
      go_ret3
      exact ⟨by first | rfl | (simp; done), HA3.out.b⟩
    | true =>
      rw [chkE_yes hc] at HCB
      cases hv : vS (gl, gh) with
      | false =>
        rw [no 10 (by unfold alE; rw [hs, hc, hv]; rfl) (by decide)]
        rw [hv] at HV
        clear hs hc hv hr hb no
        go_enter Try.func29, Try.ntmps29
        go_upto_region 1 with (fail)
        generalize World.alloc _ _ = w1 at *
        have s0 := cellOf (o := 0) HA0.out.s rfl
        have s1 := cellOf (o := 1) HA0.out.s rfl
        have s2 := cellOf (o := 2) HA0.out.s rfl
        have g0 := cellOf (o := 0) HA0.out.g rfl
        have g1 := cellOf (o := 1) HA0.out.g rfl
        have x0 := cellOf (o := 0) HL0.out rfl
        have x1 := cellOf (o := 1) HL0.out rfl
        have l0 := lt_of_block HA0.out.s
        have l1 := lt_of_block HA0.out.g
        have l2 := lt_of_block HL0.out
        go_wp2_with (first
          | (go_at_call 16; refine Calls.mono (HC.out _) ?_; rintro e w2 ⟨rfl, hb2⟩; have HA2 := Lib.hid (HA0.out.next hb2); have HL2 := Lib.hid ((hb2.block _ (lt_of_block HL0.out)).trans HL0.out); clear hb2 s0 s1 s2 g0 g1 x0 x1 l0 l1 l2; have s0 := cellOf (o := 0) HA2.out.s rfl; have s1 := cellOf (o := 1) HA2.out.s rfl; have s2 := cellOf (o := 2) HA2.out.s rfl; have g0 := cellOf (o := 0) HA2.out.g rfl; have g1 := cellOf (o := 1) HA2.out.g rfl; have x0 := cellOf (o := 0) HL2.out rfl; have x1 := cellOf (o := 1) HL2.out rfl; have l0 := lt_of_block HA2.out.s; have l1 := lt_of_block HA2.out.g; have l2 := lt_of_block HL2.out)
          | (go_at_call 69; refine Calls.mono (HCB.out _ HA2.out.b) ?_; rintro e w3 ⟨rfl, hb3⟩; have HA3 := Lib.hid (HA2.out.next hb3); have HL3 := Lib.hid ((hb3.block _ (lt_of_block HL2.out)).trans HL2.out); clear hb3 s0 s1 s2 g0 g1 x0 x1 l0 l1 l2; have s0 := cellOf (o := 0) HA3.out.s rfl; have s1 := cellOf (o := 1) HA3.out.s rfl; have s2 := cellOf (o := 2) HA3.out.s rfl; have g0 := cellOf (o := 0) HA3.out.g rfl; have g1 := cellOf (o := 1) HA3.out.g rfl; have x0 := cellOf (o := 0) HL3.out rfl; have x1 := cellOf (o := 1) HL3.out rfl; have l0 := lt_of_block HA3.out.s; have l1 := lt_of_block HA3.out.g; have l2 := lt_of_block HL3.out)
          | (go_at_call_of 61 (Value.agg #[.int .i64 gl, .int .i64 gh]); refine Calls.mono (HV.out _) ?_; rintro e w4 ⟨rfl, hb4⟩; have HA4 := Lib.hid (HA3.out.next hb4); have HL4 := Lib.hid ((hb4.block _ (lt_of_block HL3.out)).trans HL3.out); clear hb4 s0 s1 s2 g0 g1 x0 x1 l0 l1 l2; have s0 := cellOf (o := 0) HA4.out.s rfl; have s1 := cellOf (o := 1) HA4.out.s rfl; have s2 := cellOf (o := 2) HA4.out.s rfl; have g0 := cellOf (o := 0) HA4.out.g rfl; have g1 := cellOf (o := 1) HA4.out.g rfl; have x0 := cellOf (o := 0) HL4.out rfl; have x1 := cellOf (o := 1) HL4.out rfl; have l0 := lt_of_block HA4.out.s; have l1 := lt_of_block HA4.out.g; have l2 := lt_of_block HL4.out))
        go_ret3
        exact ⟨by first | rfl | (simp; done), HA4.out.b⟩
      | true =>
        rw [hv] at HV
        cases hl : vS (lo, hi) with
        | false =>
          rw [no 10 (by unfold alE; rw [hs, hc, hv]; simp [hl]) (by decide)]
          rw [hl] at HW
          clear hs hc hv hl hr hb no
          go_enter Try.func29, Try.ntmps29
          go_upto_region 1 with (fail)
          generalize World.alloc _ _ = w1 at *
          have s0 := cellOf (o := 0) HA0.out.s rfl
          have s1 := cellOf (o := 1) HA0.out.s rfl
          have s2 := cellOf (o := 2) HA0.out.s rfl
          have g0 := cellOf (o := 0) HA0.out.g rfl
          have g1 := cellOf (o := 1) HA0.out.g rfl
          have x0 := cellOf (o := 0) HL0.out rfl
          have x1 := cellOf (o := 1) HL0.out rfl
          have l0 := lt_of_block HA0.out.s
          have l1 := lt_of_block HA0.out.g
          have l2 := lt_of_block HL0.out
          go_wp2_with (first
            | (go_at_call 16; refine Calls.mono (HC.out _) ?_; rintro e w2 ⟨rfl, hb2⟩; have HA2 := Lib.hid (HA0.out.next hb2); have HL2 := Lib.hid ((hb2.block _ (lt_of_block HL0.out)).trans HL0.out); clear hb2 s0 s1 s2 g0 g1 x0 x1 l0 l1 l2; have s0 := cellOf (o := 0) HA2.out.s rfl; have s1 := cellOf (o := 1) HA2.out.s rfl; have s2 := cellOf (o := 2) HA2.out.s rfl; have g0 := cellOf (o := 0) HA2.out.g rfl; have g1 := cellOf (o := 1) HA2.out.g rfl; have x0 := cellOf (o := 0) HL2.out rfl; have x1 := cellOf (o := 1) HL2.out rfl; have l0 := lt_of_block HA2.out.s; have l1 := lt_of_block HA2.out.g; have l2 := lt_of_block HL2.out)
            | (go_at_call 69; refine Calls.mono (HCB.out _ HA2.out.b) ?_; rintro e w3 ⟨rfl, hb3⟩; have HA3 := Lib.hid (HA2.out.next hb3); have HL3 := Lib.hid ((hb3.block _ (lt_of_block HL2.out)).trans HL2.out); clear hb3 s0 s1 s2 g0 g1 x0 x1 l0 l1 l2; have s0 := cellOf (o := 0) HA3.out.s rfl; have s1 := cellOf (o := 1) HA3.out.s rfl; have s2 := cellOf (o := 2) HA3.out.s rfl; have g0 := cellOf (o := 0) HA3.out.g rfl; have g1 := cellOf (o := 1) HA3.out.g rfl; have x0 := cellOf (o := 0) HL3.out rfl; have x1 := cellOf (o := 1) HL3.out rfl; have l0 := lt_of_block HA3.out.s; have l1 := lt_of_block HA3.out.g; have l2 := lt_of_block HL3.out)
            | (go_at_call_of 61 (Value.agg #[.int .i64 gl, .int .i64 gh]); refine Calls.mono (HV.out _) ?_; rintro e w4 ⟨rfl, hb4⟩; have HA4 := Lib.hid (HA3.out.next hb4); have HL4 := Lib.hid ((hb4.block _ (lt_of_block HL3.out)).trans HL3.out); clear hb4 s0 s1 s2 g0 g1 x0 x1 l0 l1 l2; have s0 := cellOf (o := 0) HA4.out.s rfl; have s1 := cellOf (o := 1) HA4.out.s rfl; have s2 := cellOf (o := 2) HA4.out.s rfl; have g0 := cellOf (o := 0) HA4.out.g rfl; have g1 := cellOf (o := 1) HA4.out.g rfl; have x0 := cellOf (o := 0) HL4.out rfl; have x1 := cellOf (o := 1) HL4.out rfl; have l0 := lt_of_block HA4.out.s; have l1 := lt_of_block HA4.out.g; have l2 := lt_of_block HL4.out)
            | (go_at_call_of 61 (Value.agg #[.int .i64 lo, .int .i64 hi]); refine Calls.mono (HW.out _) ?_; rintro e w5 ⟨rfl, hb5⟩; have HA5 := Lib.hid (HA4.out.next hb5); have HL5 := Lib.hid ((hb5.block _ (lt_of_block HL4.out)).trans HL4.out); clear hb5 s0 s1 s2 g0 g1 x0 x1 l0 l1 l2; have s0 := cellOf (o := 0) HA5.out.s rfl; have s1 := cellOf (o := 1) HA5.out.s rfl; have s2 := cellOf (o := 2) HA5.out.s rfl; have g0 := cellOf (o := 0) HA5.out.g rfl; have g1 := cellOf (o := 1) HA5.out.g rfl; have x0 := cellOf (o := 0) HL5.out rfl; have x1 := cellOf (o := 1) HL5.out rfl; have l0 := lt_of_block HA5.out.s; have l1 := lt_of_block HA5.out.g; have l2 := lt_of_block HL5.out))
          go_ret3
          exact ⟨by first | rfl | (simp; done), HA5.out.b⟩
        | true =>
          rw [hl] at HW
          have HN := Lib.hid (fun (W : World) (hW : Below w.heap.size w W) => rnum_any gl gh nn Ab nb cb w.heap.size b W hc hv hb hW.size ((hr.more hB).below hW))
          cases hsa : saB b gl gh nn with
          | false =>
            rw [no 1 (by unfold alE; rw [hs, hc, hv]; simp [hl, hsa]) (by decide)]
            rw [hsa] at HN
            clear hs hc hv hl hsa hr hb no
            go_enter Try.func29, Try.ntmps29
            go_upto_region 1 with (fail)
            generalize World.alloc _ _ = w1 at *
            have s0 := cellOf (o := 0) HA0.out.s rfl
            have s1 := cellOf (o := 1) HA0.out.s rfl
            have s2 := cellOf (o := 2) HA0.out.s rfl
            have g0 := cellOf (o := 0) HA0.out.g rfl
            have g1 := cellOf (o := 1) HA0.out.g rfl
            have x0 := cellOf (o := 0) HL0.out rfl
            have x1 := cellOf (o := 1) HL0.out rfl
            have l0 := lt_of_block HA0.out.s
            have l1 := lt_of_block HA0.out.g
            have l2 := lt_of_block HL0.out
            go_wp2_with (first
              | (go_at_call 16; refine Calls.mono (HC.out _) ?_; rintro e w2 ⟨rfl, hb2⟩; have HA2 := Lib.hid (HA0.out.next hb2); have HL2 := Lib.hid ((hb2.block _ (lt_of_block HL0.out)).trans HL0.out); clear hb2 s0 s1 s2 g0 g1 x0 x1 l0 l1 l2; have s0 := cellOf (o := 0) HA2.out.s rfl; have s1 := cellOf (o := 1) HA2.out.s rfl; have s2 := cellOf (o := 2) HA2.out.s rfl; have g0 := cellOf (o := 0) HA2.out.g rfl; have g1 := cellOf (o := 1) HA2.out.g rfl; have x0 := cellOf (o := 0) HL2.out rfl; have x1 := cellOf (o := 1) HL2.out rfl; have l0 := lt_of_block HA2.out.s; have l1 := lt_of_block HA2.out.g; have l2 := lt_of_block HL2.out)
              | (go_at_call 69; refine Calls.mono (HCB.out _ HA2.out.b) ?_; rintro e w3 ⟨rfl, hb3⟩; have HA3 := Lib.hid (HA2.out.next hb3); have HL3 := Lib.hid ((hb3.block _ (lt_of_block HL2.out)).trans HL2.out); clear hb3 s0 s1 s2 g0 g1 x0 x1 l0 l1 l2; have s0 := cellOf (o := 0) HA3.out.s rfl; have s1 := cellOf (o := 1) HA3.out.s rfl; have s2 := cellOf (o := 2) HA3.out.s rfl; have g0 := cellOf (o := 0) HA3.out.g rfl; have g1 := cellOf (o := 1) HA3.out.g rfl; have x0 := cellOf (o := 0) HL3.out rfl; have x1 := cellOf (o := 1) HL3.out rfl; have l0 := lt_of_block HA3.out.s; have l1 := lt_of_block HA3.out.g; have l2 := lt_of_block HL3.out)
              | (go_at_call_of 61 (Value.agg #[.int .i64 gl, .int .i64 gh]); refine Calls.mono (HV.out _) ?_; rintro e w4 ⟨rfl, hb4⟩; have HA4 := Lib.hid (HA3.out.next hb4); have HL4 := Lib.hid ((hb4.block _ (lt_of_block HL3.out)).trans HL3.out); clear hb4 s0 s1 s2 g0 g1 x0 x1 l0 l1 l2; have s0 := cellOf (o := 0) HA4.out.s rfl; have s1 := cellOf (o := 1) HA4.out.s rfl; have s2 := cellOf (o := 2) HA4.out.s rfl; have g0 := cellOf (o := 0) HA4.out.g rfl; have g1 := cellOf (o := 1) HA4.out.g rfl; have x0 := cellOf (o := 0) HL4.out rfl; have x1 := cellOf (o := 1) HL4.out rfl; have l0 := lt_of_block HA4.out.s; have l1 := lt_of_block HA4.out.g; have l2 := lt_of_block HL4.out)
              | (go_at_call_of 61 (Value.agg #[.int .i64 lo, .int .i64 hi]); refine Calls.mono (HW.out _) ?_; rintro e w5 ⟨rfl, hb5⟩; have HA5 := Lib.hid (HA4.out.next hb5); have HL5 := Lib.hid ((hb5.block _ (lt_of_block HL4.out)).trans HL4.out); clear hb5 s0 s1 s2 g0 g1 x0 x1 l0 l1 l2; have s0 := cellOf (o := 0) HA5.out.s rfl; have s1 := cellOf (o := 1) HA5.out.s rfl; have s2 := cellOf (o := 2) HA5.out.s rfl; have g0 := cellOf (o := 0) HA5.out.g rfl; have g1 := cellOf (o := 1) HA5.out.g rfl; have x0 := cellOf (o := 0) HL5.out rfl; have x1 := cellOf (o := 1) HL5.out rfl; have l0 := lt_of_block HA5.out.s; have l1 := lt_of_block HA5.out.g; have l2 := lt_of_block HL5.out)
              | (go_at_call 70; refine Calls.mono (HN.out _ HA5.out.b) ?_; rintro e w6 ⟨rfl, hb6⟩; have HA6 := Lib.hid (HA5.out.next hb6); have HL6 := Lib.hid ((hb6.block _ (lt_of_block HL5.out)).trans HL5.out); clear hb6 s0 s1 s2 g0 g1 x0 x1 l0 l1 l2; have s0 := cellOf (o := 0) HA6.out.s rfl; have s1 := cellOf (o := 1) HA6.out.s rfl; have s2 := cellOf (o := 2) HA6.out.s rfl; have g0 := cellOf (o := 0) HA6.out.g rfl; have g1 := cellOf (o := 1) HA6.out.g rfl; have x0 := cellOf (o := 0) HL6.out rfl; have x1 := cellOf (o := 1) HL6.out rfl; have l0 := lt_of_block HA6.out.s; have l1 := lt_of_block HA6.out.g; have l2 := lt_of_block HL6.out))
            go_ret3
            exact ⟨by first | rfl | (simp; done), HA6.out.b⟩
          | true =>
            have hnn : 0 ≤ nn ∧ nn ≤ 16 := by unfold saB at hsa; simp at hsa; exact hsa.1.2
            have hb2 : b.length = 2 := by unfold saB at hsa; simp at hsa; exact hsa.1.1.1
            obtain ⟨m, rfl⟩ : ∃ m : Nat, nn = (m : Int) := ⟨nn.toNat, by omega⟩
            have hm : m ≤ 16 := by omega
            have HK := Lib.hid (fun (W : World) (hW : Below w.heap.size w W) => rkeeps7_any N D d gl gh lo hi Ab nb cb m w.heap.size b W hs hl hm hb (by omega) (sb_of hsa m) (sv_of hc hv m) hW.size ((hr.more hB).below hW))
            have hk : kpN N D d b gl gh (m : Int) lo hi = (keN N D d (b ++ List.replicate m (gl, gh)) lo hi m, 0) := by
              unfold kpN
              rw [if_pos (by unfold alE; rw [hs, hc, hv]; simp [hl, hsa]), Int.toNat_natCast]
            rw [hk]
            rw [hsa] at HN
            unfold keN
            unfold rkN at HK
            obtain ⟨s, hs9⟩ : ∃ s, stF (kpB N D d (b ++ List.replicate m (gl, gh)) lo hi) 0 (m + 1) = s := ⟨_, rfl⟩
            rw [hs9] at HK ⊢
            clear hs hc hv hl hsa hr hb no hk hnn hb2 hs9
            by_cases hsm : s ≤ m
            · rw [if_pos hsm] at HK ⊢
              have hs0 : ¬ ((s : Int) < 0) := by omega
              clear hsm
              go_enter Try.func29, Try.ntmps29
              go_upto_region 1 with (fail)
              generalize World.alloc _ _ = w1 at *
              have s0 := cellOf (o := 0) HA0.out.s rfl
              have s1 := cellOf (o := 1) HA0.out.s rfl
              have s2 := cellOf (o := 2) HA0.out.s rfl
              have g0 := cellOf (o := 0) HA0.out.g rfl
              have g1 := cellOf (o := 1) HA0.out.g rfl
              have x0 := cellOf (o := 0) HL0.out rfl
              have x1 := cellOf (o := 1) HL0.out rfl
              have l0 := lt_of_block HA0.out.s
              have l1 := lt_of_block HA0.out.g
              have l2 := lt_of_block HL0.out
              go_wp2_with (first
                | (go_at_call 16; refine Calls.mono (HC.out _) ?_; rintro e w2 ⟨rfl, hb2⟩; have HA2 := Lib.hid (HA0.out.next hb2); have HL2 := Lib.hid ((hb2.block _ (lt_of_block HL0.out)).trans HL0.out); clear hb2 s0 s1 s2 g0 g1 x0 x1 l0 l1 l2; have s0 := cellOf (o := 0) HA2.out.s rfl; have s1 := cellOf (o := 1) HA2.out.s rfl; have s2 := cellOf (o := 2) HA2.out.s rfl; have g0 := cellOf (o := 0) HA2.out.g rfl; have g1 := cellOf (o := 1) HA2.out.g rfl; have x0 := cellOf (o := 0) HL2.out rfl; have x1 := cellOf (o := 1) HL2.out rfl; have l0 := lt_of_block HA2.out.s; have l1 := lt_of_block HA2.out.g; have l2 := lt_of_block HL2.out)
                | (go_at_call 69; refine Calls.mono (HCB.out _ HA2.out.b) ?_; rintro e w3 ⟨rfl, hb3⟩; have HA3 := Lib.hid (HA2.out.next hb3); have HL3 := Lib.hid ((hb3.block _ (lt_of_block HL2.out)).trans HL2.out); clear hb3 s0 s1 s2 g0 g1 x0 x1 l0 l1 l2; have s0 := cellOf (o := 0) HA3.out.s rfl; have s1 := cellOf (o := 1) HA3.out.s rfl; have s2 := cellOf (o := 2) HA3.out.s rfl; have g0 := cellOf (o := 0) HA3.out.g rfl; have g1 := cellOf (o := 1) HA3.out.g rfl; have x0 := cellOf (o := 0) HL3.out rfl; have x1 := cellOf (o := 1) HL3.out rfl; have l0 := lt_of_block HA3.out.s; have l1 := lt_of_block HA3.out.g; have l2 := lt_of_block HL3.out)
                | (go_at_call_of 61 (Value.agg #[.int .i64 gl, .int .i64 gh]); refine Calls.mono (HV.out _) ?_; rintro e w4 ⟨rfl, hb4⟩; have HA4 := Lib.hid (HA3.out.next hb4); have HL4 := Lib.hid ((hb4.block _ (lt_of_block HL3.out)).trans HL3.out); clear hb4 s0 s1 s2 g0 g1 x0 x1 l0 l1 l2; have s0 := cellOf (o := 0) HA4.out.s rfl; have s1 := cellOf (o := 1) HA4.out.s rfl; have s2 := cellOf (o := 2) HA4.out.s rfl; have g0 := cellOf (o := 0) HA4.out.g rfl; have g1 := cellOf (o := 1) HA4.out.g rfl; have x0 := cellOf (o := 0) HL4.out rfl; have x1 := cellOf (o := 1) HL4.out rfl; have l0 := lt_of_block HA4.out.s; have l1 := lt_of_block HA4.out.g; have l2 := lt_of_block HL4.out)
                | (go_at_call_of 61 (Value.agg #[.int .i64 lo, .int .i64 hi]); refine Calls.mono (HW.out _) ?_; rintro e w5 ⟨rfl, hb5⟩; have HA5 := Lib.hid (HA4.out.next hb5); have HL5 := Lib.hid ((hb5.block _ (lt_of_block HL4.out)).trans HL4.out); clear hb5 s0 s1 s2 g0 g1 x0 x1 l0 l1 l2; have s0 := cellOf (o := 0) HA5.out.s rfl; have s1 := cellOf (o := 1) HA5.out.s rfl; have s2 := cellOf (o := 2) HA5.out.s rfl; have g0 := cellOf (o := 0) HA5.out.g rfl; have g1 := cellOf (o := 1) HA5.out.g rfl; have x0 := cellOf (o := 0) HL5.out rfl; have x1 := cellOf (o := 1) HL5.out rfl; have l0 := lt_of_block HA5.out.s; have l1 := lt_of_block HA5.out.g; have l2 := lt_of_block HL5.out)
                | (go_at_call 70; refine Calls.mono (HN.out _ HA5.out.b) ?_; rintro e w6 ⟨rfl, hb6⟩; have HA6 := Lib.hid (HA5.out.next hb6); have HL6 := Lib.hid ((hb6.block _ (lt_of_block HL5.out)).trans HL5.out); clear hb6 s0 s1 s2 g0 g1 x0 x1 l0 l1 l2; have s0 := cellOf (o := 0) HA6.out.s rfl; have s1 := cellOf (o := 1) HA6.out.s rfl; have s2 := cellOf (o := 2) HA6.out.s rfl; have g0 := cellOf (o := 0) HA6.out.g rfl; have g1 := cellOf (o := 1) HA6.out.g rfl; have x0 := cellOf (o := 0) HL6.out rfl; have x1 := cellOf (o := 1) HL6.out rfl; have l0 := lt_of_block HA6.out.s; have l1 := lt_of_block HA6.out.g; have l2 := lt_of_block HL6.out)
                | (go_at_call 71; refine Calls.mono (HK.out _ HA6.out.b) ?_; rintro e w7 ⟨rfl, hb7⟩; have HA7 := Lib.hid (HA6.out.next hb7); clear hb7))
              go_ret3
              exact ⟨by first | rfl | (simp; done), HA7.out.b⟩
            · rw [if_neg hsm] at HK ⊢
              clear hsm
              go_enter Try.func29, Try.ntmps29
              go_upto_region 1 with (fail)
              generalize World.alloc _ _ = w1 at *
              have s0 := cellOf (o := 0) HA0.out.s rfl
              have s1 := cellOf (o := 1) HA0.out.s rfl
              have s2 := cellOf (o := 2) HA0.out.s rfl
              have g0 := cellOf (o := 0) HA0.out.g rfl
              have g1 := cellOf (o := 1) HA0.out.g rfl
              have x0 := cellOf (o := 0) HL0.out rfl
              have x1 := cellOf (o := 1) HL0.out rfl
              have l0 := lt_of_block HA0.out.s
              have l1 := lt_of_block HA0.out.g
              have l2 := lt_of_block HL0.out
              go_wp2_with (first
                | (go_at_call 16; refine Calls.mono (HC.out _) ?_; rintro e w2 ⟨rfl, hb2⟩; have HA2 := Lib.hid (HA0.out.next hb2); have HL2 := Lib.hid ((hb2.block _ (lt_of_block HL0.out)).trans HL0.out); clear hb2 s0 s1 s2 g0 g1 x0 x1 l0 l1 l2; have s0 := cellOf (o := 0) HA2.out.s rfl; have s1 := cellOf (o := 1) HA2.out.s rfl; have s2 := cellOf (o := 2) HA2.out.s rfl; have g0 := cellOf (o := 0) HA2.out.g rfl; have g1 := cellOf (o := 1) HA2.out.g rfl; have x0 := cellOf (o := 0) HL2.out rfl; have x1 := cellOf (o := 1) HL2.out rfl; have l0 := lt_of_block HA2.out.s; have l1 := lt_of_block HA2.out.g; have l2 := lt_of_block HL2.out)
                | (go_at_call 69; refine Calls.mono (HCB.out _ HA2.out.b) ?_; rintro e w3 ⟨rfl, hb3⟩; have HA3 := Lib.hid (HA2.out.next hb3); have HL3 := Lib.hid ((hb3.block _ (lt_of_block HL2.out)).trans HL2.out); clear hb3 s0 s1 s2 g0 g1 x0 x1 l0 l1 l2; have s0 := cellOf (o := 0) HA3.out.s rfl; have s1 := cellOf (o := 1) HA3.out.s rfl; have s2 := cellOf (o := 2) HA3.out.s rfl; have g0 := cellOf (o := 0) HA3.out.g rfl; have g1 := cellOf (o := 1) HA3.out.g rfl; have x0 := cellOf (o := 0) HL3.out rfl; have x1 := cellOf (o := 1) HL3.out rfl; have l0 := lt_of_block HA3.out.s; have l1 := lt_of_block HA3.out.g; have l2 := lt_of_block HL3.out)
                | (go_at_call_of 61 (Value.agg #[.int .i64 gl, .int .i64 gh]); refine Calls.mono (HV.out _) ?_; rintro e w4 ⟨rfl, hb4⟩; have HA4 := Lib.hid (HA3.out.next hb4); have HL4 := Lib.hid ((hb4.block _ (lt_of_block HL3.out)).trans HL3.out); clear hb4 s0 s1 s2 g0 g1 x0 x1 l0 l1 l2; have s0 := cellOf (o := 0) HA4.out.s rfl; have s1 := cellOf (o := 1) HA4.out.s rfl; have s2 := cellOf (o := 2) HA4.out.s rfl; have g0 := cellOf (o := 0) HA4.out.g rfl; have g1 := cellOf (o := 1) HA4.out.g rfl; have x0 := cellOf (o := 0) HL4.out rfl; have x1 := cellOf (o := 1) HL4.out rfl; have l0 := lt_of_block HA4.out.s; have l1 := lt_of_block HA4.out.g; have l2 := lt_of_block HL4.out)
                | (go_at_call_of 61 (Value.agg #[.int .i64 lo, .int .i64 hi]); refine Calls.mono (HW.out _) ?_; rintro e w5 ⟨rfl, hb5⟩; have HA5 := Lib.hid (HA4.out.next hb5); have HL5 := Lib.hid ((hb5.block _ (lt_of_block HL4.out)).trans HL4.out); clear hb5 s0 s1 s2 g0 g1 x0 x1 l0 l1 l2; have s0 := cellOf (o := 0) HA5.out.s rfl; have s1 := cellOf (o := 1) HA5.out.s rfl; have s2 := cellOf (o := 2) HA5.out.s rfl; have g0 := cellOf (o := 0) HA5.out.g rfl; have g1 := cellOf (o := 1) HA5.out.g rfl; have x0 := cellOf (o := 0) HL5.out rfl; have x1 := cellOf (o := 1) HL5.out rfl; have l0 := lt_of_block HA5.out.s; have l1 := lt_of_block HA5.out.g; have l2 := lt_of_block HL5.out)
                | (go_at_call 70; refine Calls.mono (HN.out _ HA5.out.b) ?_; rintro e w6 ⟨rfl, hb6⟩; have HA6 := Lib.hid (HA5.out.next hb6); have HL6 := Lib.hid ((hb6.block _ (lt_of_block HL5.out)).trans HL5.out); clear hb6 s0 s1 s2 g0 g1 x0 x1 l0 l1 l2; have s0 := cellOf (o := 0) HA6.out.s rfl; have s1 := cellOf (o := 1) HA6.out.s rfl; have s2 := cellOf (o := 2) HA6.out.s rfl; have g0 := cellOf (o := 0) HA6.out.g rfl; have g1 := cellOf (o := 1) HA6.out.g rfl; have x0 := cellOf (o := 0) HL6.out rfl; have x1 := cellOf (o := 1) HL6.out rfl; have l0 := lt_of_block HA6.out.s; have l1 := lt_of_block HA6.out.g; have l2 := lt_of_block HL6.out)
                | (go_at_call 71; refine Calls.mono (HK.out _ HA6.out.b) ?_; rintro e w7 ⟨rfl, hb7⟩; have HA7 := Lib.hid (HA6.out.next hb7); clear hb7))
              go_ret3
              exact ⟨by first | rfl | (simp; done), HA7.out.b⟩
end Go.Proofs.Ytnnmmojlgikdgaa

/- Gust of the reference. -/
namespace Go.Proofs.Ytnnmmojlgikdgaa
open Go.RowKit

def dnJ (p : Int → Bool) : Nat → Int
  | 0 => -1
  | k + 1 => if p (k : Int) then (k : Int) else dnJ p k
theorem dnJ_eq (p : Int → Bool) : ∀ k, dnI p k = dnJ p (k + 1)
  | 0 => rfl
  | k + 1 => by
    show (if p ((k + 1 : Nat) : Int) then ((k + 1 : Nat) : Int) else dnI p k) = (if p ((k + 1 : Nat) : Int) then ((k + 1 : Nat) : Int) else dnJ p (k + 1))
    rw [dnJ_eq p k]
theorem rkN_neg {N D d lo hi : Int} {S : List (Int × Int)} {k : Nat} : decide (rkN N D d S lo hi k < 0) = (keN N D d S lo hi k).2 := by
  unfold rkN keN
  by_cases h : stF (kpB N D d S lo hi) 0 (k + 1) ≤ k
  · rw [if_pos h, if_pos h]
    simp only [decide_eq_false_iff_not]
    omega
  · rw [if_neg h, if_neg h]
    rfl

set_option maxRecDepth 100000 in
set_option maxHeartbeats 2000000 in
theorem rgustT_any (N D d nn lo hi : Int) (Ab : Option Addr) (nb cb B : Nat) (b : List (Int × Int)) (w : World) (hb : b.length = nb) (hnb : nb ≤ maxLen) (hB : B ≤ w.heap.size) (hr : RS w B Ab b) :
    Calls Try.prog 31 #[.agg #[.int .i64 N, .int .i64 D, .int .i64 d], .slice Ab nb cb, .int .i64 nn, .agg #[.int .i64 lo, .int .i64 hi]] w fun e w' => e = .returned (.tuple #[.int .i64 (guN N D d b nn lo hi).1, .int .i64 (guN N D d b nn lo hi).2]) ∧ Below w.heap.size w w' := by
  have HA0 := Lib.hid (AV.start (N := N) (D := D) (d := d) (gl := lo) (gh := hi) (w := w))
  have HKT := Lib.hid (fun (W : World) (hW : Below w.heap.size w W) => rkeepsT_any N D d 0 0 nn lo hi Ab nb cb w.heap.size b W hb hnb hW.size ((hr.more hB).below hW))
  unfold guN
  by_cases h0 : alE N D d b 0 0 nn [(lo, hi)] = 0
  · rw [if_pos h0]
    obtain ⟨hs, hc, hv, hll, hsa⟩ := alE_zero h0
    have hl : vS (lo, hi) = true := by simpa using hll
    have hnn : 0 ≤ nn ∧ nn ≤ 16 := by unfold saB at hsa; simp at hsa; exact hsa.1.2
    have hb2 : b.length = 2 := by unfold saB at hsa; simp at hsa; exact hsa.1.1.1
    have hk : (kpN N D d b 0 0 nn lo hi).2 = 0 := by unfold kpN; rw [if_pos h0]
    rw [hk] at HKT
    obtain ⟨m, rfl⟩ : ∃ m : Nat, nn = (m : Int) := ⟨nn.toNat, by omega⟩
    rw [Int.toNat_natCast]
    have HRK := Lib.hid (fun (g : Nat) (hg : g ≤ 100) (W : World) (hW : Below w.heap.size w W) => rkeeps7_any N D d (-(g : Int)) g lo hi Ab nb cb m w.heap.size b W hs hl (by omega) hb (by omega) (sb_of (saB_gust hsa (by omega) (by omega)) m) (sv_of hc (vS_gust (by omega) (by omega)) m) hW.size ((hr.more hB).below hW))
    have HP := Lib.hid (fun (g : Nat) => show guB N D d b m lo hi (g : Int) = decide (rkN N D d (b ++ List.replicate m (-(g : Int), (g : Int))) lo hi m < 0) by rw [rkN_neg]; rfl)
    obtain ⟨p, hp⟩ : ∃ p, guB N D d b m lo hi = p := ⟨_, rfl⟩
    rw [hp] at HP ⊢
    have hd : dnI p 100 = dnJ p 101 := dnJ_eq p 100
    rw [hd]
    obtain ⟨r, hr9⟩ : ∃ r, dnJ p 101 = r := ⟨_, rfl⟩
    rw [hr9]
    have HR9 := Lib.hid hr9
    obtain ⟨⟨R1, R2⟩, hRR⟩ : ∃ R : Int × Int, (if 0 ≤ r then (r, (0 : Int)) else (0, 3)) = R := ⟨_, rfl⟩
    rw [hRR]
    have HRR := Lib.hid hRR
    simp only
    clear hRR
    generalize kpN N D d b 0 0 (m : Int) lo hi = kk at *
    obtain ⟨⟨kt, ki⟩, ke⟩ := kk
    simp only at HKT
    clear h0 hs hc hv hll hl hsa hnn hb2 hr hb hk hp hd hr9
    go_enter Try.func31, Try.ntmps31
    go_upto_region 1 with (fail)
    generalize World.alloc _ _ = w1 at *
    have s0 := cellOf (o := 0) HA0.out.s rfl
    have s1 := cellOf (o := 1) HA0.out.s rfl
    have s2 := cellOf (o := 2) HA0.out.s rfl
    have g0 := cellOf (o := 0) HA0.out.g rfl
    have g1 := cellOf (o := 1) HA0.out.g rfl
    have l0 := lt_of_block HA0.out.s
    have l1 := lt_of_block HA0.out.g
    go_upto_region 5 with (go_at_call 29; refine Calls.mono (HKT.out _ HA0.out.b) ?_; rintro e w3 ⟨rfl, hb3⟩; have HA3 := Lib.hid (HA0.out.next hb3); clear hb3 s0 s1 s2 g0 g1 l0 l1)
    go_loopw [13] (fun ug wr => ∃ k : Nat, k ≤ 101 ∧ ug = .int .i64 ((k : Int) - 1) ∧ dnJ p k = r ∧ Below w3.heap.size w3 wr) (fun ug _ => (intOf ug + 1).toNat)
    case atStart => exact ⟨101, by omega, rfl, HR9.out, Below.refl _ _⟩
    case round =>
      obtain ⟨k, hk, rfl, hd, hbw⟩ := hrel
      have HD := Lib.hid hd
      have HBW := Lib.hid hbw
      have HAW := Lib.hid (HA3.out.next hbw)
      have s0 := cellOf (o := 0) HAW.out.s rfl
      have s1 := cellOf (o := 1) HAW.out.s rfl
      have s2 := cellOf (o := 2) HAW.out.s rfl
      have g0 := cellOf (o := 0) HAW.out.g rfl
      have g1 := cellOf (o := 1) HAW.out.g rfl
      have l0 := lt_of_block HAW.out.s
      have l1 := lt_of_block HAW.out.g
      clear hd hbw
      cases k with
      | zero =>
        have h9 : r = -1 := by rw [← HD.out]; rfl
        have H9 := Lib.hid h9
        clear h9
        go_wp2
        go_ret2
        exact ⟨by have e9 := HRR.out; rw [if_neg (by rw [H9.out]; decide)] at e9; injection e9 with a c; rw [← a, ← c]; rfl, HAW.out.b⟩
      | succ g =>
        have e1 : ((g + 1 : Nat) : Int) - 1 = g := by omega
        rw [e1]
        clear e1
        have hpg := HP.out g
        have hd9 := HD.out
        have i1 : IntKind.i64.wrap (-(g : Int)) = -(g : Int) := IntWalk.i64_in _ (by omega)
        have i2 : IntKind.i64.wrap ((g : Int) - 1) = (g : Int) - 1 := IntWalk.i64_in _ (by omega)
        have hg0 : (0 : Int) ≤ (g : Int) := by omega
        have HK := Lib.hid (HRK.out g (by omega) wr HAW.out.b)
        obtain ⟨z, hz⟩ : ∃ z, rkN N D d (b ++ List.replicate m (-(g : Int), (g : Int))) lo hi m = z := ⟨_, rfl⟩
        rw [hz] at HK hpg
        clear hz
        by_cases hz0 : z < 0
        · rw [decide_eq_true hz0] at hpg
          have h9 : (if p (g : Int) then (g : Int) else dnJ p g) = r := hd9
          rw [hpg, if_pos rfl] at h9
          have H9 := Lib.hid h9
          clear hpg hd9 h9
          go_wp2_with (go_at_call 71; refine Calls.mono HK.out ?_; rintro e w5 ⟨rfl, hb5⟩; have HB5 := Lib.hid (HAW.out.b.trans (hb5.mono HAW.out.b.size)); clear hb5)
          go_ret2
          exact ⟨by have e9 := HRR.out; rw [if_pos (by rw [← H9.out]; omega), ← H9.out] at e9; injection e9 with a c; rw [← a, ← c]; rfl, HB5.out⟩
        · rw [decide_eq_false hz0] at hpg
          have h9 : (if p (g : Int) then (g : Int) else dnJ p g) = r := hd9
          rw [hpg, if_neg (by decide)] at h9
          have H9 := Lib.hid h9
          clear hpg hd9 h9
          go_wp2_with (go_at_call 71; refine Calls.mono HK.out ?_; rintro e w5 ⟨rfl, hb5⟩; have HB5 := Lib.hid (HBW.out.trans (hb5.mono HBW.out.size)); clear hb5)
          go_roundw
          case rel => exact ⟨g, by omega, rfl, H9.out, HB5.out⟩
          case measure => simp [intOf] <;> omega
  · rw [if_neg h0]
    have hk : (kpN N D d b 0 0 nn lo hi).2 = alE N D d b 0 0 nn [(lo, hi)] := by unfold kpN; rw [if_neg h0]
    rw [hk] at HKT
    have h0' : (alE N D d b 0 0 nn [(lo, hi)] != 0) = true := by rw [bne_iff_ne]; exact h0
    generalize alE N D d b 0 0 nn [(lo, hi)] = E at *
    generalize kpN N D d b 0 0 nn lo hi = kk at *
    obtain ⟨⟨kt, ki⟩, ke⟩ := kk
    simp only at HKT
    clear h0 hr hb hk
    go_enter Try.func31, Try.ntmps31
    go_upto_region 1 with (fail)
    generalize World.alloc _ _ = w1 at *
    have s0 := cellOf (o := 0) HA0.out.s rfl
    have s1 := cellOf (o := 1) HA0.out.s rfl
    have s2 := cellOf (o := 2) HA0.out.s rfl
    have g0 := cellOf (o := 0) HA0.out.g rfl
    have g1 := cellOf (o := 1) HA0.out.g rfl
    have l0 := lt_of_block HA0.out.s
    have l1 := lt_of_block HA0.out.g
    go_wp2_with (go_at_call 29; refine Calls.mono (HKT.out _ HA0.out.b) ?_; rintro e w3 ⟨rfl, hb3⟩; have HA3 := Lib.hid (HA0.out.next hb3); clear hb3)
    go_ret2
    exact ⟨rfl, HA3.out.b⟩
end Go.Proofs.Ytnnmmojlgikdgaa

/- The law of Keeps and Gust. -/
namespace Go.Proofs.Ytnnmmojlgikdgaa
open Go.RowKit

/-- A sling and sets in their boxes. -/
structure KW (N D d gl gh lo hi m : Int) (A : Option Addr) (n c : Nat) (w W : World) : Prop where
  s : W.heap[w.heap.size]? = some (.cells #[.int .i64 N, .int .i64 D, .int .i64 d] 23 (0, 0))
  x : W.heap[w.heap.size + 1]? = some (.cells #[.slice A n c, .int .i64 gl, .int .i64 gh, .int .i64 lo, .int .i64 hi, .int .i64 m] 43 (0, 0))
  b : Below w.heap.size w W
section
variable {N D d gl gh lo hi m : Int} {A : Option Addr} {n c : Nat} {w W W' : World}
theorem KW.next (h : KW N D d gl gh lo hi m A n c w W) (hb : Below W.heap.size W W') : KW N D d gl gh lo hi m A n c w W' :=
  ⟨(hb.block _ (lt_of_block h.s)).trans h.s, (hb.block _ (lt_of_block h.x)).trans h.x, h.b.trans (hb.mono h.b.size)⟩
theorem KW.start : KW N D d gl gh lo hi m A n c w ((w.alloc (.cells #[.int .i64 N, .int .i64 D, .int .i64 d] 23)).alloc (.cells #[.slice A n c, .int .i64 gl, .int .i64 gh, .int .i64 lo, .int .i64 hi, .int .i64 m] 43)) :=
  ⟨blk_old _ (blk_new _ _ _ rfl), blk_new _ _ _ (by simp), by go_grown⟩
end

set_option maxRecDepth 100000 in
set_option maxHeartbeats 2000000 in
theorem law_keeps (wk : WK7) (w : World) (N D d : Int) (A : Option Addr) (n c : Nat) (gl gh lo hi m : Int) (b : List (Int × Int)) (hl : b.length = n) (hn : n ≤ maxLen) (hr : RS w w.heap.size A b) :
    Calls Try.prog 5 #[.agg #[.int .i64 N, .int .i64 D, .int .i64 d], .agg #[.slice A n c, .int .i64 gl, .int .i64 gh, .int .i64 lo, .int .i64 hi, .int .i64 m]] w fun e w' => e = .returned (.bool true) ∧ Below w.heap.size w w' := by
  have HWK := Lib.hid wk
  have H1 := Lib.hid (fun (W : World) (hW : Below w.heap.size w W) => keepsT_any N D d gl gh m lo hi A n c w.heap.size b W hl hn hW.size (hr.below hW))
  have H2 := Lib.hid (fun (W : World) (hW : Below w.heap.size w W) => rkeepsT_any N D d gl gh m lo hi A n c w.heap.size b W hl hn hW.size (hr.below hW))
  have H3 := Lib.hid (fun (W : World) (hW : Below w.heap.size w W) => gustT_any N D d m lo hi A n c w.heap.size b W hl hn hW.size (hr.below hW))
  have H4 := Lib.hid (fun (W : World) (hW : Below w.heap.size w W) => rgustT_any N D d m lo hi A n c w.heap.size b W hl hn hW.size (hr.below hW))
  generalize kpN N D d b gl gh m lo hi = r at *
  generalize guN N D d b m lo hi = g at *
  obtain ⟨⟨r0, r1⟩, r2⟩ := r
  obtain ⟨g0, g1⟩ := g
  simp only at H1 H2 H3 H4
  have HK0 := Lib.hid (KW.start (N := N) (D := D) (d := d) (gl := gl) (gh := gh) (lo := lo) (hi := hi) (m := m) (A := A) (n := n) (c := c) (w := w))
  clear wk hr hl
  go_enter Try.func5, Try.ntmps5
  go_upto_region 1 with (fail)
  generalize World.alloc _ _ = w1 at *
  have s0 := cellOf (o := 0) HK0.out.s rfl
  have s1 := cellOf (o := 1) HK0.out.s rfl
  have s2 := cellOf (o := 2) HK0.out.s rfl
  have x0 := cellOf (o := 0) HK0.out.x rfl
  have x1 := cellOf (o := 1) HK0.out.x rfl
  have x2 := cellOf (o := 2) HK0.out.x rfl
  have x3 := cellOf (o := 3) HK0.out.x rfl
  have x4 := cellOf (o := 4) HK0.out.x rfl
  have x5 := cellOf (o := 5) HK0.out.x rfl
  have l0 := lt_of_block HK0.out.s
  have l1 := lt_of_block HK0.out.x
  cases r1 with
  | false =>
    go_wp2_with (first
      | (go_at_call 28; refine Calls.mono (H1.out _ HK0.out.b) ?_; rintro e v1 ⟨rfl, hb1⟩; have HK1 := Lib.hid (HK0.out.next hb1); clear hb1 s0 s1 s2 x0 x1 x2 x3 x4 x5 l0 l1; have s0 := cellOf (o := 0) HK1.out.s rfl; have s1 := cellOf (o := 1) HK1.out.s rfl; have s2 := cellOf (o := 2) HK1.out.s rfl; have x0 := cellOf (o := 0) HK1.out.x rfl; have x1 := cellOf (o := 1) HK1.out.x rfl; have x2 := cellOf (o := 2) HK1.out.x rfl; have x3 := cellOf (o := 3) HK1.out.x rfl; have x4 := cellOf (o := 4) HK1.out.x rfl; have x5 := cellOf (o := 5) HK1.out.x rfl; have l0 := lt_of_block HK1.out.s; have l1 := lt_of_block HK1.out.x)
      | (go_at_call 29; refine Calls.mono (H2.out _ HK1.out.b) ?_; rintro e v2 ⟨rfl, hb2⟩; have HK2 := Lib.hid (HK1.out.next hb2); clear hb2 s0 s1 s2 x0 x1 x2 x3 x4 x5 l0 l1; have s0 := cellOf (o := 0) HK2.out.s rfl; have s1 := cellOf (o := 1) HK2.out.s rfl; have s2 := cellOf (o := 2) HK2.out.s rfl; have x0 := cellOf (o := 0) HK2.out.x rfl; have x1 := cellOf (o := 1) HK2.out.x rfl; have x2 := cellOf (o := 2) HK2.out.x rfl; have x3 := cellOf (o := 3) HK2.out.x rfl; have x4 := cellOf (o := 4) HK2.out.x rfl; have x5 := cellOf (o := 5) HK2.out.x rfl; have l0 := lt_of_block HK2.out.s; have l1 := lt_of_block HK2.out.x)
      | (go_at_call 30; refine Calls.mono (H3.out _ HK2.out.b) ?_; rintro e v3 ⟨rfl, hb3⟩; have HK3 := Lib.hid (HK2.out.next hb3); clear hb3 s0 s1 s2 x0 x1 x2 x3 x4 x5 l0 l1; have s0 := cellOf (o := 0) HK3.out.s rfl; have s1 := cellOf (o := 1) HK3.out.s rfl; have s2 := cellOf (o := 2) HK3.out.s rfl; have x0 := cellOf (o := 0) HK3.out.x rfl; have x1 := cellOf (o := 1) HK3.out.x rfl; have x2 := cellOf (o := 2) HK3.out.x rfl; have x3 := cellOf (o := 3) HK3.out.x rfl; have x4 := cellOf (o := 4) HK3.out.x rfl; have x5 := cellOf (o := 5) HK3.out.x rfl; have l0 := lt_of_block HK3.out.s; have l1 := lt_of_block HK3.out.x)
      | (go_at_call 31; refine Calls.mono (H4.out _ HK3.out.b) ?_; rintro e v4 ⟨rfl, hb4⟩; have HK4 := Lib.hid (HK3.out.next hb4); clear hb4 s0 s1 s2 x0 x1 x2 x3 x4 x5 l0 l1; have s0 := cellOf (o := 0) HK4.out.s rfl; have s1 := cellOf (o := 1) HK4.out.s rfl; have s2 := cellOf (o := 2) HK4.out.s rfl; have x0 := cellOf (o := 0) HK4.out.x rfl; have x1 := cellOf (o := 1) HK4.out.x rfl; have x2 := cellOf (o := 2) HK4.out.x rfl; have x3 := cellOf (o := 3) HK4.out.x rfl; have x4 := cellOf (o := 4) HK4.out.x rfl; have x5 := cellOf (o := 5) HK4.out.x rfl; have l0 := lt_of_block HK4.out.s; have l1 := lt_of_block HK4.out.x)
      | (go_at_call 22; refine Calls.mono (HWK.out _) ?_; rintro e v9 ⟨rfl, hb9⟩; have HX9 := Lib.hid (HK4.out.b.trans (hb9.mono HK4.out.b.size)); clear hb9))
    go_ret
    exact ⟨rfl, HX9.out⟩
  | true =>
    go_wp2_with (first
      | (go_at_call 28; refine Calls.mono (H1.out _ HK0.out.b) ?_; rintro e v1 ⟨rfl, hb1⟩; have HK1 := Lib.hid (HK0.out.next hb1); clear hb1 s0 s1 s2 x0 x1 x2 x3 x4 x5 l0 l1; have s0 := cellOf (o := 0) HK1.out.s rfl; have s1 := cellOf (o := 1) HK1.out.s rfl; have s2 := cellOf (o := 2) HK1.out.s rfl; have x0 := cellOf (o := 0) HK1.out.x rfl; have x1 := cellOf (o := 1) HK1.out.x rfl; have x2 := cellOf (o := 2) HK1.out.x rfl; have x3 := cellOf (o := 3) HK1.out.x rfl; have x4 := cellOf (o := 4) HK1.out.x rfl; have x5 := cellOf (o := 5) HK1.out.x rfl; have l0 := lt_of_block HK1.out.s; have l1 := lt_of_block HK1.out.x)
      | (go_at_call 29; refine Calls.mono (H2.out _ HK1.out.b) ?_; rintro e v2 ⟨rfl, hb2⟩; have HK2 := Lib.hid (HK1.out.next hb2); clear hb2 s0 s1 s2 x0 x1 x2 x3 x4 x5 l0 l1; have s0 := cellOf (o := 0) HK2.out.s rfl; have s1 := cellOf (o := 1) HK2.out.s rfl; have s2 := cellOf (o := 2) HK2.out.s rfl; have x0 := cellOf (o := 0) HK2.out.x rfl; have x1 := cellOf (o := 1) HK2.out.x rfl; have x2 := cellOf (o := 2) HK2.out.x rfl; have x3 := cellOf (o := 3) HK2.out.x rfl; have x4 := cellOf (o := 4) HK2.out.x rfl; have x5 := cellOf (o := 5) HK2.out.x rfl; have l0 := lt_of_block HK2.out.s; have l1 := lt_of_block HK2.out.x)
      | (go_at_call 30; refine Calls.mono (H3.out _ HK2.out.b) ?_; rintro e v3 ⟨rfl, hb3⟩; have HK3 := Lib.hid (HK2.out.next hb3); clear hb3 s0 s1 s2 x0 x1 x2 x3 x4 x5 l0 l1; have s0 := cellOf (o := 0) HK3.out.s rfl; have s1 := cellOf (o := 1) HK3.out.s rfl; have s2 := cellOf (o := 2) HK3.out.s rfl; have x0 := cellOf (o := 0) HK3.out.x rfl; have x1 := cellOf (o := 1) HK3.out.x rfl; have x2 := cellOf (o := 2) HK3.out.x rfl; have x3 := cellOf (o := 3) HK3.out.x rfl; have x4 := cellOf (o := 4) HK3.out.x rfl; have x5 := cellOf (o := 5) HK3.out.x rfl; have l0 := lt_of_block HK3.out.s; have l1 := lt_of_block HK3.out.x)
      | (go_at_call 31; refine Calls.mono (H4.out _ HK3.out.b) ?_; rintro e v4 ⟨rfl, hb4⟩; have HK4 := Lib.hid (HK3.out.next hb4); clear hb4 s0 s1 s2 x0 x1 x2 x3 x4 x5 l0 l1; have s0 := cellOf (o := 0) HK4.out.s rfl; have s1 := cellOf (o := 1) HK4.out.s rfl; have s2 := cellOf (o := 2) HK4.out.s rfl; have x0 := cellOf (o := 0) HK4.out.x rfl; have x1 := cellOf (o := 1) HK4.out.x rfl; have x2 := cellOf (o := 2) HK4.out.x rfl; have x3 := cellOf (o := 3) HK4.out.x rfl; have x4 := cellOf (o := 4) HK4.out.x rfl; have x5 := cellOf (o := 5) HK4.out.x rfl; have l0 := lt_of_block HK4.out.s; have l1 := lt_of_block HK4.out.x)
      | (go_at_call 22; refine Calls.mono (HWK.out _) ?_; rintro e v9 ⟨rfl, hb9⟩; have HX9 := Lib.hid (HK4.out.b.trans (hb9.mono HK4.out.b.size)); clear hb9))
    go_ret
    exact ⟨rfl, HX9.out⟩
end Go.Proofs.Ytnnmmojlgikdgaa

/- The law of the averages. -/
import Derived.Test.YtliocbjmledfbaaHRavg
import Derived.Test.YtliocbjmledfbaaHSame
import Derived.Test.YtliocbjmledfbaaHCrestRow
namespace Go.Proofs.Ytliocbjmledfbaa
open Go.RowKit
attribute [local go_sem] Oper.semAt_some

def QAR (AS : Option Addr) (ns : Nat) (cs : Nat) (AM : Option Addr) (nm : Nat) (cm : Nat) (ve : Int) (j : Nat) (v : Value) (_ : World) : Prop :=
  match j with
  | 0 => v = .agg #[.slice AS ns cs, .slice AM nm cm]
  | 1 => v = .int .i64 ve
  | 2 => v = .agg #[.slice AS ns cs, .slice AM nm cm]
  | 3 => v = .int .i64 ve
  | 4 => v = .bool false
  | _ => True
theorem QAR_stays (AS : Option Addr) (ns : Nat) (cs : Nat) (AM : Option Addr) (nm : Nat) (cm : Nat) (ve : Int) : Stays (QAR AS ns cs AM nm cm ve) := fun j v W W' h _ => by
  unfold QAR at h ⊢
  split at h <;> exact h

/-- Two slices that read as one list are the same. -/
theorem same_QI {l : List Int} {v v' : Value} {W : World} (h : QI l v W) (h' : QI l v' W) (hl : l.length ≤ maxLen) : Calls Try.prog 21 #[v, v'] W fun e w' => e = .returned (.bool true) ∧ Below W.heap.size W w' := by
  obtain ⟨A, c, rfl, _, hr⟩ := h
  obtain ⟨A', c', rfl, _, hr'⟩ := h'
  exact same_yes A A' _ c c' W.heap.size W.heap.size l W rfl hl (Nat.le_refl _) (Nat.le_refl _) hr hr'

theorem avN_len (S M : List Int) (n : Int) : (avN S M n).1.length ≤ maxLen := by
  unfold avN
  split
  · split
    · rw [avK_len]
      exact le_maxLen (by omega)
    · exact le_maxLen (by simp)
  · exact le_maxLen (by simp)

set_option maxRecDepth 100000 in
set_option maxHeartbeats 1000000 in
theorem law_averages (wk : WK) (w : World) (AS : Option Addr) (ns cs : Nat) (AM : Option Addr) (nm cm : Nat) (S M : List Int) (hs : S.length = ns) (hm : M.length = nm) (hns : ns ≤ maxLen ∧ ns ≤ cs) (hnm : nm ≤ maxLen ∧ nm ≤ cm) (rs : RI w w.heap.size AS S) (rm : RI w w.heap.size AM M) (n : Int) :
    Calls Try.prog 3 #[.agg #[.slice AS ns cs, .slice AM nm cm], .int .i64 n] w fun e w' => e = .returned (.bool true) ∧ Below w.heap.size w w' := by
  have HWK := Lib.hid wk
  have HC1 := Lib.hid (fun W (hW : Below w.heap.size w W) => check_any AS AM ns cs nm cm w.heap.size S M W hs hm hns.1 hnm.1 hW.size (rs.below hW) (rm.below hW))
  have HC2 := Lib.hid (fun W (hW : Below w.heap.size w W) => rcheck_any AS AM ns cs nm cm w.heap.size S M W hs hm hns.1 hnm.1 hW.size (rs.below hW) (rm.below hW))
  have HA1 := Lib.hid (fun W (hW : Below w.heap.size w W) => average_any AS AM ns cs nm cm w.heap.size S M n W hs hm hns.1 hnm.1 hns.2 hW.size (rs.below hW) (rm.below hW))
  have HA2 := Lib.hid (fun W (hW : Below w.heap.size w W) => raverage_any AS AM ns cs nm cm w.heap.size S M n W hs hm hns.1 hnm.1 hW.size (rs.below hW) (rm.below hW))
  have HL := Lib.hid (avN_len S M n)
  generalize vibE S M = ve at *
  generalize avN S M n = av at *
  obtain ⟨l, d, er⟩ := av
  clear wk rs rm hs hm hns hnm
  have k0 : ((ve : Int) != ve) = false := by simp
  go_enter Try.func3, Try.ntmps3
  go_upto_region 1 with fail
  have HB0 := Lib.hid (show Below w.heap.size w (w.alloc (.cells #[.slice AS ns cs, .slice AM nm cm] 24)) by go_grown)
  have t0 : (w.alloc (.cells #[.slice AS ns cs, .slice AM nm cm] 24)).cell? ⟨w.heap.size, 0, none⟩ = some (.slice AS ns cs) := by rw [cell_newest]; rfl
  have t1 : (w.alloc (.cells #[.slice AS ns cs, .slice AM nm cm] 24)).cell? ⟨w.heap.size, 1, none⟩ = some (.slice AM nm cm) := by rw [cell_newest]; rfl
  have hz0 : w.heap.size < (w.alloc (.cells #[.slice AS ns cs, .slice AM nm cm] 24)).heap.size := by simp
  generalize w.alloc (.cells #[.slice AS ns cs, .slice AM nm cm] 24) = w0 at *
  refine wpIn_wide.1 (region_inv2 (n := 9) (by kernel_rfl) (RQ (QAR AS ns cs AM nm cm ve) w0) (by kernel_rfl) rfl (RQ.start _ _ _) ?hstep ?hend)
  case hstep =>
    have hst := QAR_stays AS ns cs AM nm cm ve
    intro i' o ho val L b' y hF hR hpre hl
    match i', ho with
    | 0, ho =>
      simp at ho
      subst ho
      refine step_plain rfl ?_
      have e2 := hF.was 2 (by kernel_rfl) rfl
      have hgoal : ∀ v W', Below y.heap.size y W' → QAR AS ns cs AM nm cm ve 0 v W' → RQ (QAR AS ns cs AM nm cm ve) w0 (upd val 0 v) (L.setIfInBounds 0 true) W' := fun v W' hb hq => hR.step hst hb hq
      have q0 := cell_keep hR.1 t0
      have q1 := cell_keep hR.1 t1
      clear hF hpre hl hR
      go_simp
      exact ⟨_, rfl, hgoal _ _ (Below.refl _ _) rfl⟩
    | 1, ho =>
      simp at ho
      subst ho
      refine step_plain rfl ?_
      have e11 := hF.gave 0 rfl (hpre ⟨0, .data⟩ (by simp) rfl) rfl
      have v0 := hR.2 0 (hpre ⟨0, .data⟩ (by simp) rfl)
      rw [show val 0 = .agg #[.slice AS ns cs, .slice AM nm cm] from v0] at e11
      clear v0
      have hgoal : ∀ v W', Below y.heap.size y W' → QAR AS ns cs AM nm cm ve 1 v W' → RQ (QAR AS ns cs AM nm cm ve) w0 (upd val 1 v) (L.setIfInBounds 1 true) W' := fun v W' hb hq => hR.step hst hb hq
      have q0 := cell_keep hR.1 t0
      have q1 := cell_keep hR.1 t1
      have hM := Lib.hid hR.1
      clear hF hpre hl hR
      go_simp
      refine ⟨trivial, ?_⟩
      refine CallsIn.mono (callsIn_wide.2 (HC1.out _ (HB0.out.trans (hM.out.mono HB0.out.size)))) ?_
      rintro e w9 ⟨rfl, hb9⟩
      exact ⟨_, rfl, hgoal _ _ hb9 rfl⟩
    | 2, ho =>
      simp at ho
      subst ho
      refine step_plain rfl ?_
      have e2 := hF.was 2 (by kernel_rfl) rfl
      have hgoal : ∀ v W', Below y.heap.size y W' → QAR AS ns cs AM nm cm ve 2 v W' → RQ (QAR AS ns cs AM nm cm ve) w0 (upd val 2 v) (L.setIfInBounds 2 true) W' := fun v W' hb hq => hR.step hst hb hq
      have q0 := cell_keep hR.1 t0
      have q1 := cell_keep hR.1 t1
      clear hF hpre hl hR
      go_simp
      exact ⟨_, rfl, hgoal _ _ (Below.refl _ _) rfl⟩
    | 3, ho =>
      simp at ho
      subst ho
      refine step_plain rfl ?_
      have e13 := hF.gave 2 rfl (hpre ⟨2, .data⟩ (by simp) rfl) rfl
      have v2 := hR.2 2 (hpre ⟨2, .data⟩ (by simp) rfl)
      rw [show val 2 = .agg #[.slice AS ns cs, .slice AM nm cm] from v2] at e13
      clear v2
      have hgoal : ∀ v W', Below y.heap.size y W' → QAR AS ns cs AM nm cm ve 3 v W' → RQ (QAR AS ns cs AM nm cm ve) w0 (upd val 3 v) (L.setIfInBounds 3 true) W' := fun v W' hb hq => hR.step hst hb hq
      have q0 := cell_keep hR.1 t0
      have q1 := cell_keep hR.1 t1
      have hM := Lib.hid hR.1
      clear hF hpre hl hR
      go_simp
      refine ⟨trivial, ?_⟩
      refine CallsIn.mono (callsIn_wide.2 (HC2.out _ (HB0.out.trans (hM.out.mono HB0.out.size)))) ?_
      rintro e w9 ⟨rfl, hb9⟩
      exact ⟨_, rfl, hgoal _ _ hb9 rfl⟩
    | 4, ho =>
      simp at ho
      subst ho
      refine step_plain rfl ?_
      have e12 := hF.gave 1 rfl (hpre ⟨1, .data⟩ (by simp) rfl) rfl
      have v1 := hR.2 1 (hpre ⟨1, .data⟩ (by simp) rfl)
      rw [show val 1 = .int .i64 ve from v1] at e12
      clear v1
      have e14 := hF.gave 3 rfl (hpre ⟨3, .data⟩ (by simp) rfl) rfl
      have v3 := hR.2 3 (hpre ⟨3, .data⟩ (by simp) rfl)
      rw [show val 3 = .int .i64 ve from v3] at e14
      clear v3
      have hgoal : ∀ v W', Below y.heap.size y W' → QAR AS ns cs AM nm cm ve 4 v W' → RQ (QAR AS ns cs AM nm cm ve) w0 (upd val 4 v) (L.setIfInBounds 4 true) W' := fun v W' hb hq => hR.step hst hb hq
      clear hF hpre hl hR
      go_simp
      exact ⟨_, rfl, hgoal _ _ (Below.refl _ _) rfl⟩
    | i + 5, ho => simp at ho
  intro val L b' y hF hall hR
  have e := hF.all (by kernel_rfl) hall
  have v4 : val 4 = .bool false := hR.2 4 (hall 4 (by decide))
  have s0 := cell_keep hR.1 t0
  have s1 := cell_keep hR.1 t1
  have HX := Lib.hid (HB0.out.trans (hR.1.mono HB0.out.size))
  have hz1 : w.heap.size < y.heap.size := World.block_lt_of_cell? _ _ s0
  clear hF hall hR
  subst e
  simp [final, dstOf, List.range, List.range.loop]
  rw [v4]
  clear v4 t0 t1
  go_wp2_with (first
    | (go_at_call 19; refine Calls.mono (HA1.out _ HX.out) ?_; rintro e w1 ⟨va, rfl, hq1, hb1⟩; have r0 := cell_keep hb1 s0; have r1 := cell_keep hb1 s1; have HX1 := Lib.hid (HX.out.trans (hb1.mono HX.out.size)); have HQ1 := Lib.hid hq1; clear hq1 hb1)
    | (go_at_call 20; refine Calls.mono (HA2.out _ HX1.out) ?_; rintro e w2 ⟨vb, rfl, hq2, hb2⟩; have HX2 := Lib.hid (HX1.out.trans (hb2.mono HX1.out.size)); have HS := Lib.hid (same_QI (HQ1.out.stay hb2) hq2 HL.out); clear hq2 hb2)
    | (go_at_call 21; refine Calls.mono HS.out ?_; rintro e w3 ⟨rfl, hb3⟩; have HX3 := Lib.hid (HX2.out.trans (hb3.mono HX2.out.size)); clear hb3)
    | (go_at_call 22; refine Calls.mono (HWK.out _) ?_; rintro e w4 ⟨rfl, hb4⟩; have HX4 := Lib.hid (HX3.out.trans (hb4.mono HX3.out.size)); clear hb4))
  go_ret
  exact ⟨rfl, HX4.out⟩
end Go.Proofs.Ytliocbjmledfbaa

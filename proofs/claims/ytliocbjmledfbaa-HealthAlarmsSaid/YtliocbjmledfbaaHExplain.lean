/- Explain. -/
import Derived.Test.YtliocbjmledfbaaHOne
namespace Go.Proofs.Ytliocbjmledfbaa
open Go.RowKit
attribute [local go_sem] Oper.semAt_some

def QX (b : Nat) (x : Nat) (y : Nat) (j : Nat) (v : Value) (W : World) : Prop :=
  match j with
  | 0 => v = .pointer (some ⟨b, 0, none⟩)
  | 1 => v = .int .u64 x
  | 2 => QI (bitsL x) v W
  | 3 => v = .pointer (some ⟨b, 1, none⟩)
  | 4 => v = .int .u64 y
  | 5 => QI (bitsL y) v W
  | 6 => QI (bitsL x) v W
  | 7 => QI (bitsL y) v W
  | 8 => v = .int .i64 0
  | _ => True
theorem QX_stays (b : Nat) (x : Nat) (y : Nat) : Stays (QX b x y) := fun j v W W' h hb => by
  unfold QX at h ⊢
  split at h <;> first | exact h | exact QI.stay h hb

def GivesTwo (w : World) (l1 l2 : List Int) (e : Ending) (w' : World) : Prop :=
  ∃ A1 c1 A2 c2, e = .returned (.tuple #[.slice A1 l1.length c1, .slice A2 l2.length c2, .int .i64 0]) ∧ RI w' w'.heap.size A1 l1 ∧ RI w' w'.heap.size A2 l2 ∧ Below w.heap.size w w'

theorem ckB_get {s g : Int} {L : List (Int × Int)} (h : ckB s g L = true) : (1 ≤ s ∧ s ≤ 8) ∧ (1 ≤ g ∧ g ≤ 12) ∧ ∀ p ∈ L, (0 ≤ p.1 ∧ p.1 < 8) ∧ (0 ≤ p.2 ∧ p.2 < 12) := by
  unfold ckB at h
  simp only [Bool.and_eq_true, decide_eq_true_eq] at h
  obtain ⟨⟨h1, h2⟩, h3⟩ := h
  refine ⟨h1, h2, fun p hp => ?_⟩
  obtain ⟨k, hk, rfl⟩ := List.mem_iff_getElem.1 hp
  unfold ckN at h3
  rw [List.all_eq_true] at h3
  have := h3 k (List.mem_range.2 hk)
  rw [List.getElem?_eq_getElem hk] at this
  unfold cellB at this
  simp only [Option.getD_some, Bool.and_eq_true, decide_eq_true_eq] at this
  omega

set_option maxRecDepth 100000 in
set_option maxHeartbeats 1000000 in
theorem explain_ok (s : Nat) (g : Int) (A : Option Addr) (n c B : Nat) (L : List (Int × Int)) (w : World) (hx : L.length = n) (hn : n ≤ 1000) (hB : B ≤ w.heap.size) (h : RS w B A L) (hck : ckB s g L = true) (l' : List Ex) (hsort : ∀ W, SortOK W (fewN L (2 ^ s)) l')
    (x y : Nat) (hl : l'[0]? = some (x, y)) (hxx : x < 4096) (hyy : y < 4096) :
    Calls Try.prog 45 #[.int .i64 s, .int .i64 g, .slice A n c] w (GivesTwo w (bitsL x) (bitsL y)) := by
  obtain ⟨⟨s1, s2⟩, ⟨g1, g2⟩, hcells⟩ := ckB_get hck
  have HC := Lib.hid (checkCells_any s g A n c B L w hx (by unfold maxLen; omega) hB h)
  rw [ckE_yes hck] at HC
  have HF := Lib.hid (fun W (hW : Below w.heap.size w W) => fewest_any s A n c B L W hx hn (by omega) (by have := hW.size; omega) (h.below (hW.mono hB)) hcells l' (hsort W))
  have HLX := Lib.hid (fun W => list_any x W hxx)
  have HLY := Lib.hid (fun W => list_any y W hyy)
  have HL := Lib.hid hl
  clear hsort hl hcells hck h
  go_enter Try.func45, Try.ntmps45
  go_wp2_with (first
    | (go_at_call 80; refine Calls.mono HC.out ?_; rintro e w1 ⟨rfl, hb1⟩; have HB1 := Lib.hid hb1; have hz1 := hb1.size; clear hb1)
    | (go_at_call 81; refine Calls.mono (HF.out _ HB1.out) ?_; rintro e w2 ⟨v, rfl, ho2, hb2⟩; obtain ⟨A2, c2, rfl, hrow⟩ := OE.form ho2; obtain ⟨gg, rfl, r0, r1, hpos⟩ := hrow _ HL.out; have hz2 := hb2.size; have HB2 := Lib.hid (HB1.out.trans (hb2.mono hz1)); clear ho2 hb2 hrow; have q0 : (0 : Int) < (l'.length : Int) := by omega))
  have d0 : (w2.alloc (.cells #[.int .u64 x, .int .u64 y] 103)).cell? ⟨w2.heap.size, 0, none⟩ = some (.int .u64 x) := new_cell rfl rfl
  have d1 : (w2.alloc (.cells #[.int .u64 x, .int .u64 y] 103)).cell? ⟨w2.heap.size, 1, none⟩ = some (.int .u64 y) := new_cell rfl rfl
  have HB3 := Lib.hid (HB2.out.alloc HB2.out.size (.cells #[.int .u64 x, .int .u64 y] 103))
  obtain ⟨bx, hbx⟩ : ∃ bx, w2.heap.size = bx := ⟨_, rfl⟩
  rw [hbx] at d0 d1 ⊢
  generalize w2.alloc (.cells #[.int .u64 x, .int .u64 y] 103) = W0 at *
  refine wpIn_wide.1 (region_inv2 (n := 9) (by kernel_rfl) (RQ (QX bx x y) W0) (by kernel_rfl) rfl (RQ.start _ _ _) ?hstep ?hend)
  case hstep =>
    have hst := QX_stays bx x y
    intro i' o ho val L b' z hF hR hpre hl
    match i', ho with
    | 0, ho =>
      simp at ho
      subst ho
      refine step_plain rfl ?_
      have e10 := hF.was 10 (by kernel_rfl) rfl
      have hgoal : ∀ v W', Below z.heap.size z W' → QX bx x y 0 v W' → RQ (QX bx x y) W0 (upd val 0 v) (L.setIfInBounds 0 true) W' := fun v W' hb hq => hR.step hst hb hq
      clear hF hpre hl hR
      go_simp
      exact ⟨_, rfl, hgoal _ _ (Below.refl _ _) rfl⟩
    | 1, ho =>
      simp at ho
      subst ho
      refine step_plain rfl ?_
      have e23 := hF.gave 0 rfl (hpre ⟨0, .data⟩ (by simp) rfl) rfl
      have v0 := hR.2 0 (hpre ⟨0, .data⟩ (by simp) rfl)
      rw [show val 0 = .pointer (some ⟨bx, 0, none⟩) from v0] at e23
      clear v0
      have hgoal : ∀ v W', Below z.heap.size z W' → QX bx x y 1 v W' → RQ (QX bx x y) W0 (upd val 1 v) (L.setIfInBounds 1 true) W' := fun v W' hb hq => hR.step hst hb hq
      have q0 := cell_keep hR.1 d0
      have q1 := cell_keep hR.1 d1
      clear hF hpre hl hR
      go_simp
      exact ⟨_, rfl, hgoal _ _ (Below.refl _ _) rfl⟩
    | 2, ho =>
      simp at ho
      subst ho
      refine step_plain rfl ?_
      have e24 := hF.gave 1 rfl (hpre ⟨1, .data⟩ (by simp) rfl) rfl
      have v1 := hR.2 1 (hpre ⟨1, .data⟩ (by simp) rfl)
      rw [show val 1 = .int .u64 x from v1] at e24
      clear v1
      have hgoal : ∀ v W', Below z.heap.size z W' → QX bx x y 2 v W' → RQ (QX bx x y) W0 (upd val 2 v) (L.setIfInBounds 2 true) W' := fun v W' hb hq => hR.step hst hb hq
      have q0 := cell_keep hR.1 d0
      have q1 := cell_keep hR.1 d1
      have hM := Lib.hid hR.1
      clear hF hpre hl hR
      go_simp
      refine ⟨trivial, ?_⟩
      refine CallsIn.mono (callsIn_wide.2 (HLX.out _)) ?_
      rintro e w9 ⟨A, c, rfl, hc9, hri9, hb9⟩
      exact ⟨_, rfl, hgoal _ _ hb9 ⟨A, c, rfl, hc9, hri9⟩⟩
    | 3, ho =>
      simp at ho
      subst ho
      refine step_plain rfl ?_
      have e10 := hF.was 10 (by kernel_rfl) rfl
      have hgoal : ∀ v W', Below z.heap.size z W' → QX bx x y 3 v W' → RQ (QX bx x y) W0 (upd val 3 v) (L.setIfInBounds 3 true) W' := fun v W' hb hq => hR.step hst hb hq
      clear hF hpre hl hR
      go_simp
      exact ⟨_, rfl, hgoal _ _ (Below.refl _ _) rfl⟩
    | 4, ho =>
      simp at ho
      subst ho
      refine step_plain rfl ?_
      have e26 := hF.gave 3 rfl (hpre ⟨3, .data⟩ (by simp) rfl) rfl
      have v3 := hR.2 3 (hpre ⟨3, .data⟩ (by simp) rfl)
      rw [show val 3 = .pointer (some ⟨bx, 1, none⟩) from v3] at e26
      clear v3
      have hgoal : ∀ v W', Below z.heap.size z W' → QX bx x y 4 v W' → RQ (QX bx x y) W0 (upd val 4 v) (L.setIfInBounds 4 true) W' := fun v W' hb hq => hR.step hst hb hq
      have q0 := cell_keep hR.1 d0
      have q1 := cell_keep hR.1 d1
      clear hF hpre hl hR
      go_simp
      exact ⟨_, rfl, hgoal _ _ (Below.refl _ _) rfl⟩
    | 5, ho =>
      simp at ho
      subst ho
      refine step_plain rfl ?_
      have e27 := hF.gave 4 rfl (hpre ⟨4, .data⟩ (by simp) rfl) rfl
      have v4 := hR.2 4 (hpre ⟨4, .data⟩ (by simp) rfl)
      rw [show val 4 = .int .u64 y from v4] at e27
      clear v4
      have hgoal : ∀ v W', Below z.heap.size z W' → QX bx x y 5 v W' → RQ (QX bx x y) W0 (upd val 5 v) (L.setIfInBounds 5 true) W' := fun v W' hb hq => hR.step hst hb hq
      have q0 := cell_keep hR.1 d0
      have q1 := cell_keep hR.1 d1
      have hM := Lib.hid hR.1
      clear hF hpre hl hR
      go_simp
      refine ⟨trivial, ?_⟩
      refine CallsIn.mono (callsIn_wide.2 (HLY.out _)) ?_
      rintro e w9 ⟨A, c, rfl, hc9, hri9, hb9⟩
      exact ⟨_, rfl, hgoal _ _ hb9 ⟨A, c, rfl, hc9, hri9⟩⟩
    | 6, ho =>
      simp at ho
      subst ho
      refine step_plain rfl ?_
      have v2 := hR.2 2 (hpre ⟨2, .data⟩ (by simp) rfl)
      have e25 := hF.gave 2 rfl (hpre ⟨2, .data⟩ (by simp) rfl) rfl
      have hgoal : ∀ v W', Below z.heap.size z W' → QX bx x y 6 v W' → RQ (QX bx x y) W0 (upd val 6 v) (L.setIfInBounds 6 true) W' := fun v W' hb hq => hR.step hst hb hq
      clear hF hpre hl hR
      obtain ⟨A, c, e1, hc1, hri1⟩ := v2
      rw [e1] at e25
      go_simp
      exact ⟨_, rfl, hgoal _ _ (Below.refl _ _) ⟨A, c, rfl, hc1, hri1⟩⟩
    | 7, ho =>
      simp at ho
      subst ho
      refine step_plain rfl ?_
      have v5 := hR.2 5 (hpre ⟨5, .data⟩ (by simp) rfl)
      have e28 := hF.gave 5 rfl (hpre ⟨5, .data⟩ (by simp) rfl) rfl
      have hgoal : ∀ v W', Below z.heap.size z W' → QX bx x y 7 v W' → RQ (QX bx x y) W0 (upd val 7 v) (L.setIfInBounds 7 true) W' := fun v W' hb hq => hR.step hst hb hq
      clear hF hpre hl hR
      obtain ⟨A, c, e1, hc1, hri1⟩ := v5
      rw [e1] at e28
      go_simp
      exact ⟨_, rfl, hgoal _ _ (Below.refl _ _) ⟨A, c, rfl, hc1, hri1⟩⟩
    | 8, ho =>
      simp at ho
      subst ho
      refine step_plain rfl ?_
      have hgoal : ∀ v W', Below z.heap.size z W' → QX bx x y 8 v W' → RQ (QX bx x y) W0 (upd val 8 v) (L.setIfInBounds 8 true) W' := fun v W' hb hq => hR.step hst hb hq
      clear hF hpre hl hR
      go_simp
      exact ⟨_, rfl, hgoal _ _ (Below.refl _ _) rfl⟩
    | i + 9, ho => simp at ho

  intro val L b' z hF hall hR
  have e := hF.all (by kernel_rfl) hall
  have v6 := hR.2 6 (hall 6 (by decide))
  have v7 := hR.2 7 (hall 7 (by decide))
  have v8 : val 8 = .int .i64 0 := hR.2 8 (hall 8 (by decide))
  have HX := Lib.hid (HB3.out.trans (hR.1.mono HB3.out.size))
  clear hF hall hR
  subst e
  simp [final, dstOf, List.range, List.range.loop]
  obtain ⟨A1, c1, e1, _, hr1⟩ := v6
  obtain ⟨A3, c3, e3, _, hr3⟩ := v7
  rw [e1, e3, v8]
  have HR := Lib.hid (And.intro hr1 hr3)
  clear hr1 hr3 v8 e1 e3
  go_wp2
  go_ret3
  exact ⟨A1, c1, A3, c3, rfl, HR.out.1, HR.out.2, HX.out⟩
end Go.Proofs.Ytliocbjmledfbaa

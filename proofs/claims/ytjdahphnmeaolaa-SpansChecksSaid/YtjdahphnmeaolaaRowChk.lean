/- swashplatelaw01.SpansChecks returns true at every input, and the input reads as it did: no condition. -/
import Derived.Test.YtjdahphnmeaolaaCopy
import Derived.Test.YtjdahphnmeaolaaRct
import Derived.Test.YtjdahphnmeaolaaGuard
import Derived.Test.YtjdahphnmeaolaaWorks
import Derived.Test.YtjdahphnmeaolaaOpen
namespace Go.Proofs.Ytjdahphnmeaolaa
open Go.RowKit Go.WideShapes Go.ChangeShapes Go.ChangeAt Go.Joins

/-- A box, a table of the call's own. -/
def QS (l : List (Int × Int)) (v : Value) (W : World) : Prop := ∃ g c, v = .slice (some ⟨g, 0, none⟩) l.length c ∧ RS W W.heap.size (some ⟨g, 0, none⟩) l
def QT (X Y : List Int) (V : List (List Int)) (v : Value) (W : World) : Prop := ∃ AX cx AY cy AV cv, v = .agg #[.slice AX X.length cx, .slice AY Y.length cy, .slice AV V.length cv] ∧ TB W W.heap.size AX AY AV X Y V
theorem QS.stay {l : List (Int × Int)} {v : Value} {W W' : World} (h : QS l v W) (hb : Below W.heap.size W W') : QS l v W' := by
  obtain ⟨g, c, e, h⟩ := h
  exact ⟨g, c, e, (h.below hb).more hb.size⟩
theorem QT.stay {X Y : List Int} {V : List (List Int)} {v : Value} {W W' : World} (h : QT X Y V v W) (hb : Below W.heap.size W W') : QT X Y V v W' := by
  obtain ⟨AX, cx, AY, cy, AV, cv, e, h⟩ := h
  exact ⟨AX, cx, AY, cy, AV, cv, e, (h.below hb).more hb.size⟩
def QC (A : Option Addr) (c : Nat) (l : List (Int × Int)) (AX : Option Addr) (cx : Nat) (AY : Option Addr) (cy : Nat) (AV : Option Addr) (cv : Nat) (X Y : List Int) (V : List (List Int)) (j : Nat) (v : Value) (W : World) : Prop :=
  match j with
  | 0 => v = .slice A l.length c
  | 1 => QS l v W
  | 2 => v = .int .i64 (chkE l)
  | 3 => v = .slice A l.length c
  | 4 => v = .int .i64 (chkE l)
  | 5 => v = .bool true
  | 6 => v = .bool true
  | 7 => v = .agg #[.slice AX X.length cx, .slice AY Y.length cy, .slice AV V.length cv]
  | 8 => QT X Y V v W
  | 9 => v = .int .i64 (ctE X Y V)
  | 10 => v = .agg #[.slice AX X.length cx, .slice AY Y.length cy, .slice AV V.length cv]
  | 11 => v = .int .i64 (ctE X Y V)
  | 12 => v = .bool true
  | 13 => v = .bool true
  | 14 => v = .bool true
  | 15 => v = .bool true
  | 16 => v = .bool true
  | 17 => v = .bool true
  | _ => True
theorem qc_stays (A : Option Addr) (c : Nat) (l : List (Int × Int)) (AX : Option Addr) (cx : Nat) (AY : Option Addr) (cy : Nat) (AV : Option Addr) (cv : Nat) (X Y : List Int) (V : List (List Int)) : Stays (QC A c l AX cx AY cy AV cv X Y V) := fun j v W W' h hb => by
  unfold QC at h ⊢
  split at h <;> first | exact h.stay hb | exact h

set_option maxRecDepth 100000 in
set_option maxHeartbeats 2000000 in
theorem law_checks (A : Option Addr) (n c : Nat) (l : List (Int × Int)) (AX AY AV : Option Addr) (nx cx ny cy nv cv B : Nat) (X Y : List Int) (V : List (List Int)) (w : World) (hx : X.length = nx) (hy : Y.length = ny) (hv : V.length = nv) (hmx : nx ≤ maxLen) (hmy : ny ≤ maxLen) (hmv : nv ≤ maxLen) (hmr : ∀ r ∈ V, r.length ≤ maxLen)
    (hl : l.length = n) (hl2 : n ≤ maxLen) (hB : B ≤ w.heap.size) (h : TB w B AX AY AV X Y V) (hs : RS w B A l) :
    Calls Try.prog 3 #[.slice A n c, .agg #[.slice AX nx cx, .slice AY ny cy, .slice AV nv cv]] w fun e w' => e = .returned (.bool true) ∧ Below w.heap.size w w' := by
  subst hx hy hv hl
  have hll := hl2
  unfold maxLen at hll
  have HWK := Lib.hid works_any
  have HL0 := Lib.hid hs
  have HT0 := Lib.hid h
  clear h hs
  by_cases g0 : 6 < l.length
  · have g0' : (6 : Int) < l.length := by omega
    go_enter Try.func3, Try.ntmps3
    go_wp2_with (go_at_call 18; refine Calls.mono (HWK.out _) ?_; rintro e w5 ⟨rfl, hb5⟩)
    go_ret
    exact ⟨rfl, Below.trans (by go_grown) (hb5.mono (by simp <;> omega))⟩
  have g0' : (l.length : Int) ≤ 6 := by omega
  have hl1 : l.length ≤ 1000000 := by omega
  have HFAR := Lib.hid (fun (W : World) (hW : Below w.heap.size w W) => far_any AX AY AV _ cx _ cy _ cv B X Y V W rfl rfl rfl hmx hmy hmv (by have := hW.size; omega) (HT0.out.below (hW.mono hB)))
  cases hf : farB X Y V with
  | true =>
    have HF := Lib.hid hf
    clear hf
    go_enter Try.func3, Try.ntmps3
    go_wp2_with (first
      | (go_at_call 17; refine Calls.mono (HFAR.out _ (by go_grown)) ?_; rintro e w4 ⟨rfl, hb4⟩; rw [HF.out])
      | (go_at_call 18; refine Calls.mono (HWK.out _) ?_; rintro e w5 ⟨rfl, hb5⟩))
    go_ret
    have hb : Below w.heap.size w w4 := Below.trans (by go_grown) (hb4.mono (by simp <;> omega))
    exact ⟨rfl, hb.trans (hb5.mono hb.size)⟩
  | false =>
    obtain ⟨f1, f2, f3, f4⟩ := farB_no hf
    have hnx : X.length ≤ 1000000 := by omega
    have hny : Y.length ≤ 1000000 := by omega
    have hnv : V.length ≤ 1000000 := by omega
    have hnr : ∀ r ∈ V, r.length ≤ 1000000 := fun r hr => by have := f4 r hr; omega
    have HF := Lib.hid hf
    clear hf f1 f2 f3 f4
    go_enter Try.func3, Try.ntmps3
    go_upto_region 3 with (go_at_call 17; refine Calls.mono (HFAR.out _ (by go_grown)) ?_; rintro e W0 ⟨rfl, hb4⟩; rw [HF.out])
    have hb0 : Below w.heap.size w W0 := Below.trans (by go_grown) (hb4.mono (by simp <;> omega))
    have k0 : W0.cell? ⟨w.heap.size, 0, none⟩ = some (.slice AX X.length cx) := cell_keep hb4 (by go_simp)
    have k1 : W0.cell? ⟨w.heap.size, 1, none⟩ = some (.slice AY Y.length cy) := cell_keep hb4 (by go_simp)
    have k2 : W0.cell? ⟨w.heap.size, 2, none⟩ = some (.slice AV V.length cv) := cell_keep hb4 (by go_simp)
    have HL := Lib.hid (HL0.out.below (hb0.mono hB))
    have HT := Lib.hid (HT0.out.below (hb0.mono hB))
    have hBW : B ≤ W0.heap.size := by have := hb0.size; omega
    have HB0 := Lib.hid hb0
    have hst := qc_stays A c l AX cx AY cy AV cv X Y V
    clear hb4 hb0 HFAR HL0 HT0
    refine wpIn_wide.1 (region_inv2 (n := 9) (by kernel_rfl) (RQ (QC A c l AX cx AY cy AV cv X Y V) W0) (by kernel_rfl) rfl (RQ.start _ _ _) ?hstep ?hend)
    case hstep =>
      intro i' o ho val L b' x hF hR hpre hl
      match i', ho with
      | 0, ho =>
        simp at ho
        subst ho
        refine step_plain rfl ?_
        have e0 := hF.was 0 (by kernel_rfl) rfl
        have hgoal : ∀ v W', Below x.heap.size x W' → QC A c l AX cx AY cy AV cv X Y V 0 v W' → RQ (QC A c l AX cx AY cy AV cv X Y V) W0 (upd val 0 v) (L.setIfInBounds 0 true) W' := fun v W' hb hq => hR.step hst hb hq
        clear hF hpre hl hR
        go_simp
        exact ⟨_, rfl, hgoal _ _ (Below.refl _ _) rfl⟩
      | 1, ho =>
        simp at ho
        subst ho
        refine step_plain rfl ?_
        have e13 := hF.gave 0 rfl (hpre ⟨0, .data⟩ (by simp) rfl) rfl
        have v0 := hR.2 0 (hpre ⟨0, .data⟩ (by simp) rfl)
        rw [show val 0 = .slice A l.length c from v0] at e13
        clear v0
        have hgoal : ∀ v W', Below x.heap.size x W' → QC A c l AX cx AY cy AV cv X Y V 1 v W' → RQ (QC A c l AX cx AY cy AV cv X Y V) W0 (upd val 1 v) (L.setIfInBounds 1 true) W' := fun v W' hb hq => hR.step hst hb hq
        have q0 := cell_keep hR.1 k0
        have q1 := cell_keep hR.1 k1
        have q2 := cell_keep hR.1 k2
        have hM := Lib.hid hR.1
        clear hF hpre hl hR
        go_simp
        refine ⟨trivial, ?_⟩
        refine CallsIn.mono (callsIn_wide.2 (box_any A _ c B l _ rfl hl1 (by have := hM.out.size; omega) (HL.out.below (hM.out.mono hBW)))) ?_
        rintro e w9 ⟨g, c', rfl, hg, hrs, hb9⟩
        exact ⟨_, rfl, hgoal _ _ hb9 ⟨g, c', rfl, hrs⟩⟩
      | 2, ho =>
        simp at ho
        subst ho
        refine step_plain rfl ?_
        have e14 := hF.gave 1 rfl (hpre ⟨1, .data⟩ (by simp) rfl) rfl
        have v1 := hR.2 1 (hpre ⟨1, .data⟩ (by simp) rfl)
        have hgoal : ∀ v W', Below x.heap.size x W' → QC A c l AX cx AY cy AV cv X Y V 2 v W' → RQ (QC A c l AX cx AY cy AV cv X Y V) W0 (upd val 2 v) (L.setIfInBounds 2 true) W' := fun v W' hb hq => hR.step hst hb hq
        have q0 := cell_keep hR.1 k0
        have q1 := cell_keep hR.1 k1
        have q2 := cell_keep hR.1 k2
        have hM := Lib.hid hR.1
        clear hF hpre hl hR
        obtain ⟨g1, c1, e1, hrs1⟩ := v1
        rw [e1] at e14
        go_simp
        refine ⟨trivial, ?_⟩
        refine CallsIn.mono (callsIn_wide.2 (check_any (some ⟨g1, 0, none⟩) _ c1 _ l _ rfl hl2 (Nat.le_refl _) hrs1)) ?_
        rintro e w9 ⟨rfl, hb9⟩
        exact ⟨_, rfl, hgoal _ _ hb9 rfl⟩
      | 3, ho =>
        simp at ho
        subst ho
        refine step_plain rfl ?_
        have e0 := hF.was 0 (by kernel_rfl) rfl
        have hgoal : ∀ v W', Below x.heap.size x W' → QC A c l AX cx AY cy AV cv X Y V 3 v W' → RQ (QC A c l AX cx AY cy AV cv X Y V) W0 (upd val 3 v) (L.setIfInBounds 3 true) W' := fun v W' hb hq => hR.step hst hb hq
        clear hF hpre hl hR
        go_simp
        exact ⟨_, rfl, hgoal _ _ (Below.refl _ _) rfl⟩
      | 4, ho =>
        simp at ho
        subst ho
        refine step_plain rfl ?_
        have e16 := hF.gave 3 rfl (hpre ⟨3, .data⟩ (by simp) rfl) rfl
        have v3 := hR.2 3 (hpre ⟨3, .data⟩ (by simp) rfl)
        rw [show val 3 = .slice A l.length c from v3] at e16
        clear v3
        have hgoal : ∀ v W', Below x.heap.size x W' → QC A c l AX cx AY cy AV cv X Y V 4 v W' → RQ (QC A c l AX cx AY cy AV cv X Y V) W0 (upd val 4 v) (L.setIfInBounds 4 true) W' := fun v W' hb hq => hR.step hst hb hq
        have q0 := cell_keep hR.1 k0
        have q1 := cell_keep hR.1 k1
        have q2 := cell_keep hR.1 k2
        have hM := Lib.hid hR.1
        clear hF hpre hl hR
        go_simp
        refine ⟨trivial, ?_⟩
        refine CallsIn.mono (callsIn_wide.2 (rcheck_any A _ c B l _ rfl hl2 (by have := hM.out.size; omega) (HL.out.below (hM.out.mono hBW)))) ?_
        rintro e w9 ⟨rfl, hb9⟩
        exact ⟨_, rfl, hgoal _ _ hb9 rfl⟩
      | 5, ho =>
        simp at ho
        subst ho
        refine step_plain rfl ?_
        have e15 := hF.gave 2 rfl (hpre ⟨2, .data⟩ (by simp) rfl) rfl
        have v2 := hR.2 2 (hpre ⟨2, .data⟩ (by simp) rfl)
        rw [show val 2 = .int .i64 (chkE l) from v2] at e15
        clear v2
        have e17 := hF.gave 4 rfl (hpre ⟨4, .data⟩ (by simp) rfl) rfl
        have v4 := hR.2 4 (hpre ⟨4, .data⟩ (by simp) rfl)
        rw [show val 4 = .int .i64 (chkE l) from v4] at e17
        clear v4
        have hgoal : ∀ v W', Below x.heap.size x W' → QC A c l AX cx AY cy AV cv X Y V 5 v W' → RQ (QC A c l AX cx AY cy AV cv X Y V) W0 (upd val 5 v) (L.setIfInBounds 5 true) W' := fun v W' hb hq => hR.step hst hb hq
        clear hF hpre hl hR
        go_simp
        exact ⟨_, rfl, hgoal _ _ (Below.refl _ _) rfl⟩
      | 6, ho =>
        simp at ho
        subst ho
        refine step_plain rfl ?_
        have e18 := hF.gave 5 rfl (hpre ⟨5, .data⟩ (by simp) rfl) rfl
        have v5 := hR.2 5 (hpre ⟨5, .data⟩ (by simp) rfl)
        rw [show val 5 = .bool true from v5] at e18
        clear v5
        have hgoal : ∀ v W', Below x.heap.size x W' → QC A c l AX cx AY cy AV cv X Y V 6 v W' → RQ (QC A c l AX cx AY cy AV cv X Y V) W0 (upd val 6 v) (L.setIfInBounds 6 true) W' := fun v W' hb hq => hR.step hst hb hq
        clear hF hpre hl hR
        go_simp
        exact ⟨_, rfl, hgoal _ _ (Below.refl _ _) rfl⟩
      | 7, ho =>
        simp at ho
        subst ho
        refine step_guard (j := 6) (s := 19) (b := true) hF rfl rfl (by kernel_rfl) (hpre ⟨6, .guard⟩ (by simp) rfl) (hR.2 6 (hpre ⟨6, .guard⟩ (by simp) rfl)) ?_
        have e3 := hF.was 3 (by kernel_rfl) rfl
        have hgoal : ∀ v W', Below x.heap.size x W' → QC A c l AX cx AY cy AV cv X Y V 7 v W' → RQ (QC A c l AX cx AY cy AV cv X Y V) W0 (upd val 7 v) (L.setIfInBounds 7 true) W' := fun v W' hb hq => hR.step hst hb hq
        have q0 := cell_keep hR.1 k0
        have q1 := cell_keep hR.1 k1
        have q2 := cell_keep hR.1 k2
        clear hF hpre hl hR
        go_simp
        exact ⟨_, rfl, hgoal _ _ (Below.refl _ _) rfl⟩
      | 8, ho =>
        simp at ho
        subst ho
        refine step_guard (j := 6) (s := 19) (b := true) hF rfl rfl (by kernel_rfl) (hpre ⟨6, .guard⟩ (by simp) rfl) (hR.2 6 (hpre ⟨6, .guard⟩ (by simp) rfl)) ?_
        have e20 := hF.gave 7 rfl (hpre ⟨7, .data⟩ (by simp) rfl) rfl
        have v7 := hR.2 7 (hpre ⟨7, .data⟩ (by simp) rfl)
        rw [show val 7 = .agg #[.slice AX X.length cx, .slice AY Y.length cy, .slice AV V.length cv] from v7] at e20
        clear v7
        have hgoal : ∀ v W', Below x.heap.size x W' → QC A c l AX cx AY cy AV cv X Y V 8 v W' → RQ (QC A c l AX cx AY cy AV cv X Y V) W0 (upd val 8 v) (L.setIfInBounds 8 true) W' := fun v W' hb hq => hR.step hst hb hq
        have q0 := cell_keep hR.1 k0
        have q1 := cell_keep hR.1 k1
        have q2 := cell_keep hR.1 k2
        have hM := Lib.hid hR.1
        clear hF hpre hl hR
        go_simp
        refine ⟨trivial, ?_⟩
        refine CallsIn.mono (callsIn_wide.2 (copy_any AX AY AV _ cx _ cy _ cv B X Y V _ rfl rfl rfl hnx hny hnv hnr (by have := hM.out.size; omega) (HT.out.below (hM.out.mono hBW)))) ?_
        rintro e w9 ⟨AX', cx', AY', cy', AV', cv', rfl, htb, hb9⟩
        exact ⟨_, rfl, hgoal _ _ hb9 ⟨AX', cx', AY', cy', AV', cv', rfl, htb⟩⟩
      | 9, ho =>
        simp at ho
        subst ho
        refine step_guard (j := 6) (s := 19) (b := true) hF rfl rfl (by kernel_rfl) (hpre ⟨6, .guard⟩ (by simp) rfl) (hR.2 6 (hpre ⟨6, .guard⟩ (by simp) rfl)) ?_
        have e21 := hF.gave 8 rfl (hpre ⟨8, .data⟩ (by simp) rfl) rfl
        have v8 := hR.2 8 (hpre ⟨8, .data⟩ (by simp) rfl)
        have hgoal : ∀ v W', Below x.heap.size x W' → QC A c l AX cx AY cy AV cv X Y V 9 v W' → RQ (QC A c l AX cx AY cy AV cv X Y V) W0 (upd val 9 v) (L.setIfInBounds 9 true) W' := fun v W' hb hq => hR.step hst hb hq
        have q0 := cell_keep hR.1 k0
        have q1 := cell_keep hR.1 k1
        have q2 := cell_keep hR.1 k2
        have hM := Lib.hid hR.1
        clear hF hpre hl hR
        obtain ⟨AX', cx', AY', cy', AV', cv', e8, htb⟩ := v8
        rw [e8] at e21
        go_simp
        refine ⟨trivial, ?_⟩
        refine CallsIn.mono (callsIn_wide.2 (checkTable_any AX' AY' AV' _ cx' _ cy' _ cv' _ X Y V _ rfl rfl rfl hmx hmy hmv hmr (Nat.le_refl _) htb)) ?_
        rintro e w9 ⟨rfl, hb9⟩
        exact ⟨_, rfl, hgoal _ _ hb9 rfl⟩
      | 10, ho =>
        simp at ho
        subst ho
        refine step_guard (j := 6) (s := 19) (b := true) hF rfl rfl (by kernel_rfl) (hpre ⟨6, .guard⟩ (by simp) rfl) (hR.2 6 (hpre ⟨6, .guard⟩ (by simp) rfl)) ?_
        have e3 := hF.was 3 (by kernel_rfl) rfl
        have hgoal : ∀ v W', Below x.heap.size x W' → QC A c l AX cx AY cy AV cv X Y V 10 v W' → RQ (QC A c l AX cx AY cy AV cv X Y V) W0 (upd val 10 v) (L.setIfInBounds 10 true) W' := fun v W' hb hq => hR.step hst hb hq
        have q0 := cell_keep hR.1 k0
        have q1 := cell_keep hR.1 k1
        have q2 := cell_keep hR.1 k2
        clear hF hpre hl hR
        go_simp
        exact ⟨_, rfl, hgoal _ _ (Below.refl _ _) rfl⟩
      | 11, ho =>
        simp at ho
        subst ho
        refine step_guard (j := 6) (s := 19) (b := true) hF rfl rfl (by kernel_rfl) (hpre ⟨6, .guard⟩ (by simp) rfl) (hR.2 6 (hpre ⟨6, .guard⟩ (by simp) rfl)) ?_
        have e23 := hF.gave 10 rfl (hpre ⟨10, .data⟩ (by simp) rfl) rfl
        have v10 := hR.2 10 (hpre ⟨10, .data⟩ (by simp) rfl)
        rw [show val 10 = .agg #[.slice AX X.length cx, .slice AY Y.length cy, .slice AV V.length cv] from v10] at e23
        clear v10
        have hgoal : ∀ v W', Below x.heap.size x W' → QC A c l AX cx AY cy AV cv X Y V 11 v W' → RQ (QC A c l AX cx AY cy AV cv X Y V) W0 (upd val 11 v) (L.setIfInBounds 11 true) W' := fun v W' hb hq => hR.step hst hb hq
        have q0 := cell_keep hR.1 k0
        have q1 := cell_keep hR.1 k1
        have q2 := cell_keep hR.1 k2
        have hM := Lib.hid hR.1
        clear hF hpre hl hR
        go_simp
        refine ⟨trivial, ?_⟩
        refine CallsIn.mono (callsIn_wide.2 (rct_any AX AY AV _ cx _ cy _ cv B X Y V _ rfl rfl rfl hmx hmy hmv hmr (by have := hM.out.size; omega) (HT.out.below (hM.out.mono hBW)))) ?_
        rintro e w9 ⟨rfl, hb9⟩
        exact ⟨_, rfl, hgoal _ _ hb9 rfl⟩
      | 12, ho =>
        simp at ho
        subst ho
        refine step_guard (j := 6) (s := 19) (b := true) hF rfl rfl (by kernel_rfl) (hpre ⟨6, .guard⟩ (by simp) rfl) (hR.2 6 (hpre ⟨6, .guard⟩ (by simp) rfl)) ?_
        have e22 := hF.gave 9 rfl (hpre ⟨9, .data⟩ (by simp) rfl) rfl
        have v9 := hR.2 9 (hpre ⟨9, .data⟩ (by simp) rfl)
        rw [show val 9 = .int .i64 (ctE X Y V) from v9] at e22
        clear v9
        have e24 := hF.gave 11 rfl (hpre ⟨11, .data⟩ (by simp) rfl) rfl
        have v11 := hR.2 11 (hpre ⟨11, .data⟩ (by simp) rfl)
        rw [show val 11 = .int .i64 (ctE X Y V) from v11] at e24
        clear v11
        have hgoal : ∀ v W', Below x.heap.size x W' → QC A c l AX cx AY cy AV cv X Y V 12 v W' → RQ (QC A c l AX cx AY cy AV cv X Y V) W0 (upd val 12 v) (L.setIfInBounds 12 true) W' := fun v W' hb hq => hR.step hst hb hq
        clear hF hpre hl hR
        go_simp
        exact ⟨_, rfl, hgoal _ _ (Below.refl _ _) rfl⟩
      | 13, ho =>
        simp at ho
        subst ho
        refine step_plain rfl ?_
        have e19 := hF.gave 6 rfl (hpre ⟨6, .data⟩ (by simp) rfl) rfl
        have v6 := hR.2 6 (hpre ⟨6, .data⟩ (by simp) rfl)
        rw [show val 6 = .bool true from v6] at e19
        clear v6
        have e25 := hF.gave 12 rfl (hpre ⟨12, .data⟩ (by simp) rfl) rfl
        have v12 := hR.2 12 (hpre ⟨12, .data⟩ (by simp) rfl)
        rw [show val 12 = .bool true from v12] at e25
        clear v12
        have hgoal : ∀ v W', Below x.heap.size x W' → QC A c l AX cx AY cy AV cv X Y V 13 v W' → RQ (QC A c l AX cx AY cy AV cv X Y V) W0 (upd val 13 v) (L.setIfInBounds 13 true) W' := fun v W' hb hq => hR.step hst hb hq
        clear hF hpre hl hR
        go_simp
        exact ⟨_, rfl, hgoal _ _ (Below.refl _ _) rfl⟩
      | 14, ho =>
        simp at ho
        subst ho
        refine step_plain rfl ?_
        have e26 := hF.gave 13 rfl (hpre ⟨13, .data⟩ (by simp) rfl) rfl
        have v13 := hR.2 13 (hpre ⟨13, .data⟩ (by simp) rfl)
        rw [show val 13 = .bool true from v13] at e26
        clear v13
        have hgoal : ∀ v W', Below x.heap.size x W' → QC A c l AX cx AY cy AV cv X Y V 14 v W' → RQ (QC A c l AX cx AY cy AV cv X Y V) W0 (upd val 14 v) (L.setIfInBounds 14 true) W' := fun v W' hb hq => hR.step hst hb hq
        clear hF hpre hl hR
        go_simp
        exact ⟨_, rfl, hgoal _ _ (Below.refl _ _) rfl⟩
      | 15, ho =>
        simp at ho
        subst ho
        refine step_guard (j := 14) (s := 27) (b := true) hF rfl rfl (by kernel_rfl) (hpre ⟨14, .guard⟩ (by simp) rfl) (hR.2 14 (hpre ⟨14, .guard⟩ (by simp) rfl)) ?_
        have hgoal : ∀ v W', Below x.heap.size x W' → QC A c l AX cx AY cy AV cv X Y V 15 v W' → RQ (QC A c l AX cx AY cy AV cv X Y V) W0 (upd val 15 v) (L.setIfInBounds 15 true) W' := fun v W' hb hq => hR.step hst hb hq
        have q0 := cell_keep hR.1 k0
        have q1 := cell_keep hR.1 k1
        have q2 := cell_keep hR.1 k2
        have hM := Lib.hid hR.1
        clear hF hpre hl hR
        go_simp
        refine ⟨trivial, ?_⟩
        refine CallsIn.mono (callsIn_wide.2 (works_any _)) ?_
        rintro e w9 ⟨rfl, hb9⟩
        exact ⟨_, rfl, hgoal _ _ hb9 rfl⟩
      | 16, ho =>
        simp at ho
        subst ho
        refine step_plain rfl ?_
        have e27 := hF.gave 14 rfl (hpre ⟨14, .data⟩ (by simp) rfl) rfl
        have v14 := hR.2 14 (hpre ⟨14, .data⟩ (by simp) rfl)
        rw [show val 14 = .bool true from v14] at e27
        clear v14
        have e28 := hF.gave 15 rfl (hpre ⟨15, .data⟩ (by simp) rfl) rfl
        have v15 := hR.2 15 (hpre ⟨15, .data⟩ (by simp) rfl)
        rw [show val 15 = .bool true from v15] at e28
        clear v15
        have hgoal : ∀ v W', Below x.heap.size x W' → QC A c l AX cx AY cy AV cv X Y V 16 v W' → RQ (QC A c l AX cx AY cy AV cv X Y V) W0 (upd val 16 v) (L.setIfInBounds 16 true) W' := fun v W' hb hq => hR.step hst hb hq
        clear hF hpre hl hR
        go_simp
        exact ⟨_, rfl, hgoal _ _ (Below.refl _ _) rfl⟩
      | 17, ho =>
        simp at ho
        subst ho
        refine step_plain rfl ?_
        have e29 := hF.gave 16 rfl (hpre ⟨16, .data⟩ (by simp) rfl) rfl
        have v16 := hR.2 16 (hpre ⟨16, .data⟩ (by simp) rfl)
        rw [show val 16 = .bool true from v16] at e29
        clear v16
        have hgoal : ∀ v W', Below x.heap.size x W' → QC A c l AX cx AY cy AV cv X Y V 17 v W' → RQ (QC A c l AX cx AY cy AV cv X Y V) W0 (upd val 17 v) (L.setIfInBounds 17 true) W' := fun v W' hb hq => hR.step hst hb hq
        clear hF hpre hl hR
        go_simp
        exact ⟨_, rfl, hgoal _ _ (Below.refl _ _) rfl⟩
      | i + 18, ho => simp at ho
    case hend =>
      intro val L b' x hF hall hR
      have e := hF.all (by kernel_rfl) hall
      have v17 := hR.2 17 (hall 17 (by decide))
      have HX := Lib.hid (HB0.out.trans (hR.1.mono HB0.out.size))
      clear hF hall hR
      subst e
      simp [final, dstOf, List.range, List.range.loop]
      rw [show val 17 = .bool true from v17]
      go_wp2
      go_ret
      exact ⟨rfl, HX.out⟩

end Go.Proofs.Ytjdahphnmeaolaa

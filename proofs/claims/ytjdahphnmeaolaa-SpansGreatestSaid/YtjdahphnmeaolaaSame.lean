/- sameInts, sameTable: of equal lists they say true. -/
import Derived.Test.YtjdahphnmeaolaaMeet
import Derived.Test.YtjdahphnmeaolaaGuard
namespace Go.Proofs.Ytjdahphnmeaolaa
open Go.RowKit

theorem sameInts_yes (A A' : Option Addr) (n c c' B B' : Nat) (X : List Int) (w : World) (hx : X.length = n) (hn : n ≤ 1000000) (hB : B ≤ w.heap.size) (hB' : B' ≤ w.heap.size) (h : RI w B A X) (h' : RI w B' A' X) :
    Calls Try.prog 42 #[.slice A n c, .slice A' n c'] w fun e w' => e = .returned (.bool true) ∧ Below w.heap.size w w' := by
  subst hx
  have HI := Lib.hid (And.intro (h.more hB) (h'.more hB'))
  have hb0 : ((X.length : Int) != (X.length : Int)) = false := by rw [bne_eq_false_iff_eq]
  clear h h'
  go_enter Try.func42, Try.ntmps42
  go_wp2
  go_loopw [5] (fun i wr => ∃ k : Nat, k ≤ X.length ∧ i = .int .i64 k ∧ Below w.heap.size w wr) (fun i _ => X.length - (intOf i).toNat)
  case atStart => exact ⟨0, by omega, rfl, Below.refl _ _⟩
  case round =>
    obtain ⟨k, hk, rfl, hbw⟩ := hrel
    have HBW := Lib.hid hbw
    by_cases hlt : k < X.length
    · obtain ⟨b, off, x, rfl, hb, hx, hc⟩ := (HI.out.1.below hbw).at_ hlt
      obtain ⟨b', off', x', rfl, hb', hx', hc'⟩ := (HI.out.2.below hbw).at_ hlt
      have hk0 : (k : Int) < X.length := by omega
      obtain rfl : x = x' := by rw [hx] at hx'; simpa using hx'
      have hxx : (x != x) = false := by rw [bne_eq_false_iff_eq]
      clear hx hx' hbw
      go_upto_region 6 with fail
      go_quiet (fail)
      go_wp2
      go_roundw
      case rel => exact ⟨k + 1, by omega, by go_num, below_drewN HBW.out _⟩
      case measure => simp [intOf]; omega
    · go_wp2
      go_ret
      exact ⟨rfl, HBW.out⟩

def QSm (g b off n cv k : Nat) (A1 : Option Addr) (rl c1 b' off' cv' : Nat) (A2 : Option Addr) (c2 : Nat) (j : Nat) (v : Value) (_ : World) : Prop :=
  match j with
  | 0 => v = .pointer (some ⟨g, 2, none⟩)
  | 1 => v = .slice (some ⟨b, off, none⟩) n cv
  | 2 => v = .int .i64 (k : Nat)
  | 3 => v = .pointer (some ⟨b, off + k, none⟩)
  | 4 => v = .slice A1 rl c1
  | 5 => v = .pointer (some ⟨g + 1, 2, none⟩)
  | 6 => v = .slice (some ⟨b', off', none⟩) n cv'
  | 7 => v = .int .i64 (k : Nat)
  | 8 => v = .pointer (some ⟨b', off' + k, none⟩)
  | 9 => v = .slice A2 rl c2
  | 10 => v = .bool true
  | 11 => v = .bool false
  | _ => True
theorem qsm_stays (g b off n cv k : Nat) (A1 : Option Addr) (rl c1 b' off' cv' : Nat) (A2 : Option Addr) (c2 : Nat) : Stays (QSm g b off n cv k A1 rl c1 b' off' cv' A2 c2) := fun j v W W' h _ => by
  unfold QSm at h ⊢
  split at h <;> exact h

set_option maxRecDepth 100000 in
theorem sameTable_yes (AX AY AV AX' AY' AV' : Option Addr) (nx cx ny cy nv cv cx' cy' cv' : Nat) (X Y : List Int) (V : List (List Int)) (w : World) (hx : X.length = nx) (hy : Y.length = ny) (hv : V.length = nv) (hnx : nx ≤ 1000000) (hny : ny ≤ 1000000) (hnv : nv ≤ 1000000) (hnr : ∀ r ∈ V, r.length ≤ 1000000)
    (h : TB w w.heap.size AX AY AV X Y V) (h' : TB w w.heap.size AX' AY' AV' X Y V) :
    Calls Try.prog 47 #[.agg #[.slice AX nx cx, .slice AY ny cy, .slice AV nv cv], .agg #[.slice AX' nx cx', .slice AY' ny cy', .slice AV' nv cv']] w fun e w' => e = .returned (.bool true) ∧ Below w.heap.size w w' := by
  subst hx hy hv
  have HI := Lib.hid (And.intro h h')
  have hb0 : ((V.length : Int) != (V.length : Int)) = false := by rw [bne_eq_false_iff_eq]
  clear h h'
  have HX := Lib.hid (fun (W : World) (hW : Below w.heap.size w W) => sameInts_yes AX AX' _ cx cx' _ _ X W rfl hnx hW.size hW.size (HI.out.1.x.below hW) (HI.out.2.x.below hW))
  have HY := Lib.hid (fun (W : World) (hW : Below w.heap.size w W) => sameInts_yes AY AY' _ cy cy' _ _ Y W rfl hny hW.size hW.size (HI.out.1.y.below hW) (HI.out.2.y.below hW))
  go_enter Try.func47, Try.ntmps47
  go_wp2_with (first
    | (go_at_call_of 42 (Value.slice AX X.length cx); refine Calls.mono (HX.out _ (by go_grown)) ?_; rintro e w1 ⟨rfl, hb1⟩;
       have s0 : w1.cell? ⟨w.heap.size, 1, none⟩ = some (.slice AY Y.length cy) := cell_keep hb1 (by go_simp); have s1 : w1.cell? ⟨w.heap.size, 2, none⟩ = some (.slice AV V.length cv) := cell_keep hb1 (by go_simp);
       have s2 : w1.cell? ⟨w.heap.size + 1, 1, none⟩ = some (.slice AY' Y.length cy') := cell_keep hb1 (by go_simp); have s3 : w1.cell? ⟨w.heap.size + 1, 2, none⟩ = some (.slice AV' V.length cv') := cell_keep hb1 (by go_simp);
       have hbw1 : Below w.heap.size w w1 := Below.trans (by go_grown) (hb1.mono (by simp <;> omega)); have HB1 := Lib.hid hbw1; clear hb1 hbw1)
    | (go_at_call_of 42 (Value.slice AY Y.length cy); refine Calls.mono (HY.out _ HB1.out) ?_; rintro e w2 ⟨rfl, hb2⟩;
       have r1 : w2.cell? ⟨w.heap.size, 2, none⟩ = some (.slice AV V.length cv) := cell_keep hb2 s1; have r3 : w2.cell? ⟨w.heap.size + 1, 2, none⟩ = some (.slice AV' V.length cv') := cell_keep hb2 s3;
       have HB2 := Lib.hid (HB1.out.trans (hb2.mono HB1.out.size)); clear hb2))
  clear s0 s1 s2 s3 HX HY HB1
  go_loopw [5] (fun i wr => ∃ k : Nat, k ≤ V.length ∧ i = .int .i64 k ∧ Below w2.heap.size w2 wr) (fun i _ => V.length - (intOf i).toNat)
  case atStart => exact ⟨0, by omega, rfl, Below.refl _ _⟩
  case round =>
    obtain ⟨k, hk, rfl, hbw⟩ := hrel
    have q1 := cell_keep hbw r1
    have q3 := cell_keep hbw r3
    have hb3 : Below w.heap.size w wr := HB2.out.trans (hbw.mono HB2.out.size)
    have HBW := Lib.hid hb3
    by_cases hlt : k < V.length
    · obtain ⟨b, off, r, A1, c1, rfl, hb, hr, hc, hri⟩ := (HI.out.1.v.below hb3).at_ hlt
      obtain ⟨b', off', r', A2, c2, rfl, hb', hr', hc', hri'⟩ := (HI.out.2.v.below hb3).at_ hlt
      have hk0 : (k : Int) < V.length := by omega
      obtain rfl : r = r' := by rw [hr] at hr'; simpa using hr'
      have hrl := hnr r (List.mem_of_getElem? hr)
      have HC := Lib.hid (fun (W : World) (hW : Below wr.heap.size wr W) => sameInts_yes A1 A2 _ c1 c2 _ _ r W rfl hrl (Nat.le_trans hb3.size hW.size) (Nat.le_trans hb3.size hW.size) (hri.below (hW.mono hb3.size)) (hri'.below (hW.mono hb3.size)))
      have HKB := Lib.hid hbw
      clear hr hr' hbw hb3 hri hri'
      go_upto_region 6 with fail
      have hst := qsm_stays w.heap.size b off V.length cv k A1 r.length c1 b' off' cv' A2 c2
      refine wpIn_wide.1 (region_inv2 (n := 9) (by kernel_rfl) (RQ (QSm w.heap.size b off V.length cv k A1 r.length c1 b' off' cv' A2 c2) wr) (by kernel_rfl) rfl (RQ.start _ _ _) ?hstep ?hend)
      case hstep =>
        intro i' o ho val L b2 x hF hR hpre hl
        match i', ho with
        | 0, ho =>
          simp at ho
          subst ho
          refine step_plain rfl ?_
          have e2 := hF.was 2 (by kernel_rfl) rfl
          have hgoal : ∀ v W', Below x.heap.size x W' → QSm w.heap.size b off V.length cv k A1 r.length c1 b' off' cv' A2 c2 0 v W' → RQ (QSm w.heap.size b off V.length cv k A1 r.length c1 b' off' cv' A2 c2) wr (upd val 0 v) (L.setIfInBounds 0 true) W' := fun v W' hb hq => hR.step hst hb hq
          clear hF hpre hl hR
          go_simp
          exact ⟨_, rfl, hgoal _ _ (Below.refl _ _) rfl⟩
        | 1, ho =>
          simp at ho
          subst ho
          refine step_plain rfl ?_
          have e36 := hF.gave 0 rfl (hpre ⟨0, .data⟩ (by simp) rfl) rfl
          have v0 := hR.2 0 (hpre ⟨0, .data⟩ (by simp) rfl)
          rw [show val 0 = .pointer (some ⟨w.heap.size, 2, none⟩) from v0] at e36
          clear v0
          have hgoal : ∀ v W', Below x.heap.size x W' → QSm w.heap.size b off V.length cv k A1 r.length c1 b' off' cv' A2 c2 1 v W' → RQ (QSm w.heap.size b off V.length cv k A1 r.length c1 b' off' cv' A2 c2) wr (upd val 1 v) (L.setIfInBounds 1 true) W' := fun v W' hb hq => hR.step hst hb hq
          have q0 := cell_keep hR.1 q1
          have q1 := cell_keep hR.1 q3
          have q2 := cell_keep hR.1 hc
          have q3 := cell_keep hR.1 hc'
          clear hF hpre hl hR
          go_simp
          exact ⟨_, rfl, hgoal _ _ (Below.refl _ _) rfl⟩
        | 2, ho =>
          simp at ho
          subst ho
          refine step_plain rfl ?_
          have e5 := hF.was 5 (by kernel_rfl) rfl
          have hgoal : ∀ v W', Below x.heap.size x W' → QSm w.heap.size b off V.length cv k A1 r.length c1 b' off' cv' A2 c2 2 v W' → RQ (QSm w.heap.size b off V.length cv k A1 r.length c1 b' off' cv' A2 c2) wr (upd val 2 v) (L.setIfInBounds 2 true) W' := fun v W' hb hq => hR.step hst hb hq
          clear hF hpre hl hR
          go_simp
          exact ⟨_, rfl, hgoal _ _ (Below.refl _ _) rfl⟩
        | 3, ho =>
          simp at ho
          subst ho
          refine step_plain rfl ?_
          have e37 := hF.gave 1 rfl (hpre ⟨1, .data⟩ (by simp) rfl) rfl
          have v1 := hR.2 1 (hpre ⟨1, .data⟩ (by simp) rfl)
          rw [show val 1 = .slice (some ⟨b, off, none⟩) V.length cv from v1] at e37
          clear v1
          have e38 := hF.gave 2 rfl (hpre ⟨2, .data⟩ (by simp) rfl) rfl
          have v2 := hR.2 2 (hpre ⟨2, .data⟩ (by simp) rfl)
          rw [show val 2 = .int .i64 (k : Nat) from v2] at e38
          clear v2
          have hgoal : ∀ v W', Below x.heap.size x W' → QSm w.heap.size b off V.length cv k A1 r.length c1 b' off' cv' A2 c2 3 v W' → RQ (QSm w.heap.size b off V.length cv k A1 r.length c1 b' off' cv' A2 c2) wr (upd val 3 v) (L.setIfInBounds 3 true) W' := fun v W' hb hq => hR.step hst hb hq
          clear hF hpre hl hR
          go_simp
          exact ⟨_, rfl, hgoal _ _ (Below.refl _ _) rfl⟩
        | 4, ho =>
          simp at ho
          subst ho
          refine step_plain rfl ?_
          have e39 := hF.gave 3 rfl (hpre ⟨3, .data⟩ (by simp) rfl) rfl
          have v3 := hR.2 3 (hpre ⟨3, .data⟩ (by simp) rfl)
          rw [show val 3 = .pointer (some ⟨b, off + k, none⟩) from v3] at e39
          clear v3
          have hgoal : ∀ v W', Below x.heap.size x W' → QSm w.heap.size b off V.length cv k A1 r.length c1 b' off' cv' A2 c2 4 v W' → RQ (QSm w.heap.size b off V.length cv k A1 r.length c1 b' off' cv' A2 c2) wr (upd val 4 v) (L.setIfInBounds 4 true) W' := fun v W' hb hq => hR.step hst hb hq
          have q0 := cell_keep hR.1 q1
          have q1 := cell_keep hR.1 q3
          have q2 := cell_keep hR.1 hc
          have q3 := cell_keep hR.1 hc'
          clear hF hpre hl hR
          go_simp
          exact ⟨_, rfl, hgoal _ _ (Below.refl _ _) rfl⟩
        | 5, ho =>
          simp at ho
          subst ho
          refine step_plain rfl ?_
          have e3 := hF.was 3 (by kernel_rfl) rfl
          have hgoal : ∀ v W', Below x.heap.size x W' → QSm w.heap.size b off V.length cv k A1 r.length c1 b' off' cv' A2 c2 5 v W' → RQ (QSm w.heap.size b off V.length cv k A1 r.length c1 b' off' cv' A2 c2) wr (upd val 5 v) (L.setIfInBounds 5 true) W' := fun v W' hb hq => hR.step hst hb hq
          clear hF hpre hl hR
          go_simp
          exact ⟨_, rfl, hgoal _ _ (Below.refl _ _) rfl⟩
        | 6, ho =>
          simp at ho
          subst ho
          refine step_plain rfl ?_
          have e41 := hF.gave 5 rfl (hpre ⟨5, .data⟩ (by simp) rfl) rfl
          have v5 := hR.2 5 (hpre ⟨5, .data⟩ (by simp) rfl)
          rw [show val 5 = .pointer (some ⟨w.heap.size + 1, 2, none⟩) from v5] at e41
          clear v5
          have hgoal : ∀ v W', Below x.heap.size x W' → QSm w.heap.size b off V.length cv k A1 r.length c1 b' off' cv' A2 c2 6 v W' → RQ (QSm w.heap.size b off V.length cv k A1 r.length c1 b' off' cv' A2 c2) wr (upd val 6 v) (L.setIfInBounds 6 true) W' := fun v W' hb hq => hR.step hst hb hq
          have q0 := cell_keep hR.1 q1
          have q1 := cell_keep hR.1 q3
          have q2 := cell_keep hR.1 hc
          have q3 := cell_keep hR.1 hc'
          clear hF hpre hl hR
          go_simp
          exact ⟨_, rfl, hgoal _ _ (Below.refl _ _) rfl⟩
        | 7, ho =>
          simp at ho
          subst ho
          refine step_plain rfl ?_
          have e5 := hF.was 5 (by kernel_rfl) rfl
          have hgoal : ∀ v W', Below x.heap.size x W' → QSm w.heap.size b off V.length cv k A1 r.length c1 b' off' cv' A2 c2 7 v W' → RQ (QSm w.heap.size b off V.length cv k A1 r.length c1 b' off' cv' A2 c2) wr (upd val 7 v) (L.setIfInBounds 7 true) W' := fun v W' hb hq => hR.step hst hb hq
          clear hF hpre hl hR
          go_simp
          exact ⟨_, rfl, hgoal _ _ (Below.refl _ _) rfl⟩
        | 8, ho =>
          simp at ho
          subst ho
          refine step_plain rfl ?_
          have e42 := hF.gave 6 rfl (hpre ⟨6, .data⟩ (by simp) rfl) rfl
          have v6 := hR.2 6 (hpre ⟨6, .data⟩ (by simp) rfl)
          rw [show val 6 = .slice (some ⟨b', off', none⟩) V.length cv' from v6] at e42
          clear v6
          have e43 := hF.gave 7 rfl (hpre ⟨7, .data⟩ (by simp) rfl) rfl
          have v7 := hR.2 7 (hpre ⟨7, .data⟩ (by simp) rfl)
          rw [show val 7 = .int .i64 (k : Nat) from v7] at e43
          clear v7
          have hgoal : ∀ v W', Below x.heap.size x W' → QSm w.heap.size b off V.length cv k A1 r.length c1 b' off' cv' A2 c2 8 v W' → RQ (QSm w.heap.size b off V.length cv k A1 r.length c1 b' off' cv' A2 c2) wr (upd val 8 v) (L.setIfInBounds 8 true) W' := fun v W' hb hq => hR.step hst hb hq
          clear hF hpre hl hR
          go_simp
          exact ⟨_, rfl, hgoal _ _ (Below.refl _ _) rfl⟩
        | 9, ho =>
          simp at ho
          subst ho
          refine step_plain rfl ?_
          have e44 := hF.gave 8 rfl (hpre ⟨8, .data⟩ (by simp) rfl) rfl
          have v8 := hR.2 8 (hpre ⟨8, .data⟩ (by simp) rfl)
          rw [show val 8 = .pointer (some ⟨b', off' + k, none⟩) from v8] at e44
          clear v8
          have hgoal : ∀ v W', Below x.heap.size x W' → QSm w.heap.size b off V.length cv k A1 r.length c1 b' off' cv' A2 c2 9 v W' → RQ (QSm w.heap.size b off V.length cv k A1 r.length c1 b' off' cv' A2 c2) wr (upd val 9 v) (L.setIfInBounds 9 true) W' := fun v W' hb hq => hR.step hst hb hq
          have q0 := cell_keep hR.1 q1
          have q1 := cell_keep hR.1 q3
          have q2 := cell_keep hR.1 hc
          have q3 := cell_keep hR.1 hc'
          clear hF hpre hl hR
          go_simp
          exact ⟨_, rfl, hgoal _ _ (Below.refl _ _) rfl⟩
        | 10, ho =>
          simp at ho
          subst ho
          refine step_plain rfl ?_
          have e40 := hF.gave 4 rfl (hpre ⟨4, .data⟩ (by simp) rfl) rfl
          have v4 := hR.2 4 (hpre ⟨4, .data⟩ (by simp) rfl)
          rw [show val 4 = .slice A1 r.length c1 from v4] at e40
          clear v4
          have e45 := hF.gave 9 rfl (hpre ⟨9, .data⟩ (by simp) rfl) rfl
          have v9 := hR.2 9 (hpre ⟨9, .data⟩ (by simp) rfl)
          rw [show val 9 = .slice A2 r.length c2 from v9] at e45
          clear v9
          have hgoal : ∀ v W', Below x.heap.size x W' → QSm w.heap.size b off V.length cv k A1 r.length c1 b' off' cv' A2 c2 10 v W' → RQ (QSm w.heap.size b off V.length cv k A1 r.length c1 b' off' cv' A2 c2) wr (upd val 10 v) (L.setIfInBounds 10 true) W' := fun v W' hb hq => hR.step hst hb hq
          have q0 := cell_keep hR.1 q1
          have q1 := cell_keep hR.1 q3
          have q2 := cell_keep hR.1 hc
          have q3 := cell_keep hR.1 hc'
          have hM := Lib.hid hR.1
          clear hF hpre hl hR
          go_simp
          refine ⟨trivial, ?_⟩
          refine CallsIn.mono (callsIn_wide.2 (HC.out _ hM.out)) ?_
          rintro e w9 ⟨rfl, hb9⟩
          exact ⟨_, rfl, hgoal _ _ hb9 rfl⟩
        | 11, ho =>
          simp at ho
          subst ho
          refine step_plain rfl ?_
          have e46 := hF.gave 10 rfl (hpre ⟨10, .data⟩ (by simp) rfl) rfl
          have v10 := hR.2 10 (hpre ⟨10, .data⟩ (by simp) rfl)
          rw [show val 10 = .bool true from v10] at e46
          clear v10
          have hgoal : ∀ v W', Below x.heap.size x W' → QSm w.heap.size b off V.length cv k A1 r.length c1 b' off' cv' A2 c2 11 v W' → RQ (QSm w.heap.size b off V.length cv k A1 r.length c1 b' off' cv' A2 c2) wr (upd val 11 v) (L.setIfInBounds 11 true) W' := fun v W' hb hq => hR.step hst hb hq
          clear hF hpre hl hR
          go_simp
          exact ⟨_, rfl, hgoal _ _ (Below.refl _ _) rfl⟩
        | i + 12, ho => simp at ho
      case hend =>
        intro val L b2 x hF hall hR
        have e := hF.all (by kernel_rfl) hall
        have v11 := hR.2 11 (hall 11 (by decide))
        have HXX := Lib.hid (HKB.out.trans (hR.1.mono HKB.out.size))
        clear hF hall hR
        subst e
        simp [final, dstOf, List.range, List.range.loop]
        rw [show val 11 = .bool false from v11]
        clear v11
        generalize val 0 = v0, val 1 = v1, val 2 = v2, val 3 = v3, val 4 = v4, val 5 = v5, val 6 = v6, val 7 = v7, val 8 = v8, val 9 = v9, val 10 = v10
        go_wp2
        go_roundw
        case rel => exact ⟨k + 1, by omega, by go_num, HXX.out⟩
        case measure => simp [intOf]; omega
    · go_wp2
      go_ret
      exact ⟨rfl, HBW.out⟩

end Go.Proofs.Ytjdahphnmeaolaa

/- Average, of the reference. -/
import Derived.Test.YtliocbjmledfbaaHAvg
import Derived.Test.YtliocbjmledfbaaHStore
namespace Go.Proofs.Ytliocbjmledfbaa
open Go.RowKit
attribute [local go_sem] Oper.semAt_some

def QRA (g : Nat) (n : Nat) (k : Nat) (m : Nat) (AS : Option Addr) (ns : Nat) (cs : Nat) (AM : Option Addr) (nm : Nat) (cm : Nat) (x : Int) (p : Int) (j : Nat) (v : Value) (_ : World) : Prop :=
  match j with
  | 0 => v = .slice (some ⟨g, 0, none⟩) n n
  | 1 => v = .int .i64 k
  | 2 => v = .pointer (some ⟨g, k, none⟩)
  | 3 => v = .int .i64 x
  | 4 => v = .agg #[.slice AS ns cs, .slice AM nm cm]
  | 5 => v = .int .i64 m
  | 6 => v = .int .i64 k
  | 7 => v = .int .i64 n
  | 8 => v = .int .i64 p
  | 9 => v = .int .i64 (x + p)
  | 10 => v = .pointer (some ⟨g, k, none⟩)
  | _ => True
theorem QRA_stays (g : Nat) (n : Nat) (k : Nat) (m : Nat) (AS : Option Addr) (ns : Nat) (cs : Nat) (AM : Option Addr) (nm : Nat) (cm : Nat) (x : Int) (p : Int) : Stays (QRA g n k m AS ns cs AM nm cm x p) := fun j v W W' h _ => by
  unfold QRA at h ⊢
  split at h <;> exact h

/-- The sums after m turns, and k points of the next one. -/
def rwN (S M : List Int) (n m k : Nat) : List Int := (List.range n).map fun j : Nat => sumN S M (j : Int) n (if j < k then m + 1 else m)
theorem rwN_len (S M : List Int) (n m k : Nat) : (rwN S M n m k).length = n := by simp [rwN]
theorem rwN_get (S M : List Int) (n m k : Nat) (h : k < n) : (rwN S M n m k)[k]? = some (sumN S M (k : Int) n m) := by
  unfold rwN
  simp [h]
theorem rwN_set (S M : List Int) (n m k : Nat) (h : k < n) : (rwN S M n m k).set k (sumN S M (k : Int) n (m + 1)) = rwN S M n m (k + 1) := by
  apply List.ext_getElem (by simp [rwN])
  intro j h1 h2
  have hj : j < n := by simpa [rwN] using h2
  rw [List.getElem_set]
  by_cases e : k = j
  · subst e
    simp [rwN]
  · rw [if_neg e]
    simp only [rwN, List.getElem_map, List.getElem_range]
    congr 1
    by_cases hjk : j < k
    · rw [if_pos hjk, if_pos (by omega)]
    · rw [if_neg hjk, if_neg (by omega)]
theorem rwN_next (S M : List Int) (n m : Nat) : rwN S M n m n = rwN S M n (m + 1) 0 := by
  unfold rwN
  refine List.map_congr_left fun j hj => ?_
  rw [if_pos (List.mem_range.1 hj), if_neg (by omega)]
theorem rwN_first (S M : List Int) (n : Nat) : rwN S M n 0 0 = List.replicate n 0 := by
  apply List.ext_getElem (by simp [rwN])
  intro j h1 h2
  simp [rwN, sumN]
theorem rwN_last (S M : List Int) (n : Nat) : rwN S M n (M.length - 1) 0 = avK S M n n := by
  unfold rwN avK
  refine List.map_congr_left fun j hj => ?_
  rw [if_neg (by omega)]

set_option maxRecDepth 100000 in
set_option maxHeartbeats 1000000 in
theorem raverage_any (AS AM : Option Addr) (ns cs nm cm B : Nat) (S M : List Int) (n : Int) (w : World) (hs : S.length = ns) (hm : M.length = nm) (hns : ns ≤ maxLen) (hnm : nm ≤ maxLen) (hB : B ≤ w.heap.size) (rs : RI w B AS S) (rm : RI w B AM M) :
    Calls Try.prog 20 #[.agg #[.slice AS ns cs, .slice AM nm cm], .int .i64 n] w (GivesAv w (avN S M n)) := by
  have HC := Lib.hid (fun W (hW : Below w.heap.size w W) => rcheck_any AS AM ns cs nm cm B S M W hs hm hns hnm (by have := hW.size; omega) (rs.below (hW.mono hB)) (rm.below (hW.mono hB)))
  cases hv : vibB S M with
  | false =>
    have e : avN S M n = ([], 0, 80) := by unfold avN; simp [hv]
    rw [vibE_no hv] at HC
    rw [e]
    clear e hv rs rm hs hm
    go_enter Try.func20, Try.ntmps20
    go_wp2_with (go_at_call 18; refine Calls.mono (HC.out _ (by go_grown)) ?_; rintro e w1 ⟨rfl, hb1⟩)
    go_ret3
    exact ⟨_, rfl, QI.nil, Below.trans (by go_grown) (hb1.mono (by simp))⟩
  | true =>
  rw [vibE_yes hv] at HC
  by_cases hn : 1 ≤ n ∧ n ≤ 24
  · have H1 := Lib.hid (rwithin_yes hn.1 hn.2)
    have e : avN S M n = (avK S M n.toNat n.toNat, n * ((M.length : Int) - 1), 0) := by unfold avN; simp [hv, hn]
    rw [e]
    obtain ⟨nn, rfl⟩ := Int.eq_ofNat_of_zero_le (show 0 ≤ n by omega)
    simp only [Int.toNat_natCast]
    obtain ⟨n0, n1⟩ := hn
    obtain ⟨v1, v2, v3, v4, v5, v6⟩ := vib_get hv
    have HV := Lib.hid (And.intro hv v2)
    have HLen := Lib.hid (And.intro hs hm)
    clear e hv v2 v5 v6
    go_enter Try.func20, Try.ntmps20
    go_wp2_with (first
      | (go_at_call 18; refine Calls.mono (HC.out _ (by go_grown)) ?_; rintro e w1 ⟨rfl, hb1⟩; have t0 := cell_keep hb1 (show _ = some (Value.slice AS ns cs) from cell_newest w _ _ _ 0); have t1 := cell_keep hb1 (show _ = some (Value.slice AM nm cm) from cell_newest w _ _ _ 1); have HB1 := Lib.hid (Below.trans (by go_grown : Below w.heap.size w (w.alloc (.cells #[.slice AS ns cs, .slice AM nm cm] 24))) (hb1.mono (by simp))); have hz1 : w.heap.size < w1.heap.size := (by have := hb1.size; simp at this; omega))
      | (go_at_call 56; refine Calls.mono (H1.out _) ?_; rintro e w' ⟨rfl, rfl⟩)
      | (at_make; refine wpList_makeI rfl _ _ rfl nn rfl rfl (by omega) ?_))
    have HB2 := Lib.hid (HB1.out.alloc HB1.out.size (.cells (madeCells #[Value.int .i64 0] nn) 3))
    have s0 := cell_keep ((Below.refl _ _).alloc (Nat.le_refl _) (.cells (madeCells #[Value.int .i64 0] nn) 3) : Below w1.heap.size w1 _) t0
    have s1 := cell_keep ((Below.refl _ _).alloc (Nat.le_refl _) (.cells (madeCells #[Value.int .i64 0] nn) 3) : Below w1.heap.size w1 _) t1
    have hRW := RW.made w1 nn
    have hz2 : w.heap.size < (w1.alloc (.cells (madeCells #[Value.int .i64 0] nn) 3)).heap.size := by simp; omega
    obtain ⟨g, hg⟩ : ∃ g, w1.heap.size = g := ⟨_, rfl⟩
    rw [hg] at hRW hz1 ⊢
    have HRW := Lib.hid hRW
    generalize w1.alloc (.cells (madeCells #[Value.int .i64 0] nn) 3) = w2 at *
    clear t0 t1 hRW
    obtain ⟨tu, htu⟩ : ∃ tu : Nat, (nm : Int) - 1 = tu := ⟨nm - 1, by omega⟩
    have htu' : tu + 1 = nm := by omega
    rw [htu]
    go_loopw [10] (fun i wr => ∃ m : Nat, m ≤ tu ∧ i = .int .i64 m ∧ RW wr g (rwN S M nn m 0) ∧ Below g w2 wr) (fun i _ => tu - (intOf i).toNat)
    case atStart => exact ⟨0, Nat.zero_le _, rfl, by rw [rwN_first]; exact HRW.out, Below.refl _ _⟩
    case round =>
      obtain ⟨m, hm', rfl, hrow, hbw⟩ := hrel
      by_cases hlm : m < tu
      · have HOW := Lib.hid (And.intro hrow hbw)
        clear hrow hbw
        go_wp2
        go_loopw [11] (fun i wr => ∃ k : Nat, k ≤ nn ∧ i = .int .i64 k ∧ RW wr g (rwN S M nn m k) ∧ Below g w2 wr) (fun i _ => nn - (intOf i).toNat)
        case atStart => exact ⟨0, Nat.zero_le _, rfl, HOW.out.1, HOW.out.2⟩
        case round =>
          obtain ⟨k, hk, rfl, hrow, hbw⟩ := hrel
          by_cases hlt : k < nn
          · obtain ⟨a, T, ht⟩ := TU.get HV.out.1 (i := m) (by rw [HLen.out.2]; omega)
            have c0 : wr.cell? ⟨w.heap.size, 0, none⟩ = some (.slice AS ns cs) := (hbw.cell (p := ⟨w.heap.size, 0, none⟩) hz1).trans s0
            have c1 : wr.cell? ⟨w.heap.size, 1, none⟩ = some (.slice AM nm cm) := (hbw.cell (p := ⟨w.heap.size, 1, none⟩) hz1).trans s1
            have cg := hrow.get (rwN_get S M nn m k hlt)
            have fg := hrow.free k
            have hgl := hrow.lt
            have HBR := Lib.hid (show Below w.heap.size w wr from HB2.out.trans (hbw.mono (by omega)))
            have hwz := HBR.out.size
            have HP := Lib.hid (fun W (hW : Below wr.heap.size wr W) => value_any AS AM ns cs nm cm B S M m a T k nn W HLen.out.1 HLen.out.2 (by rw [← HLen.out.2]; omega) (by have := hW.size; omega) (wB_all HV.out.2) ht (by omega) (by omega) n1 ((rs.below (HBR.out.mono hB)).below (hW.mono (by omega))) ((rm.below (HBR.out.mono hB)).below (hW.mono (by omega))))
            have hsb := sumN_bd HV.out.1 (show 0 ≤ (k : Int) by omega) (show (k : Int) < nn by omega) n1 m (by rw [HLen.out.2]; omega)
            have y1 := ht.t1
            have y2 := ht.top
            have y3 := ht.few
            obtain ⟨P, q, r, hQ⟩ := QR.mk' (show 0 ≤ (k : Int) by omega) (show (k : Int) < nn by omega) n1 (show 1 ≤ (T : Int) by omega) (by omega)
            have hpb := ptN_bd (X := fun j => S[a + j]?.getD 0) hQ n1 (fun j _ => at_bd HV.out.2 _)
            have HN := Lib.hid (show sumN S M k nn (m + 1) = sumN S M k nn m + ptN (fun j => S[a + j]?.getD 0) T k nn by simp only [sumN]; rw [ht.val])
            have HSET := Lib.hid (rwN_set S M nn m k hlt)
            have HRO := Lib.hid (And.intro hrow hbw)
            rw [HN.out] at HSET
            clear ht hQ hrow hbw
            generalize ptN (fun j => S[a + j]?.getD 0) T k nn = pt at *
            generalize sumN S M k nn m = sm at *
            obtain ⟨z1, z2⟩ := hsb
            obtain ⟨z3, z4⟩ := hpb
            have j0 : (k : Int) < nn := by omega
            have j1 : 0 ≤ (k : Int) := by omega
            have j2 : IntKind.i64.wrap (sm + pt) = sm + pt := IntWalk.i64_in _ (by omega)
            have j3 : w.heap.size < wr.heap.size := World.block_lt_of_cell? _ _ c0
            go_upto_region 14 with fail
            refine wpIn_wide.1 (region_inv2 (n := 9) (by kernel_rfl) (RQS (QRA g nn k m AS ns cs AM nm cm sm pt) wr 11 (⟨g, k, none⟩) (.int .i64 (sm + pt))) (by kernel_rfl) rfl (RQS.start _ _ _ _ _ _) ?hstep ?hend)
            case hstep =>
              have hst := QRA_stays g nn k m AS ns cs AM nm cm sm pt
              intro i' o ho val L b' y hF hR hpre hl
              match i', ho with
              | 0, ho =>
                simp at ho
                subst ho
                refine step_plain rfl ?_
                have hN := hF.later hl 11 rfl (e := ⟨0, .phase⟩) (by simp) rfl rfl
                have hR := hR.1 hN
                have e8 := hF.was 8 (by kernel_rfl) rfl
                have hgoal : ∀ v W', Below y.heap.size y W' → QRA g nn k m AS ns cs AM nm cm sm pt 0 v W' → RQS (QRA g nn k m AS ns cs AM nm cm sm pt) wr 11 (⟨g, k, none⟩) (.int .i64 (sm + pt)) (upd val 0 v) (L.setIfInBounds 0 true) W' := fun v W' hb hq => RQS.step hR hst hb hq (by decide) hN
                clear hF hpre hl hR hN
                go_simp
                exact ⟨_, rfl, hgoal _ _ (Below.refl _ _) rfl⟩
              | 1, ho =>
                simp at ho
                subst ho
                refine step_plain rfl ?_
                have hN := hF.later hl 11 rfl (e := ⟨1, .phase⟩) (by simp) rfl rfl
                have hR := hR.1 hN
                have e11 := hF.was 11 (by kernel_rfl) rfl
                have hgoal : ∀ v W', Below y.heap.size y W' → QRA g nn k m AS ns cs AM nm cm sm pt 1 v W' → RQS (QRA g nn k m AS ns cs AM nm cm sm pt) wr 11 (⟨g, k, none⟩) (.int .i64 (sm + pt)) (upd val 1 v) (L.setIfInBounds 1 true) W' := fun v W' hb hq => RQS.step hR hst hb hq (by decide) hN
                clear hF hpre hl hR hN
                go_simp
                exact ⟨_, rfl, hgoal _ _ (Below.refl _ _) rfl⟩
              | 2, ho =>
                simp at ho
                subst ho
                refine step_plain rfl ?_
                have hN := hF.later hl 11 rfl (e := ⟨2, .phase⟩) (by simp) rfl rfl
                have hR := hR.1 hN
                have e36 := hF.gave 0 rfl (hpre ⟨0, .data⟩ (by simp) rfl) rfl
                have v0 := hR.2 0 (hpre ⟨0, .data⟩ (by simp) rfl)
                rw [show val 0 = .slice (some ⟨g, 0, none⟩) nn nn from v0] at e36
                clear v0
                have e37 := hF.gave 1 rfl (hpre ⟨1, .data⟩ (by simp) rfl) rfl
                have v1 := hR.2 1 (hpre ⟨1, .data⟩ (by simp) rfl)
                rw [show val 1 = .int .i64 k from v1] at e37
                clear v1
                have hgoal : ∀ v W', Below y.heap.size y W' → QRA g nn k m AS ns cs AM nm cm sm pt 2 v W' → RQS (QRA g nn k m AS ns cs AM nm cm sm pt) wr 11 (⟨g, k, none⟩) (.int .i64 (sm + pt)) (upd val 2 v) (L.setIfInBounds 2 true) W' := fun v W' hb hq => RQS.step hR hst hb hq (by decide) hN
                clear hF hpre hl hR hN
                go_simp
                exact ⟨_, rfl, hgoal _ _ (Below.refl _ _) rfl⟩
              | 3, ho =>
                simp at ho
                subst ho
                refine step_plain rfl ?_
                have hN := hF.later hl 11 rfl (e := ⟨3, .phase⟩) (by simp) rfl rfl
                have hR := hR.1 hN
                have e38 := hF.gave 2 rfl (hpre ⟨2, .data⟩ (by simp) rfl) rfl
                have v2 := hR.2 2 (hpre ⟨2, .data⟩ (by simp) rfl)
                rw [show val 2 = .pointer (some ⟨g, k, none⟩) from v2] at e38
                clear v2
                have hgoal : ∀ v W', Below y.heap.size y W' → QRA g nn k m AS ns cs AM nm cm sm pt 3 v W' → RQS (QRA g nn k m AS ns cs AM nm cm sm pt) wr 11 (⟨g, k, none⟩) (.int .i64 (sm + pt)) (upd val 3 v) (L.setIfInBounds 3 true) W' := fun v W' hb hq => RQS.step hR hst hb hq (by decide) hN
                have q0 := cell_keep hR.1 c0
                have q1 := cell_keep hR.1 c1
                have q2 := cell_keep hR.1 cg
                clear hF hpre hl hR hN
                go_simp
                exact ⟨_, rfl, hgoal _ _ (Below.refl _ _) rfl⟩
              | 4, ho =>
                simp at ho
                subst ho
                refine step_plain rfl ?_
                have hN := hF.later hl 11 rfl (e := ⟨4, .phase⟩) (by simp) rfl rfl
                have hR := hR.1 hN
                have e2 := hF.was 2 (by kernel_rfl) rfl
                have hgoal : ∀ v W', Below y.heap.size y W' → QRA g nn k m AS ns cs AM nm cm sm pt 4 v W' → RQS (QRA g nn k m AS ns cs AM nm cm sm pt) wr 11 (⟨g, k, none⟩) (.int .i64 (sm + pt)) (upd val 4 v) (L.setIfInBounds 4 true) W' := fun v W' hb hq => RQS.step hR hst hb hq (by decide) hN
                have q0 := cell_keep hR.1 c0
                have q1 := cell_keep hR.1 c1
                have q2 := cell_keep hR.1 cg
                clear hF hpre hl hR hN
                go_simp
                exact ⟨_, rfl, hgoal _ _ (Below.refl _ _) rfl⟩
              | 5, ho =>
                simp at ho
                subst ho
                refine step_plain rfl ?_
                have hN := hF.later hl 11 rfl (e := ⟨5, .phase⟩) (by simp) rfl rfl
                have hR := hR.1 hN
                have e10 := hF.was 10 (by kernel_rfl) rfl
                have hgoal : ∀ v W', Below y.heap.size y W' → QRA g nn k m AS ns cs AM nm cm sm pt 5 v W' → RQS (QRA g nn k m AS ns cs AM nm cm sm pt) wr 11 (⟨g, k, none⟩) (.int .i64 (sm + pt)) (upd val 5 v) (L.setIfInBounds 5 true) W' := fun v W' hb hq => RQS.step hR hst hb hq (by decide) hN
                clear hF hpre hl hR hN
                go_simp
                exact ⟨_, rfl, hgoal _ _ (Below.refl _ _) rfl⟩
              | 6, ho =>
                simp at ho
                subst ho
                refine step_plain rfl ?_
                have hN := hF.later hl 11 rfl (e := ⟨6, .phase⟩) (by simp) rfl rfl
                have hR := hR.1 hN
                have e11 := hF.was 11 (by kernel_rfl) rfl
                have hgoal : ∀ v W', Below y.heap.size y W' → QRA g nn k m AS ns cs AM nm cm sm pt 6 v W' → RQS (QRA g nn k m AS ns cs AM nm cm sm pt) wr 11 (⟨g, k, none⟩) (.int .i64 (sm + pt)) (upd val 6 v) (L.setIfInBounds 6 true) W' := fun v W' hb hq => RQS.step hR hst hb hq (by decide) hN
                clear hF hpre hl hR hN
                go_simp
                exact ⟨_, rfl, hgoal _ _ (Below.refl _ _) rfl⟩
              | 7, ho =>
                simp at ho
                subst ho
                refine step_plain rfl ?_
                have hN := hF.later hl 11 rfl (e := ⟨7, .phase⟩) (by simp) rfl rfl
                have hR := hR.1 hN
                have e1 := hF.was 1 (by kernel_rfl) rfl
                have hgoal : ∀ v W', Below y.heap.size y W' → QRA g nn k m AS ns cs AM nm cm sm pt 7 v W' → RQS (QRA g nn k m AS ns cs AM nm cm sm pt) wr 11 (⟨g, k, none⟩) (.int .i64 (sm + pt)) (upd val 7 v) (L.setIfInBounds 7 true) W' := fun v W' hb hq => RQS.step hR hst hb hq (by decide) hN
                clear hF hpre hl hR hN
                go_simp
                exact ⟨_, rfl, hgoal _ _ (Below.refl _ _) rfl⟩
              | 8, ho =>
                simp at ho
                subst ho
                refine step_plain rfl ?_
                have hN := hF.later hl 11 rfl (e := ⟨8, .phase⟩) (by simp) rfl rfl
                have hR := hR.1 hN
                have e40 := hF.gave 4 rfl (hpre ⟨4, .data⟩ (by simp) rfl) rfl
                have v4 := hR.2 4 (hpre ⟨4, .data⟩ (by simp) rfl)
                rw [show val 4 = .agg #[.slice AS ns cs, .slice AM nm cm] from v4] at e40
                clear v4
                have e41 := hF.gave 5 rfl (hpre ⟨5, .data⟩ (by simp) rfl) rfl
                have v5 := hR.2 5 (hpre ⟨5, .data⟩ (by simp) rfl)
                rw [show val 5 = .int .i64 m from v5] at e41
                clear v5
                have e42 := hF.gave 6 rfl (hpre ⟨6, .data⟩ (by simp) rfl) rfl
                have v6 := hR.2 6 (hpre ⟨6, .data⟩ (by simp) rfl)
                rw [show val 6 = .int .i64 k from v6] at e42
                clear v6
                have e43 := hF.gave 7 rfl (hpre ⟨7, .data⟩ (by simp) rfl) rfl
                have v7 := hR.2 7 (hpre ⟨7, .data⟩ (by simp) rfl)
                rw [show val 7 = .int .i64 nn from v7] at e43
                clear v7
                have hgoal : ∀ v W', Below y.heap.size y W' → QRA g nn k m AS ns cs AM nm cm sm pt 8 v W' → RQS (QRA g nn k m AS ns cs AM nm cm sm pt) wr 11 (⟨g, k, none⟩) (.int .i64 (sm + pt)) (upd val 8 v) (L.setIfInBounds 8 true) W' := fun v W' hb hq => RQS.step hR hst hb hq (by decide) hN
                have q0 := cell_keep hR.1 c0
                have q1 := cell_keep hR.1 c1
                have q2 := cell_keep hR.1 cg
                have hM := Lib.hid hR.1
                clear hF hpre hl hR hN
                go_simp
                refine ⟨trivial, ?_⟩
                refine CallsIn.mono (callsIn_wide.2 (HP.out _ hM.out)) ?_
                rintro e w9 ⟨rfl, hb9⟩
                exact ⟨_, rfl, hgoal _ _ hb9 rfl⟩
              | 9, ho =>
                simp at ho
                subst ho
                refine step_plain rfl ?_
                have hN := hF.later hl 11 rfl (e := ⟨9, .phase⟩) (by simp) rfl rfl
                have hR := hR.1 hN
                have e39 := hF.gave 3 rfl (hpre ⟨3, .data⟩ (by simp) rfl) rfl
                have v3 := hR.2 3 (hpre ⟨3, .data⟩ (by simp) rfl)
                rw [show val 3 = .int .i64 sm from v3] at e39
                clear v3
                have e44 := hF.gave 8 rfl (hpre ⟨8, .data⟩ (by simp) rfl) rfl
                have v8 := hR.2 8 (hpre ⟨8, .data⟩ (by simp) rfl)
                rw [show val 8 = .int .i64 pt from v8] at e44
                clear v8
                have hgoal : ∀ v W', Below y.heap.size y W' → QRA g nn k m AS ns cs AM nm cm sm pt 9 v W' → RQS (QRA g nn k m AS ns cs AM nm cm sm pt) wr 11 (⟨g, k, none⟩) (.int .i64 (sm + pt)) (upd val 9 v) (L.setIfInBounds 9 true) W' := fun v W' hb hq => RQS.step hR hst hb hq (by decide) hN
                clear hF hpre hl hR hN
                go_simp
                exact ⟨_, rfl, hgoal _ _ (Below.refl _ _) rfl⟩
              | 10, ho =>
                simp at ho
                subst ho
                refine step_plain rfl ?_
                have hN := hF.later hl 11 rfl (e := ⟨10, .data⟩) (by simp) rfl rfl
                have hR := hR.1 hN
                have e36 := hF.gave 0 rfl (hpre ⟨0, .data⟩ (by simp) rfl) rfl
                have v0 := hR.2 0 (hpre ⟨0, .data⟩ (by simp) rfl)
                rw [show val 0 = .slice (some ⟨g, 0, none⟩) nn nn from v0] at e36
                clear v0
                have e37 := hF.gave 1 rfl (hpre ⟨1, .data⟩ (by simp) rfl) rfl
                have v1 := hR.2 1 (hpre ⟨1, .data⟩ (by simp) rfl)
                rw [show val 1 = .int .i64 k from v1] at e37
                clear v1
                have hgoal : ∀ v W', Below y.heap.size y W' → QRA g nn k m AS ns cs AM nm cm sm pt 10 v W' → RQS (QRA g nn k m AS ns cs AM nm cm sm pt) wr 11 (⟨g, k, none⟩) (.int .i64 (sm + pt)) (upd val 10 v) (L.setIfInBounds 10 true) W' := fun v W' hb hq => RQS.step hR hst hb hq (by decide) hN
                clear hF hpre hl hR hN
                go_simp
                exact ⟨_, rfl, hgoal _ _ (Below.refl _ _) rfl⟩
              | 11, ho =>
                simp at ho
                subst ho
                refine step_plain rfl ?_
                have hN := hF.none2 hl (by decide)
                have hls : 11 < L.size := by rw [hF.lsize]; decide
                have hR := hR.1 hN
                have e46 := hF.gave 10 rfl (hpre ⟨10, .data⟩ (by simp) rfl) rfl
                have v10 := hR.2 10 (hpre ⟨10, .data⟩ (by simp) rfl)
                rw [show val 10 = .pointer (some ⟨g, k, none⟩) from v10] at e46
                clear v10
                have e45 := hF.gave 9 rfl (hpre ⟨9, .data⟩ (by simp) rfl) rfl
                have v9 := hR.2 9 (hpre ⟨9, .data⟩ (by simp) rfl)
                rw [show val 9 = .int .i64 (sm + pt) from v9] at e45
                clear v9
                have hgoal : RQS (QRA g nn k m AS ns cs AM nm cm sm pt) wr 11 (⟨g, k, none⟩) (.int .i64 (sm + pt)) (upd val 11 undef) (L.setIfInBounds 11 true) (y.setCell (⟨g, k, none⟩) (.int .i64 (sm + pt))) := RQS.store hR hls
                have q2 := cell_keep hR.1 cg
                have q3 : y.frozen? ⟨g, k, none⟩ = false := (hR.1.frozen (p := ⟨g, k, none⟩) hgl).trans fg
                clear hF hpre hl hR hN hls
                go_simp
                exact ⟨_, hgoal⟩
              | i + 12, ho => simp at ho
            intro val L b' y hF hall hR
            have e := hF.all (by kernel_rfl) hall
            obtain ⟨y, hby, rfl⟩ := hR.2 (hall 11 (by decide))
            have HX := Lib.hid (And.intro ((HRO.out.1.stay hby).set k (sm + pt)) ((HRO.out.2.trans (hby.mono (by omega))).setCell (p := ⟨g, k, none⟩) (Nat.le_refl _) (.int .i64 (sm + pt))))
            rw [HSET.out] at HX
            clear hF hall hR hby
            subst e
            simp [final, dstOf, List.range, List.range.loop]
            go_wp2
            go_roundw
            case rel => exact ⟨k + 1, by omega, by go_num, HX.out.1, HX.out.2⟩
            case measure => simp [intOf]; omega
          · obtain rfl : k = nn := by omega
            have HRO := Lib.hid (And.intro hrow hbw)
            rw [rwN_next] at HRO
            clear hrow hbw
            go_wp2
            go_roundw
            case rel => exact ⟨m + 1, by omega, by go_num, HRO.out.1, HRO.out.2⟩
            case measure => simp [intOf]; omega
      · obtain rfl : m = tu := by omega
        have HM1 := Lib.hid (show M.length - 1 = m by have := HLen.out.2; omega)
        have HL := Lib.hid (rwN_last S M nn)
        rw [HM1.out] at HL
        rw [HL.out] at hrow
        have hlk := avK_len S M nn nn
        have HR := Lib.hid (And.intro hrow hbw)
        have j1 : IntKind.i64.wrap ((nn : Int) * m) = (nn : Int) * m := by
          have : (nn : Int) * m ≤ 24 * 9 := Int.mul_le_mul (by omega) (by have := HLen.out.2; omega) (by omega) (by omega)
          have : 0 ≤ (nn : Int) * m := Int.mul_nonneg (by omega) (by omega)
          exact IntWalk.i64_in _ (by omega)
        have HE := Lib.hid (show ((M.length : Int) - 1) = m by have := HLen.out.2; omega)
        have HLK := Lib.hid hlk
        clear hrow hbw hlk
        go_wp2
        go_ret3
        exact ⟨.slice (some ⟨g, 0, none⟩) nn nn, by rw [HE.out]; rfl, ⟨some ⟨g, 0, none⟩, nn, by rw [HLK.out], by rw [HLK.out]; exact Nat.le_refl _, HR.out.1.ri⟩, HB2.out.trans (HR.out.2.mono (by omega))⟩
  · have H1 := Lib.hid (rwithin_no hn)
    have e : avN S M n = ([], 0, 1) := by unfold avN; simp [hv]; omega
    rw [e]
    clear e hn hv rs rm hs hm
    go_enter Try.func20, Try.ntmps20
    go_wp2_with (first
      | (go_at_call 18; refine Calls.mono (HC.out _ (by go_grown)) ?_; rintro e w1 ⟨rfl, hb1⟩; have HB1 := Lib.hid (Below.trans (by go_grown : Below w.heap.size w (w.alloc (.cells #[.slice AS ns cs, .slice AM nm cm] 24))) (hb1.mono (by simp))))
      | (go_at_call 56; refine Calls.mono (H1.out _) ?_; rintro e w' ⟨rfl, rfl⟩))
    go_ret3
    exact ⟨_, rfl, QI.nil, HB1.out⟩
end Go.Proofs.Ytliocbjmledfbaa

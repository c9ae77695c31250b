/- Average. -/
import Derived.Test.YtliocbjmledfbaaHValue
import Derived.Test.YtliocbjmledfbaaHOwn
namespace Go.Proofs.Ytliocbjmledfbaa
open Go.RowKit

def avK (S M : List Int) (n k : Nat) : List Int := (List.range k).map fun j : Nat => sumN S M (j : Int) n (M.length - 1)
theorem avK_len (S M : List Int) (n k : Nat) : (avK S M n k).length = k := by simp [avK]
theorem avK_step (S M : List Int) (n k : Nat) : avK S M n (k + 1) = avK S M n k ++ [sumN S M (k : Int) n (M.length - 1)] := by simp [avK, List.range_succ]
def avN (S M : List Int) (n : Int) : List Int × Int × Int :=
  if vibB S M then (if 1 ≤ n ∧ n ≤ 24 then (avK S M n.toNat n.toNat, n * ((M.length : Int) - 1), 0) else ([], 0, 1)) else ([], 0, 80)
def GivesAv (w : World) (r : List Int × Int × Int) (e : Ending) (w' : World) : Prop :=
  ∃ v, e = .returned (.tuple #[v, .int .i64 r.2.1, .int .i64 r.2.2]) ∧ QI r.1 v w' ∧ Below w.heap.size w w'
theorem quiet_more {P : Program} {f : FuncId} {args : Array Value} {w : World} {n : Nat} {v : Value} (h : Calls P f args (w.drewN n) fun e w' => e = .returned v ∧ ∃ d, w' = (w.drewN n).drewN d) :
    Calls P f args (w.drewN n) fun e w'' => e = .returned v ∧ ∃ m, w'' = w.drewN m := h.mono fun _ _ ⟨he, d, hm⟩ => ⟨he, n + d, by rw [hm, World.drewN_drewN]⟩
theorem RI.cut {w : World} {B b off : Nat} {xs : List Int} (h : RI w B (some ⟨b, off, none⟩) xs) (a l : Nat) : RI w B (some ⟨b, off + a, none⟩) ((xs.drop a).take l) := fun hp => by
  have hp' : 0 < xs.length := by simp at hp; omega
  obtain ⟨b', off', e, hb, hc⟩ := h (by simpa using hp')
  cases e
  refine ⟨_, _, rfl, hb, fun j u hu => ?_⟩
  rw [Nat.add_assoc]
  refine hc (a + j) u ?_
  rw [List.map_take, List.getElem?_take] at hu
  split at hu
  · rw [List.map_drop, List.getElem?_drop] at hu
    exact hu
  · cases hu
theorem cut_get (xs : List Int) (a l j : Nat) (hj : j < l) : ((xs.drop a).take l)[j]? = xs[a + j]? := by
  rw [List.getElem?_take_of_lt hj, List.getElem?_drop]
theorem ptN_congr {X Y : Nat → Int} {T k n P q r : Int} (h : QR k n T P q r) (e : ∀ j : Nat, (j : Int) ≤ T → X j = Y j) : ptN X T k n = ptN Y T k n := by
  have h1 := h.q1
  have h0 := h.q0
  by_cases hr : r = 0
  · rw [ptN_zero h hr, ptN_zero h hr, e _ (by omega)]
  · rw [ptN_some h hr, ptN_some h hr, e _ (by omega), e _ (by omega)]
theorem ptN_bd {X : Nat → Int} {T k n P q r : Int} (h : QR k n T P q r) (n1 : n ≤ 24) (hb : ∀ j : Nat, (j : Int) ≤ T → -100 ≤ X j ∧ X j ≤ 100) : -4800 ≤ ptN X T k n ∧ ptN X T k n ≤ 4800 := by
  have h1 := h.q1
  have h0 := h.q0
  have r0 := h.r0
  have r1 := h.r1
  have b0 := hb q.toNat (by omega)
  by_cases hr : r = 0
  · rw [ptN_zero h hr]
    have := prod_bd (show 0 ≤ n by omega) n1 b0.1 b0.2
    omega
  · have b1 := hb (q.toNat + 1) (by omega)
    rw [ptN_some h hr]
    have := prod_bd (show 0 ≤ n - r by omega) (by omega) b0.1 b0.2
    have := prod_bd (show 0 ≤ r by omega) (by omega) b1.1 b1.2
    omega
theorem wB_all {lo hi : Int} {xs : List Int} (h : wB lo hi xs = true) : ∀ x ∈ xs, lo ≤ x ∧ x ≤ hi := fun x hx => by
  obtain ⟨k, hk, rfl⟩ := List.mem_iff_getElem.1 hx
  exact wB_mem h (List.getElem?_eq_getElem hk)
theorem at_bd {S : List Int} (h : wB (-100) 100 S = true) (j : Nat) : -100 ≤ S[j]?.getD 0 ∧ S[j]?.getD 0 ≤ 100 := by
  cases e : S[j]? with
  | none => simp
  | some x => exact wB_mem h e
theorem sumN_bd {S M : List Int} (hv : vibB S M = true) {k n : Int} (k0 : 0 ≤ k) (k1 : k < n) (n1 : n ≤ 24) (m : Nat) (hm : m + 1 ≤ M.length) : -(4800 * m) ≤ sumN S M k n m ∧ sumN S M k n m ≤ 4800 * m := by
  induction m with
  | zero => simp [sumN]
  | succ m ih =>
    have := ih (by omega)
    obtain ⟨a, T, ht⟩ := TU.get hv (i := m) (by omega)
    have h1 := ht.t1
    have h2 := ht.top
    have h3 := ht.few
    obtain ⟨P, q, r, hQ⟩ := QR.mk' k0 k1 n1 (show 1 ≤ (T : Int) by omega) (by omega)
    have hb := ptN_bd (X := fun j => S[a + j]?.getD 0) hQ n1 (fun j _ => at_bd (vib_get hv).2.1 _)
    simp only [sumN]
    rw [ht.val]
    omega

set_option maxRecDepth 100000 in
set_option maxHeartbeats 1000000 in
theorem average_any (AS AM : Option Addr) (ns cs nm cm B : Nat) (S M : List Int) (n : Int) (w : World) (hs : S.length = ns) (hm : M.length = nm) (hns : ns ≤ maxLen) (hnm : nm ≤ maxLen) (hcs : ns ≤ cs) (hB : B ≤ w.heap.size) (rs : RI w B AS S) (rm : RI w B AM M) :
    Calls Try.prog 19 #[.agg #[.slice AS ns cs, .slice AM nm cm], .int .i64 n] w (GivesAv w (avN S M n)) := by
  have HC := Lib.hid (fun W (hW : Below w.heap.size w W) => check_any AS AM ns cs nm cm B S M W hs hm hns hnm (by have := hW.size; omega) (rs.below (hW.mono hB)) (rm.below (hW.mono hB)))
  cases hv : vibB S M with
  | false =>
    have e : avN S M n = ([], 0, 80) := by unfold avN; simp [hv]
    rw [vibE_no hv] at HC
    rw [e]
    clear e hv rs rm hs hm
    go_enter Try.func19, Try.ntmps19
    go_wp2_with (go_at_call 17; refine Calls.mono (HC.out _ (by go_grown)) ?_; rintro e w1 ⟨rfl, hb1⟩)
    go_ret3
    exact ⟨_, rfl, QI.nil, Below.trans (by go_grown) (hb1.mono (by simp))⟩
  | true =>
  rw [vibE_yes hv] at HC
  by_cases hn : 1 ≤ n ∧ n ≤ 24
  · have H1 := Lib.hid (show wB 1 24 [n] = true by rw [wB_1]; simp [hn])
    have e : avN S M n = (avK S M n.toNat n.toNat, n * ((M.length : Int) - 1), 0) := by unfold avN; simp [hv, hn]
    rw [e]
    obtain ⟨nn, rfl⟩ := Int.eq_ofNat_of_zero_le (show 0 ≤ n by omega)
    simp only [Int.toNat_natCast]
    obtain ⟨n0, n1⟩ := hn
    obtain ⟨v1, v2, v3, v4, v5, v6⟩ := vib_get hv
    have HV := Lib.hid (And.intro hv v2)
    have HLen := Lib.hid (And.intro hs hm)
    clear e hv v2 v5 v6
    go_enter Try.func19, Try.ntmps19
    go_wp2_with (first
      | (go_at_call 17; refine Calls.mono (HC.out _ (by go_grown)) ?_; rintro e w1 ⟨rfl, hb1⟩; have t0 := cell_keep hb1 (show _ = some (Value.slice AS ns cs) from cell_newest w _ _ _ 0); have t1 := cell_keep hb1 (show _ = some (Value.slice AM nm cm) from cell_newest w _ _ _ 1); have HB1 := Lib.hid (Below.trans (by go_grown : Below w.heap.size w (w.alloc (.cells #[.slice AS ns cs, .slice AM nm cm] 24))) (hb1.mono (by simp))); have hz1 : w.heap.size < w1.heap.size := (by have := hb1.size; simp at this; omega))
      | (go_at_call 54; refine (within_any 1 24 _ 1 _ _ [(nn : Int)] _ rfl (le_maxLen (by omega)) (RI.new1 (by simp))).mono ?_; rintro e w' ⟨rfl, rfl⟩; rw [H1.out]))
    have HB2 := Lib.hid (HB1.out.alloc HB1.out.size (.cells #[.int .i64 (nn : Int)] 3))
    have s0 := cell_keep ((Below.refl _ _).alloc (Nat.le_refl _) (.cells #[.int .i64 (nn : Int)] 3) : Below w1.heap.size w1 _) t0
    have s1 := cell_keep ((Below.refl _ _).alloc (Nat.le_refl _) (.cells #[.int .i64 (nn : Int)] 3) : Below w1.heap.size w1 _) t1
    have hz2 : w.heap.size < (w1.alloc (.cells #[.int .i64 (nn : Int)] 3)).heap.size := by simp; omega
    generalize w1.alloc (.cells #[.int .i64 (nn : Int)] 3) = w2 at *
    clear t0 t1 hz1
    obtain ⟨tu, htu⟩ : ∃ tu : Nat, (nm : Int) - 1 = tu := ⟨nm - 1, by omega⟩
    have htu' : tu + 1 = nm := by omega
    rw [htu]
    go_loopw [4, 26] (fun v i wr => ∃ k : Nat, k ≤ nn ∧ i = .int .i64 k ∧ OI w2.heap.size v (avK S M nn k) wr ∧ Below w2.heap.size w2 wr) (fun _ i _ => nn - (intOf i).toNat)
    case atStart => exact ⟨0, Nat.zero_le _, rfl, by simpa [avK] using (OI.nil : OI w2.heap.size (.slice none 0 0) [] w2), Below.refl _ _⟩
    case round =>
      obtain ⟨k, hk, rfl, hown, hbw⟩ := hrel
      by_cases hlt : k < nn
      · have HOW := Lib.hid (And.intro hown hbw)
        clear hown hbw
        go_wp2
        go_loopw [10, 30] (fun s i wx => ∃ m : Nat, m ≤ tu ∧ i = .int .i64 m ∧ s = .int .i64 (sumN S M k nn m) ∧ OI w2.heap.size u4 (avK S M nn k) wx ∧ Below w2.heap.size w2 wx) (fun _ i _ => tu - (intOf i).toNat)
        case atStart => exact ⟨0, Nat.zero_le _, rfl, rfl, HOW.out.1, HOW.out.2⟩
        case round =>
          obtain ⟨m, hm', rfl, rfl, hown, hbx⟩ := hrel
          have c0 := cell_keep hbx s0
          have c1 := cell_keep hbx s1
          by_cases hlm : m < tu
          · obtain ⟨a, T, ht⟩ := TU.get HV.out.1 (i := m) (by rw [HLen.out.2]; omega)
            obtain ⟨hs, hm⟩ := HLen.out
            have y1 := ht.t1
            have y2 := ht.top
            have y3 := ht.few
            have hrs := rs.below ((HB2.out.mono hB).trans (hbx.mono (by omega)))
            have hrm := rm.below ((HB2.out.mono hB).trans (hbx.mono (by omega)))
            obtain ⟨b, off, x, rfl, hbb, hx, hc⟩ := hrs.at_ (k := a) (by omega)
            obtain ⟨bm, om, u, rfl, hbm, hu, hcu⟩ := hrm.at_ (k := m) (by omega)
            obtain ⟨bm', om', v, hA2, hbm', hv, hcv⟩ := hrm.at_ (k := m + 1) (by omega)
            obtain ⟨rfl, rfl⟩ : bm = bm' ∧ om = om' := by simpa using hA2
            have eu : u = (a : Int) := by have := hu.symm.trans ht.fst; simpa using this
            have ev : v = (a : Int) + T := by have := hv.symm.trans ht.snd; simpa using this
            subst eu ev
            have hsb := sumN_bd HV.out.1 (show 0 ≤ (k : Int) by omega) (show (k : Int) < nn by omega) n1 m (by omega)
            have HN := Lib.hid (show sumN S M k nn (m + 1) = sumN S M k nn m + ptN (fun j => S[a + j]?.getD 0) T k nn by simp only [sumN]; rw [ht.val])
            obtain ⟨P, q, r, hQ⟩ := QR.mk' (show 0 ≤ (k : Int) by omega) (show (k : Int) < nn by omega) n1 (show 1 ≤ (T : Int) by omega) (by omega)
            have hpb := ptN_bd (X := fun j => S[a + j]?.getD 0) hQ n1 (fun j _ => at_bd HV.out.2 _)
            have hcut : ptN (fun j => ((S.drop a).take (T + 1))[j]?.getD 0) T k nn = ptN (fun j => S[a + j]?.getD 0) T k nn := ptN_congr hQ (fun j hj => by simp only [cut_get S a (T + 1) j (by omega)])
            have hll : ((S.drop a).take (T + 1)).length = a + T + 1 - a := by rw [List.length_take, List.length_drop]; omega
            have HP := Lib.hid (fun (c' : Nat) (d : Nat) => point_any (some ⟨b, off + a, none⟩) (a + T + 1 - a) c' B ((S.drop a).take (T + 1)) T k nn (wr.drewN d) hll (by omega) y1 (by omega) (by omega) (by omega) n1 (by have := hbx.size; show B ≤ wr.heap.size; omega) (fun z hz => wB_all HV.out.2 z (List.mem_of_mem_drop (List.mem_of_mem_take hz))) ((RI.cut hrs a (T + 1)).drewN d))
            rw [hcut] at HP
            have HO := Lib.hid (And.intro hown hbx)
            have j1 : IntKind.i64.wrap ((m : Int) + 1) = (m : Int) + 1 := IntWalk.i64_in _ (by omega)
            have j2 : ((m : Int) + 1).toNat = m + 1 := by omega
            have j3 : (m : Int) + 1 < nm := by omega
            have j4 : 0 ≤ (m : Int) + 1 := by omega
            have j5 : (m : Int) < nm := by omega
            have j6 : 0 ≤ (m : Int) := by omega
            have j7 : IntKind.i64.wrap ((a : Int) + T + 1) = (a : Int) + T + 1 := IntWalk.i64_in _ (by omega)
            have j8 : ((a : Int) + T + 1).toNat = a + T + 1 := by omega
            have j9 : (a : Int) + T + 1 ≤ cs := by omega
            have j10 : (a : Int) ≤ (a : Int) + T + 1 := by omega
            have j11 : 0 ≤ (a : Int) + T + 1 := by omega
            clear hrs hrm hA2 hbm' hx hu hv ht hQ hcut hll hown hbx hs hm
            generalize ptN (fun j => S[a + j]?.getD 0) T k nn = pt at *
            generalize sumN S M k nn m = sm at *
            obtain ⟨z1, z2⟩ := hsb
            obtain ⟨z3, z4⟩ := hpb
            have j12 : IntKind.i64.wrap (sm + pt) = sm + pt := IntWalk.i64_in _ (by omega)
            go_wp2
            go_quiet ((go_at_call 57; exact quiet_more (HP.out _ _)))
            go_wp2
            go_roundw
            case rel => exact ⟨m + 1, by omega, by go_num, by rw [HN.out], (show OI _ _ _ wr from HO.out.1), below_drewN HO.out.2 _⟩
            case measure => simp [intOf]; omega
          · obtain rfl : m = tu := by omega
            have hm2 := HLen.out.2
            have hsb := sumN_bd HV.out.1 (show 0 ≤ (k : Int) by omega) (show (k : Int) < nn by omega) n1 m (by omega)
            have hlk := avK_len S M nn k
            have HN := Lib.hid (show avK S M nn (k + 1) = avK S M nn k ++ [sumN S M k nn m] by rw [avK_step, show M.length - 1 = m by omega])
            have hszb := hbx.size
            generalize sumN S M k nn m = sm at *
            clear hs hm hm2
            go_wp2_with (at_builtin; refine wpList_push rfl _ _ rfl w2.heap.size _ _ rfl (World.ownsRow.alloc hown _) wr.heap.size sm rfl (by rw [cell_newest]; rfl) (by omega) (by simp; omega) ?_)
            intro v' w3 hown' hgrow
            have hb3 := OI.below (World.ownsRow.alloc hown _) hgrow (hbx.alloc hszb _) (by simp; omega) (Nat.le_refl _)
            rw [← HN.out] at hown'
            have HO := Lib.hid (And.intro hown' hb3)
            clear hown' hgrow hown hbx hb3 hlk
            go_wp2
            go_roundw
            case rel => exact ⟨k + 1, by omega, by go_num, HO.out.1, HO.out.2⟩
            case measure => simp [intOf]; omega
      · obtain rfl : k = nn := by omega
        obtain ⟨Ao, co, rfl, hco, hro⟩ := hown.ri
        have hlk := avK_len S M k k
        have HR := Lib.hid (And.intro hro hbw)
        have hB2 := HB2.out.size
        have j1 : IntKind.i64.wrap ((k : Int) * tu) = (k : Int) * tu := by
          have : (k : Int) * tu ≤ 24 * 9 := Int.mul_le_mul (by omega) (by have := HLen.out.2; omega) (by omega) (by omega)
          have : 0 ≤ (k : Int) * tu := Int.mul_nonneg (by omega) (by omega)
          exact IntWalk.i64_in _ (by omega)
        have HE := Lib.hid (show ((M.length : Int) - 1) = tu by have := HLen.out.2; omega)
        clear hown hbw hro
        go_wp2
        go_ret3
        exact ⟨_, by rw [HE.out]; rfl, ⟨Ao, co, rfl, hco, HR.out.1⟩, HB2.out.trans (HR.out.2.mono hB2)⟩
  · have H1 := Lib.hid (show wB 1 24 [n] = false by rw [wB_1]; simp; omega)
    have e : avN S M n = ([], 0, 1) := by unfold avN; simp [hv]; omega
    rw [e]
    clear e hn hv rs rm hs hm
    go_enter Try.func19, Try.ntmps19
    go_wp2_with (first
      | (go_at_call 17; refine Calls.mono (HC.out _ (by go_grown)) ?_; rintro e w1 ⟨rfl, hb1⟩; have HB1 := Lib.hid (Below.trans (by go_grown : Below w.heap.size w (w.alloc (.cells #[.slice AS ns cs, .slice AM nm cm] 24))) (hb1.mono (by simp))))
      | (go_at_call 54; refine (within_any 1 24 _ 1 _ _ [n] _ rfl (le_maxLen (by omega)) (RI.new1 (by simp))).mono ?_; rintro e w' ⟨rfl, rfl⟩; rw [H1.out]))
    go_ret3
    exact ⟨_, rfl, QI.nil, HB1.out.alloc HB1.out.size _⟩
end Go.Proofs.Ytliocbjmledfbaa

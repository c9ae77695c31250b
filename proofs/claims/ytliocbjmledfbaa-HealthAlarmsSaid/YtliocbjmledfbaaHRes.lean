/- Residual of both sides. -/
import Derived.Test.YtliocbjmledfbaaHPat2
import Derived.Test.YtliocbjmledfbaaHTailA
namespace Go.Proofs.Ytliocbjmledfbaa
open Go.RowKit

theorem QI.get {l : List Int} {v : Value} {W : World} (h : QI l v W) : ∃ A c, v = .slice A l.length c ∧ l.length ≤ c ∧ RI W W.heap.size A l := h
theorem patN_yes {L : List Int} {t : Int} {tn m : Nat} (ht : teB L t = true) (hT : TE L t tn m) : patN L t = (paL L m, 0) := by unfold patN; simp [ht, hT.q]
theorem resN_yes {L : List Int} {t : Int} {tn m : Nat} (ht : teB L t = true) (hT : TE L t tn m) : resN L t = (reL L m t, 0) := by unfold resN; simp [ht, hT.q]
theorem patN_no {L : List Int} {t : Int} (ht : teB L t = false) : patN L t = ([], 1) := by unfold patN; simp [ht]
theorem resN_no {L : List Int} {t : Int} (ht : teB L t = false) : resN L t = ([], 1) := by unfold resN; simp [ht]
theorem paL_len (L : List Int) (m : Nat) : (paL L m).length = m := by simp [paL]
theorem paL_get (L : List Int) (m j : Nat) (h : j < m) : (paL L m)[j]? = some (paN L m j L.length) := papN_get L m L.length j h

set_option maxRecDepth 100000 in
set_option maxHeartbeats 1000000 in
theorem residual_any (A : Option Addr) (n c B : Nat) (L : List Int) (t : Int) (w : World) (hl : L.length = n) (hn : n ≤ maxLen) (hB : B ≤ w.heap.size) (h : RI w B A L) :
    Calls Try.prog 25 #[.slice A n c, .int .i64 t] w (GivesPa w (resN L t)) := by
  have HC := Lib.hid (pattern_any A n c B L t w hl hn hB h)
  cases ht : teB L t with
  | false =>
    rw [patN_no ht] at HC
    rw [resN_no ht]
    clear ht h
    go_enter Try.func25, Try.ntmps25
    go_wp2_with (go_at_call 23; refine Calls.mono HC.out ?_; rintro e w1 ⟨v, rfl, hv, hb1⟩)
    go_ret2
    exact ⟨_, rfl, QI.nil, hb1⟩
  | true =>
    obtain ⟨tn, m, hT⟩ := TE.get ht
    rw [patN_yes ht hT] at HC
    rw [resN_yes ht hT]
    obtain ⟨t1, t2, m1, m2, n2⟩ : _ ∧ _ ∧ _ ∧ _ ∧ _ := ⟨hT.t1, hT.t2, hT.m1, hT.m2, hT.n2⟩
    have HT := Lib.hid hT
    have ete := hT.te
    subst ete
    have HL := Lib.hid hl
    rw [hl] at n2
    clear ht hT hl
    go_enter Try.func25, Try.ntmps25
    go_wp2_with (go_at_call 23; refine Calls.mono HC.out ?_; rintro e w1 ⟨v, rfl, hv, hb1⟩; obtain ⟨pA, pc, rfl, hpc, hpr⟩ := hv.get; rw [paL_len])
    have hsz1 := hb1.size
    have HB1 := Lib.hid hb1
    have HP := Lib.hid hpr
    clear hb1 hpr hv hpc
    go_loopw [8, 22] (fun r i wr => ∃ k : Nat, k ≤ n ∧ i = .int .i64 k ∧ OI w1.heap.size r (rpN L m tn k) wr ∧ Below w1.heap.size w1 wr) (fun _ i _ => n - (intOf i).toNat)
    case atStart => exact ⟨0, Nat.zero_le _, rfl, OI.nil, Below.refl _ _⟩
    case round =>
      obtain ⟨k, hk, rfl, hown, hbw⟩ := hrel
      by_cases hlt : k < n
      · have hbx := HB1.out.trans (hbw.mono hsz1)
        obtain ⟨b, off, x, rfl, hb, hx, hc⟩ := (h.below (hbx.mono hB)).at_ (k := k) (by rw [HL.out]; exact hlt)
        have hkm : k % m < m := Nat.mod_lt _ (by omega)
        obtain ⟨pb, poff, y, rfl, hpb, hy, hpc⟩ := (HP.out.below hbw).at_ (k := k % m) (by rw [paL_len]; exact hkm)
        rw [paL_get L m _ hkm] at hy
        have ey : paN L m (k % m) L.length = y := by simpa using hy
        have hrb := re_bd HT.out k
        have hat : atL L k = x := by simp [atL, hx]
        rw [ey, hat] at hrb
        have hxb := wB_mem HT.out.b hx
        have HS := Lib.hid (rpN_step L m tn k)
        rw [ey, hat] at HS
        have HO := Lib.hid hown
        have HBW := Lib.hid hbw
        have HLE := Lib.hid (show (rpN L m tn k).length ≤ 1000000 by rw [rpN_len]; omega)
        have x1 : -24000000 ≤ x * tn ∧ x * tn ≤ 24000000 := by
          have a1 : x * tn ≤ 1000000 * tn := Int.mul_le_mul_of_nonneg_right hxb.2 (by omega)
          have a2 : -1000000 * tn ≤ x * tn := Int.mul_le_mul_of_nonneg_right hxb.1 (by omega)
          omega
        have i1 : (k : Int) % (m : Int) = ((k % m : Nat) : Int) := emod_cast k m
        have i2 : ((m : Int) == 0) = false := by simp; omega
        have i3 : ((k % m : Nat) : Int) < m := by omega
        clear hown hbw hbx hx hat h hy ey hxb
        generalize hr : k % m = r at *
        generalize hxt : x * (tn : Int) = xt at *
        have i4 : IntKind.i64.wrap xt = xt := IntWalk.i64_in _ (by omega)
        have i5 : IntKind.i64.wrap (xt - y) = xt - y := IntWalk.i64_in _ (by omega)
        clear hr
        go_wp2_with (at_builtin; refine wpList_pushJ rfl _ _ rfl _ (rpN L m tn k) rfl HO.out HBW.out (xt - y) rfl rfl rfl rfl rfl HLE.out ?_)
        intro v' w3 hown' hb3
        rw [← HS.out] at hown'
        have HR := Lib.hid (And.intro hown' hb3)
        clear hown' hb3
        go_wp2
        go_roundw
        case rel => exact ⟨k + 1, by omega, by go_num, HR.out.1, HR.out.2⟩
        case measure => simp [intOf]; omega
      · obtain rfl : k = n := by omega
        have HP := Lib.hid (rpN_last L m tn)
        rw [HL.out] at HP
        rw [HP.out] at hown
        have HR := Lib.hid (And.intro hown hbw)
        clear hown hbw
        go_wp2
        go_ret2
        exact ⟨_, rfl, HR.out.1.qi, HB1.out.trans (HR.out.2.mono hsz1)⟩

def HasOne (v : Value) (z : Int) (W : World) : Prop := ∃ g, v = .slice (some ⟨g, 0, none⟩) 1 1 ∧ W.cell? ⟨g, 0, none⟩ = some (.int .i64 z)
theorem HasOne.stay {v : Value} {z : Int} {W W' : World} (h : HasOne v z W) (hb : Below W.heap.size W W') : HasOne v z W' := by
  obtain ⟨g, e, hc⟩ := h
  exact ⟨g, e, cell_keep hb hc⟩
def PRS (w1 : World) (l : List Int) (v : Value) (W : World) : Prop := OI w1.heap.size v l W ∧ Below w1.heap.size w1 W
def QRS (r : Value) (AS : Value) (AP : Value) (b : Nat) (off : Nat) (pb : Nat) (poff : Nat) (k : Nat) (q : Nat) (x : Int) (t : Int) (xt : Int) (m : Nat) (y : Int) (j : Nat) (v : Value) (W : World) : Prop :=
  match j with
  | 0 => v = r
  | 1 => v = AS
  | 2 => v = .int .i64 k
  | 3 => v = .pointer (some ⟨b, off + k, none⟩)
  | 4 => v = .int .i64 x
  | 5 => v = .int .i64 t
  | 6 => v = .int .i64 xt
  | 7 => v = AP
  | 8 => v = .int .i64 k
  | 9 => v = AP
  | 10 => v = .int .i64 m
  | 11 => v = .int .i64 q
  | 12 => v = .pointer (some ⟨pb, poff + q, none⟩)
  | 13 => v = .int .i64 y
  | 14 => v = .int .i64 (xt - y)
  | 15 => HasOne v (xt - y) W
  | _ => True
theorem QRS_stays (r : Value) (AS : Value) (AP : Value) (b : Nat) (off : Nat) (pb : Nat) (poff : Nat) (k : Nat) (q : Nat) (x : Int) (t : Int) (xt : Int) (m : Nat) (y : Int) : Stays (QRS r AS AP b off pb poff k q x t xt m y) := fun j v W W' h hb => by
  unfold QRS at h ⊢
  split at h <;> first | exact h | exact h.stay hb

set_option maxRecDepth 100000 in
set_option maxHeartbeats 1000000 in
theorem rresidual_any (A : Option Addr) (n c B : Nat) (L : List Int) (t : Int) (w : World) (hl : L.length = n) (hn : n ≤ maxLen) (hB : B ≤ w.heap.size) (h : RI w B A L) :
    Calls Try.prog 26 #[.slice A n c, .int .i64 t] w (GivesPa w (resN L t)) := by
  have HC := Lib.hid (rpattern_any A n c B L t w hl hn hB h)
  cases ht : teB L t with
  | false =>
    rw [patN_no ht] at HC
    rw [resN_no ht]
    clear ht h
    go_enter Try.func26, Try.ntmps26
    go_wp2_with (go_at_call 24; refine Calls.mono HC.out ?_; rintro e w1 ⟨v, rfl, hv, hb1⟩)
    go_ret2
    exact ⟨_, rfl, QI.nil, hb1⟩
  | true =>
    obtain ⟨tn, m, hT⟩ := TE.get ht
    rw [patN_yes ht hT] at HC
    rw [resN_yes ht hT]
    obtain ⟨t1, t2, m1, m2, n2⟩ : _ ∧ _ ∧ _ ∧ _ ∧ _ := ⟨hT.t1, hT.t2, hT.m1, hT.m2, hT.n2⟩
    have HT := Lib.hid hT
    have ete := hT.te
    subst ete
    have HL := Lib.hid hl
    rw [hl] at n2
    clear ht hT hl
    go_enter Try.func26, Try.ntmps26
    go_wp2_with (go_at_call 24; refine Calls.mono HC.out ?_; rintro e w1 ⟨v, rfl, hv, hb1⟩; obtain ⟨pA, pc, rfl, hpc, hpr⟩ := hv.get; rw [paL_len])
    have hsz1 := hb1.size
    have HB1 := Lib.hid hb1
    have HP := Lib.hid hpr
    clear hb1 hpr hv hpc
    go_loopw [8, 9] (fun r i wr => ∃ k : Nat, k ≤ n ∧ i = .int .i64 k ∧ OI w1.heap.size r (rpN L m tn k) wr ∧ Below w1.heap.size w1 wr) (fun _ i _ => n - (intOf i).toNat)
    case atStart => exact ⟨0, Nat.zero_le _, rfl, OI.nil, Below.refl _ _⟩
    case round =>
      obtain ⟨k, hk, rfl, hown, hbw⟩ := hrel
      by_cases hlt : k < n
      · have hbx := HB1.out.trans (hbw.mono hsz1)
        obtain ⟨b, off, x, rfl, hb, hx, hc⟩ := (h.below (hbx.mono hB)).at_ (k := k) (by rw [HL.out]; exact hlt)
        have hkm : k % m < m := Nat.mod_lt _ (by omega)
        obtain ⟨pb, poff, y, rfl, hpb, hy, hpc⟩ := (HP.out.below hbw).at_ (k := k % m) (by rw [paL_len]; exact hkm)
        rw [paL_get L m _ hkm] at hy
        have ey : paN L m (k % m) L.length = y := by simpa using hy
        have hrb := re_bd HT.out k
        have hat : atL L k = x := by simp [atL, hx]
        rw [ey, hat] at hrb
        have hxb := wB_mem HT.out.b hx
        have HS := Lib.hid (rpN_step L m tn k)
        rw [ey, hat] at HS
        have HO := Lib.hid hown
        have HBW := Lib.hid hbw
        have HLE := Lib.hid (show (rpN L m tn k).length ≤ 1000000 by rw [rpN_len]; omega)
        have x1 : -24000000 ≤ x * tn ∧ x * tn ≤ 24000000 := by
          have a1 : x * tn ≤ 1000000 * tn := Int.mul_le_mul_of_nonneg_right hxb.2 (by omega)
          have a2 : -1000000 * tn ≤ x * tn := Int.mul_le_mul_of_nonneg_right hxb.1 (by omega)
          omega
        have i1 : (k : Int) % (m : Int) = ((k % m : Nat) : Int) := emod_cast k m
        have i6 : (k : Int).tmod (m : Int) = ((k % m : Nat) : Int) := by rw [Int.tmod_eq_emod_of_nonneg (by omega), i1]
        have i2 : ¬ m = 0 := by omega
        have i7 : (k : Int) < n := by omega
        have i8 : 0 ≤ (k : Int) := by omega
        have i3 : ((k % m : Nat) : Int) < m := by omega
        clear hown hbw hbx hx hat h hy ey hxb
        generalize hr : k % m = r0 at *
        generalize hxt : x * (tn : Int) = xt at *
        have i4 : IntKind.i64.wrap xt = xt := IntWalk.i64_in _ (by omega)
        have i5 : IntKind.i64.wrap (xt - y) = xt - y := IntWalk.i64_in _ (by omega)
        clear hr
        have own := HO.out
        have hown1 := HLE.out
        have hown2 := HBW.out.size
        generalize hrl : rpN L m tn k = RL at *
        go_upto_region 8 with fail
        refine wpIn_wide.1 (region_inv2 (n := 9) (by kernel_rfl) (RQA (QRS u8 ((.slice (some ⟨b, off, none⟩) n c)) ((.slice (some ⟨pb, poff, none⟩) m pc)) b off pb poff k r0 x ((tn : Int)) xt m y) wr 16 (PRS w1 (RL ++ [xt - y]))) (by kernel_rfl) rfl (RQA.start _ _ _ _ _) ?hstep ?hend)
        case hstep =>
          have hst := QRS_stays u8 (.slice (some ⟨b, off, none⟩) n c) (.slice (some ⟨pb, poff, none⟩) m pc) b off pb poff k r0 x (tn : Int) xt m y
          intro i' o ho val L b' y0 hF hR hpre hl
          match i', ho with
          | 0, ho =>
            simp at ho
            subst ho
            refine step_plain rfl ?_
            have hN := hF.later hl 16 rfl (e := ⟨0, .data⟩) (by simp) rfl rfl
            have hR := hR.1 hN
            have e8 := hF.wasOf 8 17 (by kernel_rfl) (hF.back hN 17 rfl (by decide) (e := ⟨16, .data⟩) (by simp) rfl rfl) rfl
            have hgoal : ∀ v W', Below y0.heap.size y0 W' → QRS u8 ((.slice (some ⟨b, off, none⟩) n c)) ((.slice (some ⟨pb, poff, none⟩) m pc)) b off pb poff k r0 x ((tn : Int)) xt m y 0 v W' → RQA (QRS u8 ((.slice (some ⟨b, off, none⟩) n c)) ((.slice (some ⟨pb, poff, none⟩) m pc)) b off pb poff k r0 x ((tn : Int)) xt m y) wr 16 (PRS w1 (RL ++ [xt - y])) (upd val 0 v) (L.setIfInBounds 0 true) W' := fun v W' hb hq => RQA.step hR hst hb hq (by decide) hN
            clear hF hpre hl hR hN
            go_simp
            exact ⟨_, rfl, hgoal _ _ (Below.refl _ _) rfl⟩
          | 1, ho =>
            simp at ho
            subst ho
            refine step_plain rfl ?_
            have hN := hF.later hl 3 rfl (e := ⟨1, .data⟩) (by simp) rfl rfl
            have hN := hF.back hN 4 rfl (by decide) (e := ⟨3, .data⟩) (by simp) rfl rfl
            have hN := hF.back hN 6 rfl (by decide) (e := ⟨4, .data⟩) (by simp) rfl rfl
            have hN := hF.back hN 14 rfl (by decide) (e := ⟨6, .data⟩) (by simp) rfl rfl
            have hN := hF.back hN 15 rfl (by decide) (e := ⟨14, .data⟩) (by simp) rfl rfl
            have hN := hF.back hN 16 rfl (by decide) (e := ⟨15, .data⟩) (by simp) rfl rfl
            have hR := hR.1 hN
            have e0 := hF.was 0 (by kernel_rfl) rfl
            have hgoal : ∀ v W', Below y0.heap.size y0 W' → QRS u8 ((.slice (some ⟨b, off, none⟩) n c)) ((.slice (some ⟨pb, poff, none⟩) m pc)) b off pb poff k r0 x ((tn : Int)) xt m y 1 v W' → RQA (QRS u8 ((.slice (some ⟨b, off, none⟩) n c)) ((.slice (some ⟨pb, poff, none⟩) m pc)) b off pb poff k r0 x ((tn : Int)) xt m y) wr 16 (PRS w1 (RL ++ [xt - y])) (upd val 1 v) (L.setIfInBounds 1 true) W' := fun v W' hb hq => RQA.step hR hst hb hq (by decide) hN
            clear hF hpre hl hR hN
            go_simp
            exact ⟨_, rfl, hgoal _ _ (Below.refl _ _) rfl⟩
          | 2, ho =>
            simp at ho
            subst ho
            refine step_plain rfl ?_
            have hN := hF.later hl 3 rfl (e := ⟨2, .data⟩) (by simp) rfl rfl
            have hN := hF.back hN 4 rfl (by decide) (e := ⟨3, .data⟩) (by simp) rfl rfl
            have hN := hF.back hN 6 rfl (by decide) (e := ⟨4, .data⟩) (by simp) rfl rfl
            have hN := hF.back hN 14 rfl (by decide) (e := ⟨6, .data⟩) (by simp) rfl rfl
            have hN := hF.back hN 15 rfl (by decide) (e := ⟨14, .data⟩) (by simp) rfl rfl
            have hN := hF.back hN 16 rfl (by decide) (e := ⟨15, .data⟩) (by simp) rfl rfl
            have hR := hR.1 hN
            have e9 := hF.was 9 (by kernel_rfl) rfl
            have hgoal : ∀ v W', Below y0.heap.size y0 W' → QRS u8 ((.slice (some ⟨b, off, none⟩) n c)) ((.slice (some ⟨pb, poff, none⟩) m pc)) b off pb poff k r0 x ((tn : Int)) xt m y 2 v W' → RQA (QRS u8 ((.slice (some ⟨b, off, none⟩) n c)) ((.slice (some ⟨pb, poff, none⟩) m pc)) b off pb poff k r0 x ((tn : Int)) xt m y) wr 16 (PRS w1 (RL ++ [xt - y])) (upd val 2 v) (L.setIfInBounds 2 true) W' := fun v W' hb hq => RQA.step hR hst hb hq (by decide) hN
            clear hF hpre hl hR hN
            go_simp
            exact ⟨_, rfl, hgoal _ _ (Below.refl _ _) rfl⟩
          | 3, ho =>
            simp at ho
            subst ho
            refine step_plain rfl ?_
            have hN := hF.later hl 4 rfl (e := ⟨3, .data⟩) (by simp) rfl rfl
            have hN := hF.back hN 6 rfl (by decide) (e := ⟨4, .data⟩) (by simp) rfl rfl
            have hN := hF.back hN 14 rfl (by decide) (e := ⟨6, .data⟩) (by simp) rfl rfl
            have hN := hF.back hN 15 rfl (by decide) (e := ⟨14, .data⟩) (by simp) rfl rfl
            have hN := hF.back hN 16 rfl (by decide) (e := ⟨15, .data⟩) (by simp) rfl rfl
            have hR := hR.1 hN
            have e26 := hF.gave 1 rfl (hpre ⟨1, .data⟩ (by simp) rfl) rfl
            have v1 := hR.2 1 (hpre ⟨1, .data⟩ (by simp) rfl)
            rw [show val 1 = ((.slice (some ⟨b, off, none⟩) n c)) from v1] at e26
            clear v1
            have e27 := hF.gave 2 rfl (hpre ⟨2, .data⟩ (by simp) rfl) rfl
            have v2 := hR.2 2 (hpre ⟨2, .data⟩ (by simp) rfl)
            rw [show val 2 = .int .i64 k from v2] at e27
            clear v2
            have hgoal : ∀ v W', Below y0.heap.size y0 W' → QRS u8 ((.slice (some ⟨b, off, none⟩) n c)) ((.slice (some ⟨pb, poff, none⟩) m pc)) b off pb poff k r0 x ((tn : Int)) xt m y 3 v W' → RQA (QRS u8 ((.slice (some ⟨b, off, none⟩) n c)) ((.slice (some ⟨pb, poff, none⟩) m pc)) b off pb poff k r0 x ((tn : Int)) xt m y) wr 16 (PRS w1 (RL ++ [xt - y])) (upd val 3 v) (L.setIfInBounds 3 true) W' := fun v W' hb hq => RQA.step hR hst hb hq (by decide) hN
            clear hF hpre hl hR hN
            go_simp
            exact ⟨_, rfl, hgoal _ _ (Below.refl _ _) rfl⟩
          | 4, ho =>
            simp at ho
            subst ho
            refine step_plain rfl ?_
            have hN := hF.later hl 6 rfl (e := ⟨4, .data⟩) (by simp) rfl rfl
            have hN := hF.back hN 14 rfl (by decide) (e := ⟨6, .data⟩) (by simp) rfl rfl
            have hN := hF.back hN 15 rfl (by decide) (e := ⟨14, .data⟩) (by simp) rfl rfl
            have hN := hF.back hN 16 rfl (by decide) (e := ⟨15, .data⟩) (by simp) rfl rfl
            have hR := hR.1 hN
            have e28 := hF.gave 3 rfl (hpre ⟨3, .data⟩ (by simp) rfl) rfl
            have v3 := hR.2 3 (hpre ⟨3, .data⟩ (by simp) rfl)
            rw [show val 3 = .pointer (some ⟨b, off + k, none⟩) from v3] at e28
            clear v3
            have hgoal : ∀ v W', Below y0.heap.size y0 W' → QRS u8 ((.slice (some ⟨b, off, none⟩) n c)) ((.slice (some ⟨pb, poff, none⟩) m pc)) b off pb poff k r0 x ((tn : Int)) xt m y 4 v W' → RQA (QRS u8 ((.slice (some ⟨b, off, none⟩) n c)) ((.slice (some ⟨pb, poff, none⟩) m pc)) b off pb poff k r0 x ((tn : Int)) xt m y) wr 16 (PRS w1 (RL ++ [xt - y])) (upd val 4 v) (L.setIfInBounds 4 true) W' := fun v W' hb hq => RQA.step hR hst hb hq (by decide) hN
            have q0 := cell_keep hR.1 hc
            have q1 := cell_keep hR.1 hpc
            clear hF hpre hl hR hN
            go_simp
            exact ⟨_, rfl, hgoal _ _ (Below.refl _ _) rfl⟩
          | 5, ho =>
            simp at ho
            subst ho
            refine step_plain rfl ?_
            have hN := hF.later hl 6 rfl (e := ⟨5, .data⟩) (by simp) rfl rfl
            have hN := hF.back hN 14 rfl (by decide) (e := ⟨6, .data⟩) (by simp) rfl rfl
            have hN := hF.back hN 15 rfl (by decide) (e := ⟨14, .data⟩) (by simp) rfl rfl
            have hN := hF.back hN 16 rfl (by decide) (e := ⟨15, .data⟩) (by simp) rfl rfl
            have hR := hR.1 hN
            have e1 := hF.was 1 (by kernel_rfl) rfl
            have hgoal : ∀ v W', Below y0.heap.size y0 W' → QRS u8 ((.slice (some ⟨b, off, none⟩) n c)) ((.slice (some ⟨pb, poff, none⟩) m pc)) b off pb poff k r0 x ((tn : Int)) xt m y 5 v W' → RQA (QRS u8 ((.slice (some ⟨b, off, none⟩) n c)) ((.slice (some ⟨pb, poff, none⟩) m pc)) b off pb poff k r0 x ((tn : Int)) xt m y) wr 16 (PRS w1 (RL ++ [xt - y])) (upd val 5 v) (L.setIfInBounds 5 true) W' := fun v W' hb hq => RQA.step hR hst hb hq (by decide) hN
            clear hF hpre hl hR hN
            go_simp
            exact ⟨_, rfl, hgoal _ _ (Below.refl _ _) rfl⟩
          | 6, ho =>
            simp at ho
            subst ho
            refine step_plain rfl ?_
            have hN := hF.later hl 14 rfl (e := ⟨6, .data⟩) (by simp) rfl rfl
            have hN := hF.back hN 15 rfl (by decide) (e := ⟨14, .data⟩) (by simp) rfl rfl
            have hN := hF.back hN 16 rfl (by decide) (e := ⟨15, .data⟩) (by simp) rfl rfl
            have hR := hR.1 hN
            have e29 := hF.gave 4 rfl (hpre ⟨4, .data⟩ (by simp) rfl) rfl
            have v4 := hR.2 4 (hpre ⟨4, .data⟩ (by simp) rfl)
            rw [show val 4 = .int .i64 x from v4] at e29
            clear v4
            have e30 := hF.gave 5 rfl (hpre ⟨5, .data⟩ (by simp) rfl) rfl
            have v5 := hR.2 5 (hpre ⟨5, .data⟩ (by simp) rfl)
            rw [show val 5 = .int .i64 ((tn : Int)) from v5] at e30
            clear v5
            have hgoal : ∀ v W', Below y0.heap.size y0 W' → QRS u8 ((.slice (some ⟨b, off, none⟩) n c)) ((.slice (some ⟨pb, poff, none⟩) m pc)) b off pb poff k r0 x ((tn : Int)) xt m y 6 v W' → RQA (QRS u8 ((.slice (some ⟨b, off, none⟩) n c)) ((.slice (some ⟨pb, poff, none⟩) m pc)) b off pb poff k r0 x ((tn : Int)) xt m y) wr 16 (PRS w1 (RL ++ [xt - y])) (upd val 6 v) (L.setIfInBounds 6 true) W' := fun v W' hb hq => RQA.step hR hst hb hq (by decide) hN
            clear hF hpre hl hR hN
            go_simp
            exact ⟨_, rfl, hgoal _ _ (Below.refl _ _) rfl⟩
          | 7, ho =>
            simp at ho
            subst ho
            refine step_plain rfl ?_
            have hN := hF.later hl 12 rfl (e := ⟨7, .data⟩) (by simp) rfl rfl
            have hN := hF.back hN 13 rfl (by decide) (e := ⟨12, .data⟩) (by simp) rfl rfl
            have hN := hF.back hN 14 rfl (by decide) (e := ⟨13, .data⟩) (by simp) rfl rfl
            have hN := hF.back hN 15 rfl (by decide) (e := ⟨14, .data⟩) (by simp) rfl rfl
            have hN := hF.back hN 16 rfl (by decide) (e := ⟨15, .data⟩) (by simp) rfl rfl
            have hR := hR.1 hN
            have e6 := hF.was 6 (by kernel_rfl) rfl
            have hgoal : ∀ v W', Below y0.heap.size y0 W' → QRS u8 ((.slice (some ⟨b, off, none⟩) n c)) ((.slice (some ⟨pb, poff, none⟩) m pc)) b off pb poff k r0 x ((tn : Int)) xt m y 7 v W' → RQA (QRS u8 ((.slice (some ⟨b, off, none⟩) n c)) ((.slice (some ⟨pb, poff, none⟩) m pc)) b off pb poff k r0 x ((tn : Int)) xt m y) wr 16 (PRS w1 (RL ++ [xt - y])) (upd val 7 v) (L.setIfInBounds 7 true) W' := fun v W' hb hq => RQA.step hR hst hb hq (by decide) hN
            clear hF hpre hl hR hN
            go_simp
            exact ⟨_, rfl, hgoal _ _ (Below.refl _ _) rfl⟩
          | 8, ho =>
            simp at ho
            subst ho
            refine step_plain rfl ?_
            have hN := hF.later hl 11 rfl (e := ⟨8, .data⟩) (by simp) rfl rfl
            have hN := hF.back hN 12 rfl (by decide) (e := ⟨11, .data⟩) (by simp) rfl rfl
            have hN := hF.back hN 13 rfl (by decide) (e := ⟨12, .data⟩) (by simp) rfl rfl
            have hN := hF.back hN 14 rfl (by decide) (e := ⟨13, .data⟩) (by simp) rfl rfl
            have hN := hF.back hN 15 rfl (by decide) (e := ⟨14, .data⟩) (by simp) rfl rfl
            have hN := hF.back hN 16 rfl (by decide) (e := ⟨15, .data⟩) (by simp) rfl rfl
            have hR := hR.1 hN
            have e9 := hF.was 9 (by kernel_rfl) rfl
            have hgoal : ∀ v W', Below y0.heap.size y0 W' → QRS u8 ((.slice (some ⟨b, off, none⟩) n c)) ((.slice (some ⟨pb, poff, none⟩) m pc)) b off pb poff k r0 x ((tn : Int)) xt m y 8 v W' → RQA (QRS u8 ((.slice (some ⟨b, off, none⟩) n c)) ((.slice (some ⟨pb, poff, none⟩) m pc)) b off pb poff k r0 x ((tn : Int)) xt m y) wr 16 (PRS w1 (RL ++ [xt - y])) (upd val 8 v) (L.setIfInBounds 8 true) W' := fun v W' hb hq => RQA.step hR hst hb hq (by decide) hN
            clear hF hpre hl hR hN
            go_simp
            exact ⟨_, rfl, hgoal _ _ (Below.refl _ _) rfl⟩
          | 9, ho =>
            simp at ho
            subst ho
            refine step_plain rfl ?_
            have hN := hF.later hl 10 rfl (e := ⟨9, .data⟩) (by simp) rfl rfl
            have hN := hF.back hN 11 rfl (by decide) (e := ⟨10, .data⟩) (by simp) rfl rfl
            have hN := hF.back hN 12 rfl (by decide) (e := ⟨11, .data⟩) (by simp) rfl rfl
            have hN := hF.back hN 13 rfl (by decide) (e := ⟨12, .data⟩) (by simp) rfl rfl
            have hN := hF.back hN 14 rfl (by decide) (e := ⟨13, .data⟩) (by simp) rfl rfl
            have hN := hF.back hN 15 rfl (by decide) (e := ⟨14, .data⟩) (by simp) rfl rfl
            have hN := hF.back hN 16 rfl (by decide) (e := ⟨15, .data⟩) (by simp) rfl rfl
            have hR := hR.1 hN
            have e6 := hF.was 6 (by kernel_rfl) rfl
            have hgoal : ∀ v W', Below y0.heap.size y0 W' → QRS u8 ((.slice (some ⟨b, off, none⟩) n c)) ((.slice (some ⟨pb, poff, none⟩) m pc)) b off pb poff k r0 x ((tn : Int)) xt m y 9 v W' → RQA (QRS u8 ((.slice (some ⟨b, off, none⟩) n c)) ((.slice (some ⟨pb, poff, none⟩) m pc)) b off pb poff k r0 x ((tn : Int)) xt m y) wr 16 (PRS w1 (RL ++ [xt - y])) (upd val 9 v) (L.setIfInBounds 9 true) W' := fun v W' hb hq => RQA.step hR hst hb hq (by decide) hN
            clear hF hpre hl hR hN
            go_simp
            exact ⟨_, rfl, hgoal _ _ (Below.refl _ _) rfl⟩
          | 10, ho =>
            simp at ho
            subst ho
            refine step_plain rfl ?_
            have hN := hF.later hl 11 rfl (e := ⟨10, .data⟩) (by simp) rfl rfl
            have hN := hF.back hN 12 rfl (by decide) (e := ⟨11, .data⟩) (by simp) rfl rfl
            have hN := hF.back hN 13 rfl (by decide) (e := ⟨12, .data⟩) (by simp) rfl rfl
            have hN := hF.back hN 14 rfl (by decide) (e := ⟨13, .data⟩) (by simp) rfl rfl
            have hN := hF.back hN 15 rfl (by decide) (e := ⟨14, .data⟩) (by simp) rfl rfl
            have hN := hF.back hN 16 rfl (by decide) (e := ⟨15, .data⟩) (by simp) rfl rfl
            have hR := hR.1 hN
            have e34 := hF.gave 9 rfl (hpre ⟨9, .data⟩ (by simp) rfl) rfl
            have v9 := hR.2 9 (hpre ⟨9, .data⟩ (by simp) rfl)
            rw [show val 9 = ((.slice (some ⟨pb, poff, none⟩) m pc)) from v9] at e34
            clear v9
            have hgoal : ∀ v W', Below y0.heap.size y0 W' → QRS u8 ((.slice (some ⟨b, off, none⟩) n c)) ((.slice (some ⟨pb, poff, none⟩) m pc)) b off pb poff k r0 x ((tn : Int)) xt m y 10 v W' → RQA (QRS u8 ((.slice (some ⟨b, off, none⟩) n c)) ((.slice (some ⟨pb, poff, none⟩) m pc)) b off pb poff k r0 x ((tn : Int)) xt m y) wr 16 (PRS w1 (RL ++ [xt - y])) (upd val 10 v) (L.setIfInBounds 10 true) W' := fun v W' hb hq => RQA.step hR hst hb hq (by decide) hN
            clear hF hpre hl hR hN
            go_simp
            exact ⟨_, rfl, hgoal _ _ (Below.refl _ _) rfl⟩
          | 11, ho =>
            simp at ho
            subst ho
            refine step_plain rfl ?_
            have hN := hF.later hl 12 rfl (e := ⟨11, .data⟩) (by simp) rfl rfl
            have hN := hF.back hN 13 rfl (by decide) (e := ⟨12, .data⟩) (by simp) rfl rfl
            have hN := hF.back hN 14 rfl (by decide) (e := ⟨13, .data⟩) (by simp) rfl rfl
            have hN := hF.back hN 15 rfl (by decide) (e := ⟨14, .data⟩) (by simp) rfl rfl
            have hN := hF.back hN 16 rfl (by decide) (e := ⟨15, .data⟩) (by simp) rfl rfl
            have hR := hR.1 hN
            have e33 := hF.gave 8 rfl (hpre ⟨8, .data⟩ (by simp) rfl) rfl
            have v8 := hR.2 8 (hpre ⟨8, .data⟩ (by simp) rfl)
            rw [show val 8 = .int .i64 k from v8] at e33
            clear v8
            have e35 := hF.gave 10 rfl (hpre ⟨10, .data⟩ (by simp) rfl) rfl
            have v10 := hR.2 10 (hpre ⟨10, .data⟩ (by simp) rfl)
            rw [show val 10 = .int .i64 m from v10] at e35
            clear v10
            have hgoal : ∀ v W', Below y0.heap.size y0 W' → QRS u8 ((.slice (some ⟨b, off, none⟩) n c)) ((.slice (some ⟨pb, poff, none⟩) m pc)) b off pb poff k r0 x ((tn : Int)) xt m y 11 v W' → RQA (QRS u8 ((.slice (some ⟨b, off, none⟩) n c)) ((.slice (some ⟨pb, poff, none⟩) m pc)) b off pb poff k r0 x ((tn : Int)) xt m y) wr 16 (PRS w1 (RL ++ [xt - y])) (upd val 11 v) (L.setIfInBounds 11 true) W' := fun v W' hb hq => RQA.step hR hst hb hq (by decide) hN
            clear hF hpre hl hR hN
            go_simp
            exact ⟨_, rfl, hgoal _ _ (Below.refl _ _) rfl⟩
          | 12, ho =>
            simp at ho
            subst ho
            refine step_plain rfl ?_
            have hN := hF.later hl 13 rfl (e := ⟨12, .data⟩) (by simp) rfl rfl
            have hN := hF.back hN 14 rfl (by decide) (e := ⟨13, .data⟩) (by simp) rfl rfl
            have hN := hF.back hN 15 rfl (by decide) (e := ⟨14, .data⟩) (by simp) rfl rfl
            have hN := hF.back hN 16 rfl (by decide) (e := ⟨15, .data⟩) (by simp) rfl rfl
            have hR := hR.1 hN
            have e32 := hF.gave 7 rfl (hpre ⟨7, .data⟩ (by simp) rfl) rfl
            have v7 := hR.2 7 (hpre ⟨7, .data⟩ (by simp) rfl)
            rw [show val 7 = ((.slice (some ⟨pb, poff, none⟩) m pc)) from v7] at e32
            clear v7
            have e36 := hF.gave 11 rfl (hpre ⟨11, .data⟩ (by simp) rfl) rfl
            have v11 := hR.2 11 (hpre ⟨11, .data⟩ (by simp) rfl)
            rw [show val 11 = .int .i64 r0 from v11] at e36
            clear v11
            have hgoal : ∀ v W', Below y0.heap.size y0 W' → QRS u8 ((.slice (some ⟨b, off, none⟩) n c)) ((.slice (some ⟨pb, poff, none⟩) m pc)) b off pb poff k r0 x ((tn : Int)) xt m y 12 v W' → RQA (QRS u8 ((.slice (some ⟨b, off, none⟩) n c)) ((.slice (some ⟨pb, poff, none⟩) m pc)) b off pb poff k r0 x ((tn : Int)) xt m y) wr 16 (PRS w1 (RL ++ [xt - y])) (upd val 12 v) (L.setIfInBounds 12 true) W' := fun v W' hb hq => RQA.step hR hst hb hq (by decide) hN
            clear hF hpre hl hR hN
            go_simp
            exact ⟨_, rfl, hgoal _ _ (Below.refl _ _) rfl⟩
          | 13, ho =>
            simp at ho
            subst ho
            refine step_plain rfl ?_
            have hN := hF.later hl 14 rfl (e := ⟨13, .data⟩) (by simp) rfl rfl
            have hN := hF.back hN 15 rfl (by decide) (e := ⟨14, .data⟩) (by simp) rfl rfl
            have hN := hF.back hN 16 rfl (by decide) (e := ⟨15, .data⟩) (by simp) rfl rfl
            have hR := hR.1 hN
            have e37 := hF.gave 12 rfl (hpre ⟨12, .data⟩ (by simp) rfl) rfl
            have v12 := hR.2 12 (hpre ⟨12, .data⟩ (by simp) rfl)
            rw [show val 12 = .pointer (some ⟨pb, poff + r0, none⟩) from v12] at e37
            clear v12
            have hgoal : ∀ v W', Below y0.heap.size y0 W' → QRS u8 ((.slice (some ⟨b, off, none⟩) n c)) ((.slice (some ⟨pb, poff, none⟩) m pc)) b off pb poff k r0 x ((tn : Int)) xt m y 13 v W' → RQA (QRS u8 ((.slice (some ⟨b, off, none⟩) n c)) ((.slice (some ⟨pb, poff, none⟩) m pc)) b off pb poff k r0 x ((tn : Int)) xt m y) wr 16 (PRS w1 (RL ++ [xt - y])) (upd val 13 v) (L.setIfInBounds 13 true) W' := fun v W' hb hq => RQA.step hR hst hb hq (by decide) hN
            have q0 := cell_keep hR.1 hc
            have q1 := cell_keep hR.1 hpc
            clear hF hpre hl hR hN
            go_simp
            exact ⟨_, rfl, hgoal _ _ (Below.refl _ _) rfl⟩
          | 14, ho =>
            simp at ho
            subst ho
            refine step_plain rfl ?_
            have hN := hF.later hl 15 rfl (e := ⟨14, .data⟩) (by simp) rfl rfl
            have hN := hF.back hN 16 rfl (by decide) (e := ⟨15, .data⟩) (by simp) rfl rfl
            have hR := hR.1 hN
            have e31 := hF.gave 6 rfl (hpre ⟨6, .data⟩ (by simp) rfl) rfl
            have v6 := hR.2 6 (hpre ⟨6, .data⟩ (by simp) rfl)
            rw [show val 6 = .int .i64 xt from v6] at e31
            clear v6
            have e38 := hF.gave 13 rfl (hpre ⟨13, .data⟩ (by simp) rfl) rfl
            have v13 := hR.2 13 (hpre ⟨13, .data⟩ (by simp) rfl)
            rw [show val 13 = .int .i64 y from v13] at e38
            clear v13
            have hgoal : ∀ v W', Below y0.heap.size y0 W' → QRS u8 ((.slice (some ⟨b, off, none⟩) n c)) ((.slice (some ⟨pb, poff, none⟩) m pc)) b off pb poff k r0 x ((tn : Int)) xt m y 14 v W' → RQA (QRS u8 ((.slice (some ⟨b, off, none⟩) n c)) ((.slice (some ⟨pb, poff, none⟩) m pc)) b off pb poff k r0 x ((tn : Int)) xt m y) wr 16 (PRS w1 (RL ++ [xt - y])) (upd val 14 v) (L.setIfInBounds 14 true) W' := fun v W' hb hq => RQA.step hR hst hb hq (by decide) hN
            clear hF hpre hl hR hN
            go_simp
            exact ⟨_, rfl, hgoal _ _ (Below.refl _ _) rfl⟩
          | 15, ho =>
            simp at ho
            subst ho
            refine step_plain rfl ?_
            have hN := hF.later hl 16 rfl (e := ⟨15, .data⟩) (by simp) rfl rfl
            have hR := hR.1 hN
            have e39 := hF.gave 14 rfl (hpre ⟨14, .data⟩ (by simp) rfl) rfl
            have v14 := hR.2 14 (hpre ⟨14, .data⟩ (by simp) rfl)
            rw [show val 14 = .int .i64 (xt - y) from v14] at e39
            clear v14
            have hgoal : ∀ v W', Below y0.heap.size y0 W' → QRS u8 ((.slice (some ⟨b, off, none⟩) n c)) ((.slice (some ⟨pb, poff, none⟩) m pc)) b off pb poff k r0 x ((tn : Int)) xt m y 15 v W' → RQA (QRS u8 ((.slice (some ⟨b, off, none⟩) n c)) ((.slice (some ⟨pb, poff, none⟩) m pc)) b off pb poff k r0 x ((tn : Int)) xt m y) wr 16 (PRS w1 (RL ++ [xt - y])) (upd val 15 v) (L.setIfInBounds 15 true) W' := fun v W' hb hq => RQA.step hR hst hb hq (by decide) hN
            clear hF hpre hl hR hN
            go_simp
            exact ⟨_, rfl, hgoal _ _ ((Below.refl _ _).alloc (Nat.le_refl _) _) ⟨_, rfl, by rw [cell_newest]; rfl⟩⟩
          | 16, ho =>
            simp at ho
            subst ho
            refine step_plain rfl ?_
            have hls : 16 < L.size := by rw [hF.lsize]; decide
            have hN0 : L.getD 16 false = false := by rw [← getD_same hls]; exact hl
            have hN := hF.later hl 17 rfl (e := ⟨16, .data⟩) (by simp) rfl rfl
            have hR := hR.1 hN0
            have e25 := hF.gave 0 rfl (hpre ⟨0, .data⟩ (by simp) rfl) rfl
            have v0 := hR.2 0 (hpre ⟨0, .data⟩ (by simp) rfl)
            rw [show val 0 = u8 from v0] at e25
            clear v0
            have e40 := hF.gave 15 rfl (hpre ⟨15, .data⟩ (by simp) rfl) rfl
            have v15 := hR.2 15 (hpre ⟨15, .data⟩ (by simp) rfl)
            obtain ⟨g9, hv9, hc9⟩ := v15
            rw [hv9] at e40
            refine step_push (.tmp 25) (.tmp 40) rfl _ _ _ (by simpa [Act.eval] using e25) (own.stay hR.1) g9 (xt - y) (by simpa [Act.eval] using e40) hc9 hown1 (Nat.le_trans hown2 hR.1.size) ?_
            intro v' w9 h9 g9'
            exact ⟨_, rfl, RQA.push hls hN (⟨h9, OI.below (own.stay hR.1) g9' (HBW.out.trans (hR.1.mono hown2)) (Nat.le_trans hown2 hR.1.size) (Nat.le_refl _)⟩)⟩
          | 17, ho =>
            simp at ho
            subst ho
            refine step_plain rfl ?_
            have hs := hpre ⟨16, .data⟩ (by simp) rfl
            have hgoal := hR.assign hs
            have e41 := hF.gave 16 rfl hs rfl
            clear hF hpre hl hR hs
            go_simp
            exact ⟨_, rfl, hgoal⟩
          | i + 18, ho => simp at ho
        intro val L b' y0 hF hall hR
        have e := hF.all (by kernel_rfl) hall
        obtain ⟨⟨hown', hb3⟩, h17⟩ := hR.2 (hall 16 (by decide))
        have h17 := h17 (hall 17 (by decide))
        rw [← HS.out] at hown'
        have HR := Lib.hid (And.intro hown' hb3)
        clear hown' hb3 hF hall hR
        subst e
        simp [final, dstOf, List.range, List.range.loop, h17]
        go_wp2
        go_roundw
        case rel => exact ⟨k + 1, by omega, by go_num, HR.out.1, HR.out.2⟩
        case measure => simp [intOf]; omega
      · obtain rfl : k = n := by omega
        have HP := Lib.hid (rpN_last L m tn)
        rw [HL.out] at HP
        rw [HP.out] at hown
        have HR := Lib.hid (And.intro hown hbw)
        clear hown hbw
        go_wp2
        go_ret2
        exact ⟨_, rfl, HR.out.1.qi, HB1.out.trans (HR.out.2.mono hsz1)⟩

end Go.Proofs.Ytliocbjmledfbaa

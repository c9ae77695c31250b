/- orders of the reference. -/
import Derived.Test.YtliocbjmledfbaaHOrdA
namespace Go.Proofs.Ytliocbjmledfbaa
open Go.RowKit
attribute [local go_sem] Oper.semAt_some

def QO9 (V : Value) (b off od k n c : Nat) (j : Nat) (v : Value) : Prop :=
  match j with
  | 0 => v = V
  | 1 => v = .int .i64 k
  | 2 => v = .slice (some ⟨b, off, none⟩) k c
  | 4 => v = V
  | 5 => v = .int .i64 k
  | 6 => v = .int .i64 (k + 1)
  | 7 => v = .slice (some ⟨b, od, none⟩) (n - (k + 1)) (c - (k + 1))
  | _ => True
def resV (ab : Int × Int) : Value := .tuple #[.int .i64 ab.1, .int .i64 ab.2]
def QO10 (vc vl vr : Value) (b off k : Nat) (x least : Int) (ab : Int × Int) (j : Nat) (v : Value) : Prop :=
  match j with
  | 0 => v = vc
  | 2 => v = vl
  | 3 => v = .int .i64 k
  | 4 => v = .pointer (some ⟨b, off + k, none⟩)
  | 5 => v = .int .i64 x
  | 8 => v = vr
  | 9 => v = .int .i64 least
  | 10 => v = resV ab
  | 11 => v = resV ab
  | 12 => v = .int .i64 ab.1
  | 13 => v = .int .i64 ab.2
  | 14 => v = .int .i64 ab.1
  | 15 => v = .int .i64 ab.2
  | _ => True

def OrdSaid (least : Int) (f : Nat) : Prop := ∀ (ch lf : List Int) (vc vl : Value) (W : World), lf.length = f → ch.length + f ≤ 8 → QN ch vc W → QN lf vl W →
  Calls Try.prog 70 #[vc, vl, .int .i64 least] W fun e W' => e = .returned (resV (ord least f ch lf)) ∧ Below W.heap.size W W'

set_option maxRecDepth 100000 in
theorem orders_zero (least : Int) : OrdSaid least 0 := by
  intro ch lf vc vl W hl h8 hc hv
  have hlf : lf = [] := by simpa using hl
  subst hlf
  obtain ⟨A, c, rfl, _, _⟩ := hv.qi
  obtain ⟨A', c', rfl, _, hr⟩ := hc.qi
  have HT := Lib.hid (rtrend_any A' ch.length c' W.heap.size ch W rfl (by omega) hr)
  by_cases g : least ≤ trL ch
  · rw [show ord least 0 ch [] = (1, 1) by simp [ord, g]]
    simp only [List.length_nil]
    generalize trL ch = tr at *
    clear hr hc hv
    go_enter Try.func70, Try.ntmps70
    go_wp2_with (go_at_call 67; refine Calls.mono HT.out ?_; rintro e w' ⟨rfl, d, rfl⟩)
    go_ret2
    exact ⟨rfl, below_drewN (Below.refl _ _) _⟩
  · rw [show ord least 0 ch [] = (0, 1) by simp [ord, g]]
    simp only [List.length_nil]
    generalize trL ch = tr at *
    clear hr hc hv
    go_enter Try.func70, Try.ntmps70
    go_wp2_with (go_at_call 67; refine Calls.mono HT.out ?_; rintro e w' ⟨rfl, d, rfl⟩)
    go_ret2
    exact ⟨rfl, below_drewN (Below.refl _ _) _⟩

set_option maxRecDepth 100000 in
set_option maxHeartbeats 2000000 in
theorem orders_succ (least : Int) (f : Nat) (ih : OrdSaid least f) : OrdSaid least (f + 1) := by
  intro ch lf vc vl W hl h8 hc hv
  obtain ⟨A, c, rfl, hlc, hr⟩ := hv.qi
  obtain ⟨b, off, x0, rfl, hb, _, _⟩ := hr.at_ (k := 0) (by omega)
  have HQ0 := Lib.hid hc
  have HL0 := Lib.hid hr
  have HIH0 := Lib.hid ih
  have HBD := Lib.hid (fun n (hn : n ≤ lf.length) => ordN_bd least f ch lf hl (by omega) n hn)
  obtain ⟨n, hn⟩ : ∃ n, lf.length = n := ⟨_, rfl⟩
  have HLN := Lib.hid hn
  have HNF := Lib.hid (show n = f + 1 by omega)
  have hn8 : n ≤ 8 := by omega
  have hn1 : 1 ≤ n := by omega
  have hne : ((n : Int) == 0) = false := by simp; omega
  have hch : ch.length ≤ 8 := by omega
  have h8' := Lib.hid h8
  rw [hn] at hlc
  rw [ord_succ, hn]
  clear hc hv hr ih hl hn h8
  go_enter Try.func70, Try.ntmps70
  go_wp2
  go_loopw [8, 9, 10] (fun s a i wr => ∃ k : Nat, k ≤ n ∧ i = .int .i64 k ∧ s = .int .i64 (ordN least f ch lf k).1 ∧ a = .int .i64 (ordN least f ch lf k).2 ∧ Below W.heap.size W wr) (fun _ _ i _ => n - (intOf i).toNat)
  case atStart => exact ⟨0, Nat.zero_le _, rfl, rfl, rfl, Below.refl _ _⟩
  case round =>
    obtain ⟨k, hk, rfl, rfl, rfl, hbw⟩ := hrel
    by_cases hlt : k < n
    · have hlk : k < lf.length := by rw [HLN.out]; exact hlt
      obtain ⟨b1, off1, x, e1, hb1, hx, hc⟩ := (HL0.out.below hbw).at_ (k := k) hlk
      obtain ⟨rfl, rfl⟩ : b = b1 ∧ off = off1 := by simpa using e1
      have HRI := Lib.hid ((HL0.out.below hbw).more hbw.size)
      have HQC0 := Lib.hid (HQ0.out.stay hbw)
      have HBW := Lib.hid hbw
      have HTK := Lib.hid (show (lf.take k).length = k by rw [List.length_take]; omega)
      have HDK := Lib.hid (show (lf.drop (k + 1)).length = n - (k + 1) by rw [List.length_drop, HLN.out])
      have hgx : lf[k]?.getD 0 = x := by rw [hx]; rfl
      obtain ⟨⟨a1, a2⟩, a3, a4⟩ := HBD.out k (by omega)
      have a5 := (HBD.out (k + 1) (by omega))
      have ob := ord_bd least f (ch ++ [x]) (lf.take k ++ lf.drop (k + 1)) (by rw [List.length_append, HTK.out, HDK.out]; have := HNF.out; omega) (by have := HNF.out; omega)
      have HN := Lib.hid (show ordN least f ch lf (k + 1) = ((ordN least f ch lf k).1 + (ord least f (ch ++ [x]) (lf.take k ++ lf.drop (k + 1))).1, (ordN least f ch lf k).2 + (ord least f (ch ++ [x]) (lf.take k ++ lf.drop (k + 1))).2) by simp only [ordN]; rw [hgx])
      have HIH1 := Lib.hid (fun (vr : Value) (W0 : World) (hr : QN (lf.take k ++ lf.drop (k + 1)) vr W0) (v : Value) (y : World) (h1 : QN (ch ++ [x]) v y) (h2 : Below W0.heap.size W0 y) => HIH0.out (ch ++ [x]) (lf.take k ++ lf.drop (k + 1)) v vr y (by rw [List.length_append, HTK.out, HDK.out]; have := HNF.out; omega) (by have := h8'.out; simp; omega) h1 (hr.stay h2))
      obtain ⟨ab, hab⟩ : ∃ ab, ord least f (ch ++ [x]) (lf.take k ++ lf.drop (k + 1)) = ab := ⟨_, rfl⟩
      rw [hab] at HN ob HIH1
      rw [HN.out] at a5
      obtain ⟨⟨o1, o2⟩, o3, o4⟩ := ob
      obtain ⟨⟨o5, o6⟩, o7, o8⟩ := a5
      dsimp only at o5 o6 o7 o8
      have i7 : (k : Int) < n := by omega
      have i8 : 0 ≤ (k : Int) := by omega
      have i10 : (n : Int) ≤ c := by omega
      have i11 : (k : Int) ≤ c := by omega
      have i12 : k ≤ c := by omega
      have i13 : IntKind.i64.wrap ((k : Int) + 1) = (k : Int) + 1 := IntWalk.i64_in _ (by omega)
      have i14 : 0 ≤ (k : Int) + 1 := by omega
      have i15 : (k : Int) + 1 ≤ n := by omega
      obtain ⟨od, hod, hod2⟩ : ∃ od, (if c = k + 1 then some (⟨b, off, none⟩ : Addr) else some ⟨b, off + (k + 1), none⟩) = some ⟨b, od, none⟩ ∧ (¬ c = k + 1 → od = off + (k + 1)) := by
        by_cases e : c = k + 1
        · exact ⟨off, by rw [if_pos e], fun h => absurd e h⟩
        · exact ⟨off + (k + 1), by rw [if_neg e], fun _ => rfl⟩
      have HOD := Lib.hid (fun (Wx : World) (hri : RI Wx wr.heap.size (some ⟨b, off, none⟩) lf) (j : Nat) (y : Int) (hu : (lf.drop (k + 1))[j]? = some y) => (by
        by_cases e : c = k + 1
        · have := (List.getElem?_eq_some_iff.1 hu).1
          rw [HDK.out] at this
          omega
        · rw [hod2 e]
          exact hri.drop (k + 1) hu : Wx.cell? ⟨b, od + j, none⟩ = some (.int .i64 y)))
      clear hod2
      clear e1 hx hgx hbw hab hlk
      generalize (ordN least f ch lf k).1 = s0 at *
      generalize (ordN least f ch lf k).2 = t0 at *
      go_upto_region 9 with fail
      refine wpIn_wide.1 (region_inv2 (n := 9) (by kernel_rfl) (RO (QO9 (.slice (some ⟨b, off, none⟩) n c) b off od k n c) wr 3 8 30 9 0 (lf.take k) (lf.drop (k + 1))) (by kernel_rfl) rfl (RO.start _ _ _ _ _ _ _ _ _ _) ?hstep ?hend)
      case hstep =>
        intro i' o ho val L b' y hF hR hpre hl
        match i', ho with
          | 0, ho =>
            simp at ho
            subst ho
            refine step_plain rfl ?_
            have e1 := hF.was 1 (by kernel_rfl) rfl
            have hgoal : ∀ v W', Below y.heap.size y W' → QO9 (.slice (some ⟨b, off, none⟩) n c) b off od k n c 0 v → RO (QO9 (.slice (some ⟨b, off, none⟩) n c) b off od k n c) wr 3 8 30 9 0 (lf.take k) (lf.drop (k + 1)) (upd val 0 v) (L.setIfInBounds 0 true) W' := fun v W' hb hq => hR.step (by decide) (by decide) (by decide) (by decide) hb hq
            clear hF hpre hl hR
            go_simp
            exact ⟨_, rfl, hgoal _ _ (Below.refl _ _) rfl⟩
          | 1, ho =>
            simp at ho
            subst ho
            refine step_plain rfl ?_
            have e10 := hF.was 10 (by kernel_rfl) rfl
            have hgoal : ∀ v W', Below y.heap.size y W' → QO9 (.slice (some ⟨b, off, none⟩) n c) b off od k n c 1 v → RO (QO9 (.slice (some ⟨b, off, none⟩) n c) b off od k n c) wr 3 8 30 9 0 (lf.take k) (lf.drop (k + 1)) (upd val 1 v) (L.setIfInBounds 1 true) W' := fun v W' hb hq => hR.step (by decide) (by decide) (by decide) (by decide) hb hq
            clear hF hpre hl hR
            go_simp
            exact ⟨_, rfl, hgoal _ _ (Below.refl _ _) rfl⟩
          | 2, ho =>
            simp at ho
            subst ho
            refine step_plain rfl ?_
            have e27 := hF.gave 0 rfl (hpre ⟨0, .data⟩ (by simp) rfl) rfl
            rw [show val 0 = (.slice (some ⟨b, off, none⟩) n c) from hR.vals 0 (hpre ⟨0, .data⟩ (by simp) rfl)] at e27
            have e28 := hF.gave 1 rfl (hpre ⟨1, .data⟩ (by simp) rfl) rfl
            rw [show val 1 = .int .i64 k from hR.vals 1 (hpre ⟨1, .data⟩ (by simp) rfl)] at e28
            have hgoal : ∀ v W', Below y.heap.size y W' → QO9 (.slice (some ⟨b, off, none⟩) n c) b off od k n c 2 v → RO (QO9 (.slice (some ⟨b, off, none⟩) n c) b off od k n c) wr 3 8 30 9 0 (lf.take k) (lf.drop (k + 1)) (upd val 2 v) (L.setIfInBounds 2 true) W' := fun v W' hb hq => hR.step (by decide) (by decide) (by decide) (by decide) hb hq
            clear hF hpre hl hR
            go_simp
            exact ⟨_, rfl, hgoal _ _ (Below.refl _ _) rfl⟩
          | 3, ho =>
            simp at ho
            subst ho
            refine step_plain rfl ?_
            have e29 := hF.gave 2 rfl (hpre ⟨2, .data⟩ (by simp) rfl) rfl
            rw [show val 2 = .slice (some ⟨b, off, none⟩) k c from hR.vals 2 (hpre ⟨2, .data⟩ (by simp) rfl)] at e29
            have hN := hF.later hl 8 rfl (e := ⟨3, .data⟩) (by simp) rfl rfl
            have hri := HRI.out.below hR.below
            refine step_copy (.tmp 29) rfl wr.heap.size (lf.take k) _ (by simpa [Act.eval] using e29) (.inr ⟨b, off, c, by rw [HTK.out], by rw [HTK.out]; omega, (hri.take k).more hR.below.size⟩) (by rw [HTK.out]; omega) hR.below.size ?_
            intro v' w9 ho9 hb9
            exact ⟨v', rfl, hR.first (by decide) (by decide) (by decide) hN hb9 trivial ho9⟩
          | 4, ho =>
            simp at ho
            subst ho
            refine step_plain rfl ?_
            have e1 := hF.was 1 (by kernel_rfl) rfl
            have hgoal : ∀ v W', Below y.heap.size y W' → QO9 (.slice (some ⟨b, off, none⟩) n c) b off od k n c 4 v → RO (QO9 (.slice (some ⟨b, off, none⟩) n c) b off od k n c) wr 3 8 30 9 0 (lf.take k) (lf.drop (k + 1)) (upd val 4 v) (L.setIfInBounds 4 true) W' := fun v W' hb hq => hR.step (by decide) (by decide) (by decide) (by decide) hb hq
            clear hF hpre hl hR
            go_simp
            exact ⟨_, rfl, hgoal _ _ (Below.refl _ _) rfl⟩
          | 5, ho =>
            simp at ho
            subst ho
            refine step_plain rfl ?_
            have e10 := hF.was 10 (by kernel_rfl) rfl
            have hgoal : ∀ v W', Below y.heap.size y W' → QO9 (.slice (some ⟨b, off, none⟩) n c) b off od k n c 5 v → RO (QO9 (.slice (some ⟨b, off, none⟩) n c) b off od k n c) wr 3 8 30 9 0 (lf.take k) (lf.drop (k + 1)) (upd val 5 v) (L.setIfInBounds 5 true) W' := fun v W' hb hq => hR.step (by decide) (by decide) (by decide) (by decide) hb hq
            clear hF hpre hl hR
            go_simp
            exact ⟨_, rfl, hgoal _ _ (Below.refl _ _) rfl⟩
          | 6, ho =>
            simp at ho
            subst ho
            refine step_plain rfl ?_
            have e32 := hF.gave 5 rfl (hpre ⟨5, .data⟩ (by simp) rfl) rfl
            rw [show val 5 = .int .i64 k from hR.vals 5 (hpre ⟨5, .data⟩ (by simp) rfl)] at e32
            have hgoal : ∀ v W', Below y.heap.size y W' → QO9 (.slice (some ⟨b, off, none⟩) n c) b off od k n c 6 v → RO (QO9 (.slice (some ⟨b, off, none⟩) n c) b off od k n c) wr 3 8 30 9 0 (lf.take k) (lf.drop (k + 1)) (upd val 6 v) (L.setIfInBounds 6 true) W' := fun v W' hb hq => hR.step (by decide) (by decide) (by decide) (by decide) hb hq
            clear hF hpre hl hR
            go_simp
            exact ⟨_, rfl, hgoal _ _ (Below.refl _ _) rfl⟩
          | 7, ho =>
            simp at ho
            subst ho
            refine step_plain rfl ?_
            have e31 := hF.gave 4 rfl (hpre ⟨4, .data⟩ (by simp) rfl) rfl
            rw [show val 4 = (.slice (some ⟨b, off, none⟩) n c) from hR.vals 4 (hpre ⟨4, .data⟩ (by simp) rfl)] at e31
            have e33 := hF.gave 6 rfl (hpre ⟨6, .data⟩ (by simp) rfl) rfl
            rw [show val 6 = .int .i64 (k + 1) from hR.vals 6 (hpre ⟨6, .data⟩ (by simp) rfl)] at e33
            have hgoal : ∀ v W', Below y.heap.size y W' → QO9 (.slice (some ⟨b, off, none⟩) n c) b off od k n c 7 v → RO (QO9 (.slice (some ⟨b, off, none⟩) n c) b off od k n c) wr 3 8 30 9 0 (lf.take k) (lf.drop (k + 1)) (upd val 7 v) (L.setIfInBounds 7 true) W' := fun v W' hb hq => hR.step (by decide) (by decide) (by decide) (by decide) hb hq
            clear hF hpre hl hR
            go_simp
            exact ⟨_, rfl, hgoal _ _ (Below.refl _ _) rfl⟩
          | 8, ho =>
            simp at ho
            subst ho
            refine step_plain rfl ?_
            have e30 := hF.gave 3 rfl (hpre ⟨3, .data⟩ (by simp) rfl) rfl
            have e34 := hF.gave 7 rfl (hpre ⟨7, .data⟩ (by simp) rfl) rfl
            rw [show val 7 = .slice (some ⟨b, od, none⟩) (n - (k + 1)) (c - (k + 1)) from hR.vals 7 (hpre ⟨7, .data⟩ (by simp) rfl)] at e34
            have hls : 8 < L.size := by rw [hF.lsize]; decide
            have hN0 : L.getD 8 false = false := by rw [← getD_same hls]; exact hl
            have hN := hF.later hl 9 rfl (e := ⟨8, .data⟩) (by simp) rfl rfl
            have hone := hR.one (hpre ⟨3, .data⟩ (by simp) rfl) hN0
            have hri := HRI.out.below hR.below
            refine step_app (.tmp 30) (.tmp 34) rfl wr.heap.size (val 3) (lf.take k) (by simpa [Act.eval] using e30) hone b od (c - (k + 1)) (lf.drop (k + 1)) (by rw [HDK.out]; simpa [Act.eval] using e34) (fun j u hu => HOD.out _ hri j u hu) (by rw [HTK.out, HDK.out]; omega) hR.below.size ?_
            intro v' w9 ho9 hg9
            exact ⟨v', rfl, hR.second (by decide) hls hN (OI.below hone hg9 hR.below hR.below.size (Nat.le_refl _)) trivial ho9⟩
          | 9, ho =>
            simp at ho
            subst ho
            refine step_plain rfl ?_
            have e35 := hF.gave 8 rfl (hpre ⟨8, .data⟩ (by simp) rfl) rfl
            have hgoal := hR.assign (by decide) (by decide) (by decide) trivial
            clear hF hpre hl hR
            go_simp
            exact ⟨_, rfl, hgoal⟩
          | i + 10, ho => simp at ho
      intro val L b' w2 hF hall hR
      have e := hF.all (by kernel_rfl) hall
      have htwo := hR.two (hall 8 (by decide))
      have hasg := hR.asg (hall 9 (by decide))
      have HQR := Lib.hid htwo.qn
      have HB2 := Lib.hid hR.below
      have hc := cell_keep hR.below hc
      obtain ⟨vr, hvr⟩ : ∃ vr, val 8 = vr := ⟨_, rfl⟩
      rw [hvr] at HQR hasg
      have HQC := Lib.hid (HQC0.out.stay HB2.out)
      have HIH := Lib.hid (HIH1.out vr w2 HQR.out)
      clear hF hall hR htwo hvr
      subst e
      simp [final, dstOf, List.range, List.range.loop, hasg]
      clear hod hasg o2 o4
      go_upto_region 10 with fail
      refine wpIn_wide.1 (region_inv2 (n := 9) (by kernel_rfl) (RO (QO10 vc (.slice (some ⟨b, off, none⟩) n c) vr b off k x least ab) w2 1 7 6 40 x ch [x]) (by kernel_rfl) rfl (RO.start _ _ _ _ _ _ _ _ _ _) ?hstep2 ?hend2)
      case hstep2 =>
        intro i' o ho val L b' y hF hR hpre hl
        match i', ho with
          | 0, ho =>
            simp at ho
            subst ho
            refine step_plain rfl ?_
            have e0 := hF.was 0 (by kernel_rfl) rfl
            have hgoal : ∀ v W', Below y.heap.size y W' → QO10 vc (.slice (some ⟨b, off, none⟩) n c) vr b off k x least ab 0 v → RO (QO10 vc (.slice (some ⟨b, off, none⟩) n c) vr b off k x least ab) w2 1 7 6 40 x ch [x] (upd val 0 v) (L.setIfInBounds 0 true) W' := fun v W' hb hq => hR.step (by decide) (by decide) (by decide) (by decide) hb hq
            clear hF hpre hl hR
            go_simp
            exact ⟨_, rfl, hgoal _ _ (Below.refl _ _) rfl⟩
          | 1, ho =>
            simp at ho
            subst ho
            refine step_plain rfl ?_
            have e37 := hF.gave 0 rfl (hpre ⟨0, .data⟩ (by simp) rfl) rfl
            rw [show val 0 = vc from hR.vals 0 (hpre ⟨0, .data⟩ (by simp) rfl)] at e37
            have hN := hF.later hl 7 rfl (e := ⟨1, .data⟩) (by simp) rfl rfl
            refine step_copy (.tmp 37) rfl w2.heap.size ch _ (by simpa [Act.eval] using e37) (HQC.out.stay hR.below) (by omega) hR.below.size ?_
            intro v' w9 ho9 hb9
            exact ⟨v', rfl, hR.first (by decide) (by decide) (by decide) hN hb9 trivial ho9⟩
          | 2, ho =>
            simp at ho
            subst ho
            refine step_plain rfl ?_
            have e1 := hF.was 1 (by kernel_rfl) rfl
            have hgoal : ∀ v W', Below y.heap.size y W' → QO10 vc (.slice (some ⟨b, off, none⟩) n c) vr b off k x least ab 2 v → RO (QO10 vc (.slice (some ⟨b, off, none⟩) n c) vr b off k x least ab) w2 1 7 6 40 x ch [x] (upd val 2 v) (L.setIfInBounds 2 true) W' := fun v W' hb hq => hR.step (by decide) (by decide) (by decide) (by decide) hb hq
            clear hF hpre hl hR
            go_simp
            exact ⟨_, rfl, hgoal _ _ (Below.refl _ _) rfl⟩
          | 3, ho =>
            simp at ho
            subst ho
            refine step_plain rfl ?_
            have e10 := hF.was 10 (by kernel_rfl) rfl
            have hgoal : ∀ v W', Below y.heap.size y W' → QO10 vc (.slice (some ⟨b, off, none⟩) n c) vr b off k x least ab 3 v → RO (QO10 vc (.slice (some ⟨b, off, none⟩) n c) vr b off k x least ab) w2 1 7 6 40 x ch [x] (upd val 3 v) (L.setIfInBounds 3 true) W' := fun v W' hb hq => hR.step (by decide) (by decide) (by decide) (by decide) hb hq
            clear hF hpre hl hR
            go_simp
            exact ⟨_, rfl, hgoal _ _ (Below.refl _ _) rfl⟩
          | 4, ho =>
            simp at ho
            subst ho
            refine step_plain rfl ?_
            have e39 := hF.gave 2 rfl (hpre ⟨2, .data⟩ (by simp) rfl) rfl
            rw [show val 2 = (.slice (some ⟨b, off, none⟩) n c) from hR.vals 2 (hpre ⟨2, .data⟩ (by simp) rfl)] at e39
            have e40 := hF.gave 3 rfl (hpre ⟨3, .data⟩ (by simp) rfl) rfl
            rw [show val 3 = .int .i64 k from hR.vals 3 (hpre ⟨3, .data⟩ (by simp) rfl)] at e40
            have hgoal : ∀ v W', Below y.heap.size y W' → QO10 vc (.slice (some ⟨b, off, none⟩) n c) vr b off k x least ab 4 v → RO (QO10 vc (.slice (some ⟨b, off, none⟩) n c) vr b off k x least ab) w2 1 7 6 40 x ch [x] (upd val 4 v) (L.setIfInBounds 4 true) W' := fun v W' hb hq => hR.step (by decide) (by decide) (by decide) (by decide) hb hq
            clear hF hpre hl hR
            go_simp
            exact ⟨_, rfl, hgoal _ _ (Below.refl _ _) rfl⟩
          | 5, ho =>
            simp at ho
            subst ho
            refine step_plain rfl ?_
            have e41 := hF.gave 4 rfl (hpre ⟨4, .data⟩ (by simp) rfl) rfl
            rw [show val 4 = .pointer (some ⟨b, off + k, none⟩) from hR.vals 4 (hpre ⟨4, .data⟩ (by simp) rfl)] at e41
            have hgoal : ∀ v W', Below y.heap.size y W' → QO10 vc (.slice (some ⟨b, off, none⟩) n c) vr b off k x least ab 5 v → RO (QO10 vc (.slice (some ⟨b, off, none⟩) n c) vr b off k x least ab) w2 1 7 6 40 x ch [x] (upd val 5 v) (L.setIfInBounds 5 true) W' := fun v W' hb hq => hR.step (by decide) (by decide) (by decide) (by decide) hb hq
            have q0 := cell_keep hR.below hc
            clear hF hpre hl hR
            go_simp
            exact ⟨_, rfl, hgoal _ _ (Below.refl _ _) rfl⟩
          | 6, ho =>
            simp at ho
            subst ho
            refine step_plain rfl ?_
            have e42 := hF.gave 5 rfl (hpre ⟨5, .data⟩ (by simp) rfl) rfl
            rw [show val 5 = .int .i64 x from hR.vals 5 (hpre ⟨5, .data⟩ (by simp) rfl)] at e42
            have hgoal : ∀ v W', Below y.heap.size y W' → HasOne v x W' → RO (QO10 vc (.slice (some ⟨b, off, none⟩) n c) vr b off k x least ab) w2 1 7 6 40 x ch [x] (upd val 6 v) (L.setIfInBounds 6 true) W' := fun v W' hb hq => hR.made (by decide) (by decide) (by decide) hb trivial hq
            clear hF hpre hl hR
            go_simp
            exact ⟨_, rfl, hgoal _ _ ((Below.refl _ _).alloc (Nat.le_refl _) _) ⟨_, rfl, by rw [cell_newest]; rfl⟩⟩
          | 7, ho =>
            simp at ho
            subst ho
            refine step_plain rfl ?_
            have e38 := hF.gave 1 rfl (hpre ⟨1, .data⟩ (by simp) rfl) rfl
            have e43 := hF.gave 6 rfl (hpre ⟨6, .data⟩ (by simp) rfl) rfl
            have hls : 7 < L.size := by rw [hF.lsize]; decide
            have hN0 : L.getD 7 false = false := by rw [← getD_same hls]; exact hl
            have hN : L.getD 40 false = false := getD_out (by rw [hF.lsize]; decide)
            have hone := hR.one (hpre ⟨1, .data⟩ (by simp) rfl) hN0
            obtain ⟨g9, hv9, hc9⟩ := hR.new (hpre ⟨6, .data⟩ (by simp) rfl) hN0
            rw [hv9] at e43
            refine step_push (.tmp 38) (.tmp 43) rfl _ _ _ (by simpa [Act.eval] using e38) hone g9 x (by simpa [Act.eval] using e43) hc9 (by omega) hR.below.size ?_
            intro v' w9 ho9 hg9
            exact ⟨v', rfl, hR.second (by decide) hls hN (OI.below hone hg9 hR.below hR.below.size (Nat.le_refl _)) trivial ho9⟩
          | 8, ho =>
            simp at ho
            subst ho
            refine step_plain rfl ?_
            have e11 := hF.was 11 (by kernel_rfl) rfl
            have hgoal : ∀ v W', Below y.heap.size y W' → QO10 vc (.slice (some ⟨b, off, none⟩) n c) vr b off k x least ab 8 v → RO (QO10 vc (.slice (some ⟨b, off, none⟩) n c) vr b off k x least ab) w2 1 7 6 40 x ch [x] (upd val 8 v) (L.setIfInBounds 8 true) W' := fun v W' hb hq => hR.step (by decide) (by decide) (by decide) (by decide) hb hq
            clear hF hpre hl hR
            go_simp
            exact ⟨_, rfl, hgoal _ _ (Below.refl _ _) rfl⟩
          | 9, ho =>
            simp at ho
            subst ho
            refine step_plain rfl ?_
            have e2 := hF.was 2 (by kernel_rfl) rfl
            have hgoal : ∀ v W', Below y.heap.size y W' → QO10 vc (.slice (some ⟨b, off, none⟩) n c) vr b off k x least ab 9 v → RO (QO10 vc (.slice (some ⟨b, off, none⟩) n c) vr b off k x least ab) w2 1 7 6 40 x ch [x] (upd val 9 v) (L.setIfInBounds 9 true) W' := fun v W' hb hq => hR.step (by decide) (by decide) (by decide) (by decide) hb hq
            clear hF hpre hl hR
            go_simp
            exact ⟨_, rfl, hgoal _ _ (Below.refl _ _) rfl⟩
          | 10, ho =>
            simp at ho
            subst ho
            refine step_plain rfl ?_
            have e44 := hF.gave 7 rfl (hpre ⟨7, .data⟩ (by simp) rfl) rfl
            have e45 := hF.gave 8 rfl (hpre ⟨8, .data⟩ (by simp) rfl) rfl
            rw [show val 8 = vr from hR.vals 8 (hpre ⟨8, .data⟩ (by simp) rfl)] at e45
            have e46 := hF.gave 9 rfl (hpre ⟨9, .data⟩ (by simp) rfl) rfl
            rw [show val 9 = .int .i64 least from hR.vals 9 (hpre ⟨9, .data⟩ (by simp) rfl)] at e46
            have htwo := hR.two (hpre ⟨7, .data⟩ (by simp) rfl)
            have HCALL := Lib.hid (HIH.out (val 7) y htwo.qn hR.below)
            have hgoal : ∀ v W', Below y.heap.size y W' → QO10 vc (.slice (some ⟨b, off, none⟩) n c) vr b off k x least ab 10 v → RO (QO10 vc (.slice (some ⟨b, off, none⟩) n c) vr b off k x least ab) w2 1 7 6 40 x ch [x] (upd val 10 v) (L.setIfInBounds 10 true) W' := fun v W' hb hq => hR.step (by decide) (by decide) (by decide) (by decide) hb hq
            clear hF hpre hl hR htwo
            go_simp
            refine ⟨trivial, ?_⟩
            refine CallsIn.mono (callsIn_wide.2 HCALL.out) ?_
            rintro e w9 ⟨rfl, hb9⟩
            exact ⟨_, rfl, hgoal _ _ hb9 rfl⟩
          | 11, ho =>
            simp at ho
            subst ho
            refine step_plain rfl ?_
            have e47 := hF.gave 10 rfl (hpre ⟨10, .data⟩ (by simp) rfl) rfl
            rw [show val 10 = resV ab from hR.vals 10 (hpre ⟨10, .data⟩ (by simp) rfl)] at e47
            have hgoal : ∀ v W', Below y.heap.size y W' → QO10 vc (.slice (some ⟨b, off, none⟩) n c) vr b off k x least ab 11 v → RO (QO10 vc (.slice (some ⟨b, off, none⟩) n c) vr b off k x least ab) w2 1 7 6 40 x ch [x] (upd val 11 v) (L.setIfInBounds 11 true) W' := fun v W' hb hq => hR.step (by decide) (by decide) (by decide) (by decide) hb hq
            clear hF hpre hl hR
            go_simp
            exact ⟨_, rfl, hgoal _ _ (Below.refl _ _) rfl⟩
          | 12, ho =>
            simp at ho
            subst ho
            refine step_plain rfl ?_
            have e36 := hF.gave 11 rfl (hpre ⟨11, .data⟩ (by simp) rfl) rfl
            rw [show val 11 = resV ab from hR.vals 11 (hpre ⟨11, .data⟩ (by simp) rfl)] at e36
            have hgoal : ∀ v W', Below y.heap.size y W' → QO10 vc (.slice (some ⟨b, off, none⟩) n c) vr b off k x least ab 12 v → RO (QO10 vc (.slice (some ⟨b, off, none⟩) n c) vr b off k x least ab) w2 1 7 6 40 x ch [x] (upd val 12 v) (L.setIfInBounds 12 true) W' := fun v W' hb hq => hR.step (by decide) (by decide) (by decide) (by decide) hb hq
            clear hF hpre hl hR
            go_simp
            exact ⟨_, rfl, hgoal _ _ (Below.refl _ _) rfl⟩
          | 13, ho =>
            simp at ho
            subst ho
            refine step_plain rfl ?_
            have e36 := hF.gave 11 rfl (hpre ⟨11, .data⟩ (by simp) rfl) rfl
            rw [show val 11 = resV ab from hR.vals 11 (hpre ⟨11, .data⟩ (by simp) rfl)] at e36
            have hgoal : ∀ v W', Below y.heap.size y W' → QO10 vc (.slice (some ⟨b, off, none⟩) n c) vr b off k x least ab 13 v → RO (QO10 vc (.slice (some ⟨b, off, none⟩) n c) vr b off k x least ab) w2 1 7 6 40 x ch [x] (upd val 13 v) (L.setIfInBounds 13 true) W' := fun v W' hb hq => hR.step (by decide) (by decide) (by decide) (by decide) hb hq
            clear hF hpre hl hR
            go_simp
            exact ⟨_, rfl, hgoal _ _ (Below.refl _ _) rfl⟩
          | 14, ho =>
            simp at ho
            subst ho
            refine step_plain rfl ?_
            have e48 := hF.gave 12 rfl (hpre ⟨12, .data⟩ (by simp) rfl) rfl
            rw [show val 12 = .int .i64 ab.1 from hR.vals 12 (hpre ⟨12, .data⟩ (by simp) rfl)] at e48
            have hgoal : ∀ v W', Below y.heap.size y W' → QO10 vc (.slice (some ⟨b, off, none⟩) n c) vr b off k x least ab 14 v → RO (QO10 vc (.slice (some ⟨b, off, none⟩) n c) vr b off k x least ab) w2 1 7 6 40 x ch [x] (upd val 14 v) (L.setIfInBounds 14 true) W' := fun v W' hb hq => hR.step (by decide) (by decide) (by decide) (by decide) hb hq
            clear hF hpre hl hR
            go_simp
            exact ⟨_, rfl, hgoal _ _ (Below.refl _ _) rfl⟩
          | 15, ho =>
            simp at ho
            subst ho
            refine step_plain rfl ?_
            have e49 := hF.gave 13 rfl (hpre ⟨13, .data⟩ (by simp) rfl) rfl
            rw [show val 13 = .int .i64 ab.2 from hR.vals 13 (hpre ⟨13, .data⟩ (by simp) rfl)] at e49
            have hgoal : ∀ v W', Below y.heap.size y W' → QO10 vc (.slice (some ⟨b, off, none⟩) n c) vr b off k x least ab 15 v → RO (QO10 vc (.slice (some ⟨b, off, none⟩) n c) vr b off k x least ab) w2 1 7 6 40 x ch [x] (upd val 15 v) (L.setIfInBounds 15 true) W' := fun v W' hb hq => hR.step (by decide) (by decide) (by decide) (by decide) hb hq
            clear hF hpre hl hR
            go_simp
            exact ⟨_, rfl, hgoal _ _ (Below.refl _ _) rfl⟩
          | i + 16, ho => simp at ho
      intro val L b' w3 hF hall hR
      have e := hF.all (by kernel_rfl) hall
      have v14 : val 14 = .int .i64 ab.1 := hR.vals 14 (hall 14 (by decide))
      have v15 : val 15 = .int .i64 ab.2 := hR.vals 15 (hall 15 (by decide))
      have HB3 := Lib.hid (HBW.out.trans ((HB2.out.trans (hR.below.mono HB2.out.size)).mono HBW.out.size))
      clear hF hall hR
      subst e
      simp [final, dstOf, List.range, List.range.loop, v14, v15]
      clear v14 v15 hc
      go_wp2
      go_roundw
      case rel => exact ⟨k + 1, by omega, by go_num, by rw [HN.out], by rw [HN.out], HB3.out⟩
      case measure => simp [intOf]; omega
    · obtain rfl : k = n := by omega
      have HBW := Lib.hid hbw
      clear hbw
      go_wp2
      go_ret2
      exact ⟨rfl, HBW.out⟩
end Go.Proofs.Ytliocbjmledfbaa

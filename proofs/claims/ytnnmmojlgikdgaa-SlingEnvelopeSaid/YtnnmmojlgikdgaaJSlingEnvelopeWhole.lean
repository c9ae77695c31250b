/- swashplatelaw07.SlingEnvelope returns true at every input, and the input reads as it did: no condition. -/
import Derived.Test.YtnnmmojlgikdgaaM7
import Derived.Test.YtnnmmojlgikdgaaM9
import Derived.Test.YtnnmmojlgikdgaaM8
import Derived.Test.YtnnmmojlgikdgaaM4
import Derived.Test.YtnnmmojlgikdgaaM10
import Derived.Test.YtnnmmojlgikdgaaM1
import Derived.BigQuiet
import Derived.Test.YtnnmmojlgikdgaaM5
import Derived.Test.YtnnmmojlgikdgaaM6

/- A drawn region whose last operations fill two boxes that were there, one behind the other. -/
namespace Go.Proofs.Ytnnmmojlgikdgaa
open Go.RowKit

def RT2 (Q : Nat → Value → World → Prop) (W0 : World) (s1 s2 : Nat) (f1 f2 : World → World) (val : Nat → Value) (L : Array Bool) (W : World) : Prop :=
  (∀ j, L.getD j false = true → Q j (val j) W) ∧ (L.getD s1 false = false → Below W0.heap.size W0 W) ∧
    (L.getD s1 false = true → (L.getD s2 false = false → ∃ y, Below W0.heap.size W0 y ∧ W = f1 y) ∧ (L.getD s2 false = true → ∃ y, Below W0.heap.size W0 y ∧ W = f2 (f1 y)))
section
variable {Q : Nat → Value → World → Prop} {W0 W W' : World} {s1 s2 i : Nat} {f1 f2 : World → World} {v : Value} {val : Nat → Value} {L : Array Bool}
theorem RT2.start (Q : Nat → Value → World → Prop) (W0 : World) (s1 s2 : Nat) (f1 f2 : World → World) (n : Nat) : RT2 Q W0 s1 s2 f1 f2 (fun _ => undef) (Array.replicate n false) W0.drew :=
  ⟨fun j h => (by rw [getD_replicate_no] at h; cases h), fun _ => (Below.refl _ _).drew, fun h => (by rw [getD_replicate_no] at h; cases h)⟩
theorem RT2.vals (h : RT2 Q W0 s1 s2 f1 f2 val L W) (hQ : Still Q) (hq : Q i v W') : ∀ j, (L.setIfInBounds i true).getD j false = true → Q j (upd val i v j) W' := fun j hj => by
  by_cases e : j = i
  · subst e; rw [upd_same]; exact hq
  · rw [upd_other e]
    rw [getD_set_other (fun h => e h.symm)] at hj
    exact hQ _ _ _ _ (h.1 j hj)
theorem RT2.step (h : RT2 Q W0 s1 s2 f1 f2 val L W) (hQ : Still Q) (hb : Below W.heap.size W W') (hq : Q i v W') (hs : i ≠ s1) (hN : L.getD s1 false = false) : RT2 Q W0 s1 s2 f1 f2 (upd val i v) (L.setIfInBounds i true) W' := by
  refine ⟨h.vals hQ hq, fun _ => (h.2.1 hN).trans (hb.mono (h.2.1 hN).size), fun hl => ?_⟩
  rw [getD_set_other hs, hN] at hl; cases hl
theorem RT2.store1 (h : RT2 Q W0 s1 s2 f1 f2 val L W) (hQ : Still Q) (hq : Q s1 v (f1 W)) (hne : s1 ≠ s2) (hls : s1 < L.size) (hN : L.getD s1 false = false) (hN2 : L.getD s2 false = false) : RT2 Q W0 s1 s2 f1 f2 (upd val s1 v) (L.setIfInBounds s1 true) (f1 W) := by
  refine ⟨h.vals hQ hq, fun hl => ?_, fun _ => ⟨fun _ => ⟨W, h.2.1 hN, rfl⟩, fun hl => ?_⟩⟩
  · rw [getD_set_eq hls] at hl; cases hl
  · rw [getD_set_other hne, hN2] at hl; cases hl
theorem RT2.store2 (h : RT2 Q W0 s1 s2 f1 f2 val L W) (hQ : Still Q) (hq : Q s2 v (f2 W)) (hne : s1 ≠ s2) (hls : s2 < L.size) (hl1 : L.getD s1 false = true) (hN2 : L.getD s2 false = false) : RT2 Q W0 s1 s2 f1 f2 (upd val s2 v) (L.setIfInBounds s2 true) (f2 W) := by
  obtain ⟨y, hy, e⟩ := (h.2.2 hl1).1 hN2
  refine ⟨h.vals hQ hq, fun hl => ?_, fun _ => ⟨fun hl => ?_, fun _ => ⟨y, hy, by rw [e]⟩⟩⟩
  · rw [getD_set_other (fun e => hne e.symm), hl1] at hl; cases hl
  · rw [getD_set_eq hls] at hl; cases hl
theorem RT2.aft (h : RT2 Q W0 s1 s2 f1 f2 val L W) (hQ : Still Q) (hq : Q i v W) (h1 : i ≠ s1) (h2 : i ≠ s2) : RT2 Q W0 s1 s2 f1 f2 (upd val i v) (L.setIfInBounds i true) W := by
  refine ⟨h.vals hQ hq, fun hl => h.2.1 (by rw [getD_set_other h1] at hl; exact hl), fun hl => ?_⟩
  rw [getD_set_other h1] at hl
  rw [getD_set_other h2]
  exact h.2.2 hl
variable {vals : List (Option Value)} {ex : Nat → Value → World → Prop}
theorem RT2.go (h : RT2 Q W0 s1 s2 f1 f2 val L W) (hQ : Still Q) (HQ : Hid (Q = QG vals ex)) (i : Nat) {x : Value} (hx : vals[i]? = some (some x)) (hs : i ≠ s1) (hN : L.getD s1 false = false) : ∀ v W', Below W.heap.size W W' → v = x → RT2 Q W0 s1 s2 f1 f2 (upd val i v) (L.setIfInBounds i true) W' :=
  fun _ _ hb e => h.step hQ hb (QG.put HQ hx e) hs hN
theorem RT2.goT (h : RT2 Q W0 s1 s2 f1 f2 val L W) (hQ : Still Q) {i : Nat} (hn : ∀ v W, Q i v W) (hs : i ≠ s1) (hN : L.getD s1 false = false) : ∀ v W', Below W.heap.size W W' → True → RT2 Q W0 s1 s2 f1 f2 (upd val i v) (L.setIfInBounds i true) W' :=
  fun v W' hb _ => h.step hQ hb (hn v W') hs hN
theorem RT2.goA (h : RT2 Q W0 s1 s2 f1 f2 val L W) (hQ : Still Q) (HQ : Hid (Q = QG vals ex)) (i : Nat) {x : Value} (hx : vals[i]? = some (some x)) (h1 : i ≠ s1) (h2 : i ≠ s2) : ∀ v, v = x → RT2 Q W0 s1 s2 f1 f2 (upd val i v) (L.setIfInBounds i true) W :=
  fun _ e => h.aft hQ (QG.put HQ hx e) h1 h2
end
theorem block_other {W : World} {q g o : Nat} {v : Value} {x : Obj} (h : W.heap[q]? = some x) (hn : q ≠ g) : (W.setCell ⟨g, o, none⟩ v).heap[q]? = some x :=
  (Below.heap_setCell _ _ _ _ hn).trans h
end Go.Proofs.Ytnnmmojlgikdgaa

/- Reach of sling. -/
namespace Go.Proofs.Ytnnmmojlgikdgaa
open Go.RowKit

/-- The boxes of Reach. -/
structure EW (N D d gl gh : Int) (w W : World) : Prop where
  s : W.heap[w.heap.size]? = some (.cells #[.int .i64 N, .int .i64 D, .int .i64 d] 23 (0, 0))
  g : W.heap[w.heap.size + 1]? = some (.cells #[.int .i64 gl, .int .i64 gh] 27 (0, 0))
  r1 : W.heap[w.heap.size + 1 + 1]? = some (.cells #[.int .i64 0, .int .i64 0] 24 (0, 0))
  r2 : W.heap[w.heap.size + 1 + 1 + 1]? = some (.cells #[.int .i64 0, .int .i64 0] 24 (0, 0))
  b : Below w.heap.size w W
section
variable {N D d gl gh : Int} {w W W' : World}
theorem EW.next (h : EW N D d gl gh w W) (hb : Below W.heap.size W W') : EW N D d gl gh w W' :=
  ⟨(hb.block _ (lt_of_block h.s)).trans h.s, (hb.block _ (lt_of_block h.g)).trans h.g, (hb.block _ (lt_of_block h.r1)).trans h.r1, (hb.block _ (lt_of_block h.r2)).trans h.r2, h.b.trans (hb.mono h.b.size)⟩
theorem EW.alloc (h : EW N D d gl gh w W) (o : Obj) : EW N D d gl gh w (W.alloc o) := h.next ((Below.refl _ _).alloc (Nat.le_refl _) _)
theorem EW.start : EW N D d gl gh w ((((w.alloc (.cells #[.int .i64 N, .int .i64 D, .int .i64 d] 23)).alloc (.cells #[.int .i64 gl, .int .i64 gh] 27)).alloc (.cells #[.int .i64 0, .int .i64 0] 24)).alloc (.cells #[.int .i64 0, .int .i64 0] 24)) :=
  ⟨blk_old _ (blk_old _ (blk_old _ (blk_new _ _ _ rfl))), blk_old _ (blk_old _ (blk_new _ _ _ (by simp))), blk_old _ (blk_new _ _ _ (by simp)), blk_new _ _ _ (by simp), by go_grown⟩
theorem EW.put (h : EW N D d gl gh w W) (a b c e : Value) : ∀ y, (((W.setCell ⟨w.heap.size + 1 + 1, 0, none⟩ a).setCell ⟨w.heap.size + 1 + 1, 1, none⟩ b).setCell ⟨w.heap.size + 1 + 1 + 1, 0, none⟩ c).setCell ⟨w.heap.size + 1 + 1 + 1, 1, none⟩ e = y →
    y.heap[w.heap.size + 1 + 1]? = some (.cells #[a, b] 24 (0, 0)) ∧ y.heap[w.heap.size + 1 + 1 + 1]? = some (.cells #[c, e] 24 (0, 0)) ∧ Below w.heap.size w y := fun y hy => by
  refine ⟨?_, ?_, ?_⟩
  · rw [← hy]; exact block_other (block_other (block_setCell (o := 1) b (block_setCell (o := 0) a h.r1)) (by omega)) (by omega)
  · rw [← hy]; exact block_setCell (o := 1) e (block_setCell (o := 0) c (block_other (block_other h.r2 (by omega)) (by omega)))
  · rw [← hy]; exact (((h.b.setCell (p := ⟨w.heap.size + 1 + 1, 0, none⟩) (show w.heap.size ≤ w.heap.size + 1 + 1 by omega) _).setCell (p := ⟨w.heap.size + 1 + 1, 1, none⟩) (show w.heap.size ≤ w.heap.size + 1 + 1 by omega) _).setCell (p := ⟨w.heap.size + 1 + 1 + 1, 0, none⟩) (show w.heap.size ≤ w.heap.size + 1 + 1 + 1 by omega) _).setCell (p := ⟨w.heap.size + 1 + 1 + 1, 1, none⟩) (show w.heap.size ≤ w.heap.size + 1 + 1 + 1 by omega) _
end
/-- Reach. -/
def reN (N D d : Int) (b : List (Int × Int)) (gl gh nn : Int) : (Int × Int) × (Int × Int) × Int :=
  if alE N D d b gl gh nn [] = 0 then (lowN (endN false (b ++ List.replicate nn.toNat (gl, gh)) (efL N D d nn.toNat)) (powI d nn.toNat), lowN (endN true (b ++ List.replicate nn.toNat (gl, gh)) (efL N D d nn.toNat)) (powI d nn.toNat), 0) else ((0, 0), (0, 0), alE N D d b gl gh nn [])

set_option maxRecDepth 100000 in
set_option maxHeartbeats 2000000 in
theorem reachT_any (N D d gl gh nn : Int) (Ab : Option Addr) (nb cb B : Nat) (b : List (Int × Int)) (w : World) (hb : b.length = nb) (hnb : nb ≤ maxLen) (hB : B ≤ w.heap.size) (hr : RS w B Ab b) :
    Calls Try.prog 23 #[.agg #[.int .i64 N, .int .i64 D, .int .i64 d], .slice Ab nb cb, .agg #[.int .i64 gl, .int .i64 gh], .int .i64 nn] w fun e w' => e = .returned (.tuple #[.agg #[.int .i64 (reN N D d b gl gh nn).1.1, .int .i64 (reN N D d b gl gh nn).1.2], .agg #[.int .i64 (reN N D d b gl gh nn).2.1.1, .int .i64 (reN N D d b gl gh nn).2.1.2], .int .i64 (reN N D d b gl gh nn).2.2]) ∧ Below w.heap.size w w' := by
  have HA0 := Lib.hid (EW.start (N := N) (D := D) (d := d) (gl := gl) (gh := gh) (w := w))
  unfold reN
  by_cases h0 : alE N D d b gl gh nn [] = 0
  · rw [if_pos h0]
    obtain ⟨hs, hc, hv, hll, hsa⟩ := alE_zero h0
    have hnn : 0 ≤ nn ∧ nn ≤ 16 := by unfold saB at hsa; simp at hsa; exact hsa.1.2
    have hb2 : b.length = 2 := by unfold saB at hsa; simp at hsa; exact hsa.1.1.1
    have HAL := Lib.hid (fun (W : World) (hW : Below w.heap.size w W) => allow_ok N D d gl gh nn Ab none nb cb 0 0 W.heap.size b [] W hb hnb rfl (le_maxLen (by omega)) (Nat.le_refl _) (((hr.below (hW.mono hB)).more (Nat.le_trans hB hW.size))) (fun h => absurd h (by simp)) hs hc hv hll hsa)
    obtain ⟨m, rfl⟩ : ∃ m : Nat, nn = (m : Int) := ⟨nn.toNat, by omega⟩
    rw [Int.toNat_natCast]
    simp only [Int.toNat_natCast] at HAL
    have hm : m ≤ 16 := by omega
    obtain ⟨⟨d1, d2⟩, _, _⟩ := slB_get hs
    have hSB := sb_of hsa m
    have hlen : (b ++ List.replicate m (gl, gh)).length = m + 2 := by simp; omega
    have hpb := And.intro (powI_bd d1 d2 m).1 (Int.le_trans ((powI_bd d1 d2 m).2 hm) (powI_4 hm))
    have hE1 := end_bd hs hSB hlen hm false
    have hE2 := end_bd hs hSB hlen hm true
    have HEN1 := Lib.hid (fun (A : Option Addr) (c : Nat) (W : World) (h : RS W W.heap.size A (b ++ List.replicate m (gl, gh))) => end_any N D d A m (m + 2) c W.heap.size _ false W hs rfl hm hlen hSB (Nat.le_refl _) h)
    have HEN2 := Lib.hid (fun (A : Option Addr) (c : Nat) (W : World) (h : RS W W.heap.size A (b ++ List.replicate m (gl, gh))) => end_any N D d A m (m + 2) c W.heap.size _ true W hs rfl hm hlen hSB (Nat.le_refl _) h)
    generalize b ++ List.replicate m (gl, gh) = S at *
    generalize endN false S (efL N D d m) = el at *
    generalize endN true S (efL N D d m) = eh at *
    generalize powI d m = pw at *
    have HF1 := Lib.hid (fun (W : World) => fraction_any el pw W (by omega) (by omega) hpb.1 (by omega))
    have HF2 := Lib.hid (fun (W : World) => fraction_any eh pw W (by omega) (by omega) hpb.1 (by omega))
    generalize lowN el pw = la at *
    generalize lowN eh pw = lb at *
    obtain ⟨la0, la1⟩ := la
    obtain ⟨lb0, lb1⟩ := lb
    simp only at HF1 HF2 ⊢
    clear h0 hs hc hv hll hsa hnn hb2 hr hb hSB hlen hpb hE1 hE2 d1 d2
    go_enter Try.func23, Try.ntmps23
    go_upto_region 1 with (fail)
    generalize World.alloc _ _ = w1 at *
    have s0 := cellOf (o := 0) HA0.out.s rfl
    have s1 := cellOf (o := 1) HA0.out.s rfl
    have s2 := cellOf (o := 2) HA0.out.s rfl
    have g0 := cellOf (o := 0) HA0.out.g rfl
    have g1 := cellOf (o := 1) HA0.out.g rfl
    have l0 := lt_of_block HA0.out.s
    have l1 := lt_of_block HA0.out.g
    go_upto_region 4 with (go_at_call 63; refine Calls.mono (HAL.out _ HA0.out.b) ?_; rintro e w3 ⟨A, c, rfl, hcc, hq3, hb3⟩; have HA3 := Lib.hid ((HA0.out.next hb3).alloc (.cells #[.int .i64 N, .int .i64 D, .int .i64 d, .slice A (m + 2) c] 101)); have HQ3 := Lib.hid hq3; clear hb3 hq3 hcc s0 s1 s2 g0 g1 l0 l1)
    have bq := blk_new w3 (.cells #[.int .i64 N, .int .i64 D, .int .i64 d, .slice A (m + 2) c] 101) _ rfl
    have HQ4 := Lib.hid ((HQ3.out.below ((Below.refl w3.heap.size w3).alloc (Nat.le_refl _) (.cells #[.int .i64 N, .int .i64 D, .int .i64 d, .slice A (m + 2) c] 101))).more (by simp : w3.heap.size ≤ (w3.alloc (.cells #[.int .i64 N, .int .i64 D, .int .i64 d, .slice A (m + 2) c] 101)).heap.size))
    obtain ⟨q, hq⟩ : ∃ q, w3.heap.size = q := ⟨_, rfl⟩
    rw [hq] at bq ⊢
    clear hq
    generalize World.alloc w3 _ = w4 at *
    have k0 := cellOf (o := 0) bq rfl
    have k1 := cellOf (o := 1) bq rfl
    have k2 := cellOf (o := 2) bq rfl
    have k3 := cellOf (o := 3) bq rfl
    obtain ⟨Q, hQ⟩ : ∃ q9 : Nat → Value → World → Prop, q9 = QG [some (.agg #[.int .i64 N, .int .i64 D, .int .i64 d, .slice A (m + 2) c]), some (.tuple #[.int .i64 el, .int .i64 pw]), some (.int .i64 el), some (.int .i64 pw), some (.agg #[.int .i64 la0, .int .i64 la1]), some (.agg #[.int .i64 N, .int .i64 D, .int .i64 d, .slice A (m + 2) c]), some (.tuple #[.int .i64 eh, .int .i64 pw]), some (.int .i64 eh), some (.int .i64 pw), some (.agg #[.int .i64 lb0, .int .i64 lb1]), none, none, some (.int .i64 0)] (fun _ _ _ => True) := ⟨_, rfl⟩
    have hSt : Still Q := by rw [hQ]; exact QG.still
    have HQ := Lib.hid hQ
    clear hQ
    obtain ⟨fX1, hfX1⟩ : ∃ f9 : World → World, f9 = (fun y => ((y.setCell ⟨w.heap.size + 1 + 1, 0, none⟩ (.int .i64 la0)).setCell ⟨w.heap.size + 1 + 1, 1, none⟩ (.int .i64 la1))) := ⟨_, rfl⟩
    have HfX1 := Lib.hid hfX1
    clear hfX1
    obtain ⟨fX2, hfX2⟩ : ∃ f9 : World → World, f9 = (fun y => ((y.setCell ⟨w.heap.size + 1 + 1 + 1, 0, none⟩ (.int .i64 lb0)).setCell ⟨w.heap.size + 1 + 1 + 1, 1, none⟩ (.int .i64 lb1))) := ⟨_, rfl⟩
    have HfX2 := Lib.hid hfX2
    clear hfX2
    refine wpIn_wide.1 (region_inv2 (n := 9) (by kernel_rfl) (RT2 Q w4 10 11 fX1 fX2) (by kernel_rfl) rfl (RT2.start _ _ _ _ _ _ _) ?hstep ?hend)
    case hstep =>
      intro i' o ho val L b' x hF hR hpre hl
      match i', ho with
      | 0, ho =>
        simp at ho; subst ho; refine step_plain rfl ?_; have hN := hF.later hl 10 rfl (e := ⟨0, .phase⟩) (by simp) rfl rfl
        have hM0 := hR.2.1 hN
        have e11 := hF.was 11 (by kernel_rfl) rfl; have hgoal := RT2.go hR hSt HQ 0 rfl (by decide) hN; have q0 := cell_keep hM0 k0; have q1 := cell_keep hM0 k1; have q2 := cell_keep hM0 k2; have q3 := cell_keep hM0 k3; clear hF hpre hl hR hN hM0; go_simp; exact ⟨_, rfl, hgoal _ _ (Below.refl _ _) rfl⟩
      | 1, ho =>
        simp at ho; subst ho; refine step_plain rfl ?_; have hN := hF.later hl 10 rfl (e := ⟨1, .phase⟩) (by simp) rfl rfl
        have hM0 := hR.2.1 hN
        have e25 := hF.gv hR.1 HQ 0 rfl (hpre ⟨0, .data⟩ (by simp) rfl) rfl; have hgoal := RT2.go hR hSt HQ 1 rfl (by decide) hN
        have hM := Lib.hid hM0
        clear hF hpre hl hR hN hM0; go_simp
        refine ⟨trivial, ?_⟩
        refine CallsIn.mono (callsIn_wide.2 (HEN1.out A c _ ((HQ4.out.below hM.out).more hM.out.size))) ?_
        rintro e w9 ⟨rfl, hb9⟩
        exact ⟨_, rfl, hgoal _ _ hb9 rfl⟩
      | 2, ho =>
        simp at ho; subst ho; refine step_plain rfl ?_; have hN := hF.later hl 10 rfl (e := ⟨2, .phase⟩) (by simp) rfl rfl
        have hM0 := hR.2.1 hN
        have e26 := hF.gv hR.1 HQ 1 rfl (hpre ⟨1, .data⟩ (by simp) rfl) rfl; have hgoal := RT2.go hR hSt HQ 2 rfl (by decide) hN; clear hF hpre hl hR hN hM0; go_simp; exact ⟨_, rfl, hgoal _ _ (Below.refl _ _) rfl⟩
      | 3, ho =>
        simp at ho; subst ho; refine step_plain rfl ?_; have hN := hF.later hl 10 rfl (e := ⟨3, .phase⟩) (by simp) rfl rfl
        have hM0 := hR.2.1 hN
        have e26 := hF.gv hR.1 HQ 1 rfl (hpre ⟨1, .data⟩ (by simp) rfl) rfl; have hgoal := RT2.go hR hSt HQ 3 rfl (by decide) hN; clear hF hpre hl hR hN hM0; go_simp; exact ⟨_, rfl, hgoal _ _ (Below.refl _ _) rfl⟩
      | 4, ho =>
        simp at ho; subst ho; refine step_plain rfl ?_; have hN := hF.later hl 10 rfl (e := ⟨4, .phase⟩) (by simp) rfl rfl
        have hM0 := hR.2.1 hN
        have e27 := hF.gv hR.1 HQ 2 rfl (hpre ⟨2, .data⟩ (by simp) rfl) rfl; have e28 := hF.gv hR.1 HQ 3 rfl (hpre ⟨3, .data⟩ (by simp) rfl) rfl; have hgoal := RT2.go hR hSt HQ 4 rfl (by decide) hN
        have hM := Lib.hid hM0
        clear hF hpre hl hR hN hM0; go_simp
        refine ⟨trivial, ?_⟩
        refine CallsIn.mono (callsIn_wide.2 (HF1.out _)) ?_
        rintro e w9 ⟨rfl, hb9⟩
        exact ⟨_, rfl, hgoal _ _ hb9 rfl⟩
      | 5, ho =>
        simp at ho; subst ho; refine step_plain rfl ?_
        have hl6 := hF.later hl 6 rfl (e := ⟨5, .data⟩) (by simp) rfl rfl
        have hl7 := hF.back hl6 7 rfl (by decide) (e := ⟨6, .data⟩) (by simp) rfl rfl
        clear hl6
        have hl9 := hF.back hl7 9 rfl (by decide) (e := ⟨7, .data⟩) (by simp) rfl rfl
        clear hl7
        have hN := hF.back hl9 10 rfl (by decide) (e := ⟨9, .chain⟩) (by simp) rfl rfl
        clear hl9
        have hM0 := hR.2.1 hN
        have e11 := hF.was 11 (by kernel_rfl) rfl; have hgoal := RT2.go hR hSt HQ 5 rfl (by decide) hN; have q0 := cell_keep hM0 k0; have q1 := cell_keep hM0 k1; have q2 := cell_keep hM0 k2; have q3 := cell_keep hM0 k3; clear hF hpre hl hR hN hM0; go_simp; exact ⟨_, rfl, hgoal _ _ (Below.refl _ _) rfl⟩
      | 6, ho =>
        simp at ho; subst ho; refine step_plain rfl ?_
        have hl7 := hF.later hl 7 rfl (e := ⟨6, .data⟩) (by simp) rfl rfl
        have hl9 := hF.back hl7 9 rfl (by decide) (e := ⟨7, .data⟩) (by simp) rfl rfl
        clear hl7
        have hN := hF.back hl9 10 rfl (by decide) (e := ⟨9, .chain⟩) (by simp) rfl rfl
        clear hl9
        have hM0 := hR.2.1 hN
        have e30 := hF.gv hR.1 HQ 5 rfl (hpre ⟨5, .data⟩ (by simp) rfl) rfl; have hgoal := RT2.go hR hSt HQ 6 rfl (by decide) hN
        have hM := Lib.hid hM0
        clear hF hpre hl hR hN hM0; go_simp
        refine ⟨trivial, ?_⟩
        refine CallsIn.mono (callsIn_wide.2 (HEN2.out A c _ ((HQ4.out.below hM.out).more hM.out.size))) ?_
        rintro e w9 ⟨rfl, hb9⟩
        exact ⟨_, rfl, hgoal _ _ hb9 rfl⟩
      | 7, ho =>
        simp at ho; subst ho; refine step_plain rfl ?_
        have hl9 := hF.later hl 9 rfl (e := ⟨7, .data⟩) (by simp) rfl rfl
        have hN := hF.back hl9 10 rfl (by decide) (e := ⟨9, .chain⟩) (by simp) rfl rfl
        clear hl9
        have hM0 := hR.2.1 hN
        have e31 := hF.gv hR.1 HQ 6 rfl (hpre ⟨6, .data⟩ (by simp) rfl) rfl; have hgoal := RT2.go hR hSt HQ 7 rfl (by decide) hN; clear hF hpre hl hR hN hM0; go_simp; exact ⟨_, rfl, hgoal _ _ (Below.refl _ _) rfl⟩
      | 8, ho =>
        simp at ho; subst ho; refine step_plain rfl ?_
        have hl9 := hF.later hl 9 rfl (e := ⟨8, .data⟩) (by simp) rfl rfl
        have hN := hF.back hl9 10 rfl (by decide) (e := ⟨9, .chain⟩) (by simp) rfl rfl
        clear hl9
        have hM0 := hR.2.1 hN
        have e31 := hF.gv hR.1 HQ 6 rfl (hpre ⟨6, .data⟩ (by simp) rfl) rfl; have hgoal := RT2.go hR hSt HQ 8 rfl (by decide) hN; clear hF hpre hl hR hN hM0; go_simp; exact ⟨_, rfl, hgoal _ _ (Below.refl _ _) rfl⟩
      | 9, ho =>
        simp at ho; subst ho; refine step_plain rfl ?_; have hN := hF.later hl 10 rfl (e := ⟨9, .chain⟩) (by simp) rfl rfl
        have hM0 := hR.2.1 hN
        have e32 := hF.gv hR.1 HQ 7 rfl (hpre ⟨7, .data⟩ (by simp) rfl) rfl; have e33 := hF.gv hR.1 HQ 8 rfl (hpre ⟨8, .data⟩ (by simp) rfl) rfl; have hgoal := RT2.go hR hSt HQ 9 rfl (by decide) hN
        have hM := Lib.hid hM0
        clear hF hpre hl hR hN hM0; go_simp
        refine ⟨trivial, ?_⟩
        refine CallsIn.mono (callsIn_wide.2 (HF2.out _)) ?_
        rintro e w9 ⟨rfl, hb9⟩
        exact ⟨_, rfl, hgoal _ _ hb9 rfl⟩
      | 10, ho =>
        simp at ho; subst ho; refine step_plain rfl ?_; have e8 := hF.was 8 (by kernel_rfl) rfl; have e29 := hF.gv hR.1 HQ 4 rfl (hpre ⟨4, .data⟩ (by simp) rfl) rfl; have hN := hF.none2 hl (by decide)
        have hls : 10 < L.size := by rw [hF.lsize]; decide
        have hN2 := hF.later hl 11 rfl (e := ⟨10, .chain⟩) (by simp) rfl rfl
        have qb := ((hR.2.1 hN).block (w.heap.size + 1 + 1) (lt_of_block HA3.out.r1)).trans HA3.out.r1
        have g0 := cellOf (o := 0) qb rfl; have f0 := freeOf (o := 0) qb; have g1 := cellOf (o := 1) qb rfl; have f1 := freeOf (o := 1) qb; have hgoal := RT2.store1 (v := undef) hR hSt (QG.none HQ 10 rfl (fun _ _ => trivial) _ _) (by decide) hls hN hN2
        have hq := lt_of_block qb
        have HG := Lib.hid hgoal
        clear hF hpre hl hR hls hN hN2 qb hgoal; go_simp
        exact ⟨undef, by have h9 := HG.out; rw [HfX1.out] at h9 ⊢; exact h9⟩
      | 11, ho =>
        simp at ho; subst ho; refine step_plain rfl ?_; have e9 := hF.was 9 (by kernel_rfl) rfl; have e34 := hF.gv hR.1 HQ 9 rfl (hpre ⟨9, .data⟩ (by simp) rfl) rfl
        have hN2 := hF.none2 hl (by decide)
        have hls : 11 < L.size := by rw [hF.lsize]; decide
        have hl1 := hpre ⟨10, .chain⟩ (by simp) rfl
        obtain ⟨y, hy, ey⟩ := (hR.2.2 hl1).1 hN2
        rw [HfX1.out] at ey; dsimp only at ey
        have qb := (block_other (q := w.heap.size + 1 + 1 + 1) (g := w.heap.size + 1 + 1) (o := 1) (v := (.int .i64 la1)) (block_other (q := w.heap.size + 1 + 1 + 1) (g := w.heap.size + 1 + 1) (o := 0) (v := (.int .i64 la0)) ((hy.block (w.heap.size + 1 + 1 + 1) (lt_of_block HA3.out.r2)).trans HA3.out.r2) (by omega)) (by omega))
        rw [← ey] at qb
        clear hy ey
        have g0 := cellOf (o := 0) qb rfl; have f0 := freeOf (o := 0) qb; have g1 := cellOf (o := 1) qb rfl; have f1 := freeOf (o := 1) qb; have hgoal := RT2.store2 (v := undef) hR hSt (QG.none HQ 11 rfl (fun _ _ => trivial) _ _) (by decide) hls hl1 hN2
        have hq := lt_of_block qb
        have HG := Lib.hid hgoal
        clear hF hpre hl hR hls hl1 hN2 qb hgoal; go_simp
        exact ⟨undef, by have h9 := HG.out; rw [HfX2.out] at h9 ⊢; exact h9⟩
      | 12, ho =>
        simp at ho; subst ho; refine step_plain rfl ?_; have hgoal := RT2.goA hR hSt HQ 12 rfl (by decide) (by decide); clear hF hpre hl hR; go_simp; exact ⟨_, rfl, hgoal _ rfl⟩
      | i + 13, ho => simp at ho
    case hend =>
      intro val L b' x hF hall hR
      have e := hF.all (by kernel_rfl) hall
      obtain ⟨y, hy, ey⟩ := (hR.2.2 (hall 10 (by decide))).2 (hall 11 (by decide))
      rw [HfX1.out, HfX2.out] at ey; dsimp only at ey
      have k12 := QG.val HQ rfl (hR.1 12 (hall 12 (by decide)))
      have bk1 := (block_other (q := w.heap.size + 1 + 1) (g := w.heap.size + 1 + 1 + 1) (o := 1) (v := (.int .i64 lb1)) (block_other (q := w.heap.size + 1 + 1) (g := w.heap.size + 1 + 1 + 1) (o := 0) (v := (.int .i64 lb0)) (block_setCell (o := 1) (.int .i64 la1) (block_setCell (o := 0) (.int .i64 la0) ((hy.block (w.heap.size + 1 + 1) (lt_of_block HA3.out.r1)).trans HA3.out.r1))) (by omega)) (by omega))
      have bk2 := (block_setCell (o := 1) (.int .i64 lb1) (block_setCell (o := 0) (.int .i64 lb0) (block_other (q := w.heap.size + 1 + 1 + 1) (g := w.heap.size + 1 + 1) (o := 1) (v := (.int .i64 la1)) (block_other (q := w.heap.size + 1 + 1 + 1) (g := w.heap.size + 1 + 1) (o := 0) (v := (.int .i64 la0)) ((hy.block (w.heap.size + 1 + 1 + 1) (lt_of_block HA3.out.r2)).trans HA3.out.r2) (by omega)) (by omega))))
      rw [← ey] at bk1 bk2
      have hB := Lib.hid (show ∀ (B9 : Nat) (W9 : World), Below B9 W9 w4 → B9 ≤ w4.heap.size → B9 ≤ w.heap.size + 1 + 1 → B9 ≤ w.heap.size + 1 + 1 + 1 → Below B9 W9 x from fun B9 W9 h9 hB9 h1 h2 => by rw [ey]; exact (((((h9.trans (hy.mono hB9)).setCell (p := ⟨w.heap.size + 1 + 1, 0, none⟩) h1 (.int .i64 la0)).setCell (p := ⟨w.heap.size + 1 + 1, 1, none⟩) h1 (.int .i64 la1)).setCell (p := ⟨w.heap.size + 1 + 1 + 1, 0, none⟩) h2 (.int .i64 lb0)).setCell (p := ⟨w.heap.size + 1 + 1 + 1, 1, none⟩) h2 (.int .i64 lb1)))
      clear hF hall hR hSt HQ HfX1 HfX2 ey hy
      subst e
      simp [final, dstOf, List.range, List.range.loop]
      rw [k12]
      have HBF := Lib.hid (hB.out _ _ HA3.out.b HA3.out.b.size (by omega) (by omega))
      have d0 := cellOf (o := 0) bk1 rfl
      have d1 := cellOf (o := 1) bk1 rfl
      have d2 := cellOf (o := 0) bk2 rfl
      have d3 := cellOf (o := 1) bk2 rfl
      clear bk1 bk2 hB k0 k1 k2 k3 bq
      go_wp2
      exact bodyPost_ret (v := .tuple #[.agg #[.int .i64 la0, .int .i64 la1], .agg #[.int .i64 lb0, .int .i64 lb1], .int .i64 0]) (by simp [results, Try.results23, go_sem, d0, d1, d2, d3]) rfl ⟨rfl, HBF.out⟩
  · rw [if_neg h0]
    have HAL := Lib.hid (fun (W : World) (hW : Below w.heap.size w W) => allow_no N D d gl gh nn Ab none nb cb 0 0 W.heap.size b [] W hb hnb rfl (le_maxLen (by omega)) (Nat.le_refl _) (((hr.below (hW.mono hB)).more (Nat.le_trans hB hW.size))) (fun h => absurd h (by simp)) _ rfl h0)
    have h0' : (alE N D d b gl gh nn [] != 0) = true := by rw [bne_iff_ne]; exact h0
    generalize alE N D d b gl gh nn [] = E at *
    clear h0 hr hb
    go_enter Try.func23, Try.ntmps23
    go_upto_region 1 with (fail)
    generalize World.alloc _ _ = w1 at *
    have s0 := cellOf (o := 0) HA0.out.s rfl
    have s1 := cellOf (o := 1) HA0.out.s rfl
    have s2 := cellOf (o := 2) HA0.out.s rfl
    have g0 := cellOf (o := 0) HA0.out.g rfl
    have g1 := cellOf (o := 1) HA0.out.g rfl
    have l0 := lt_of_block HA0.out.s
    have l1 := lt_of_block HA0.out.g
    go_upto_region 3 with (go_at_call 63; refine Calls.mono (HAL.out _ HA0.out.b) ?_; rintro e w3 ⟨rfl, hb3⟩; have HA3 := Lib.hid ((HA0.out.next hb3).alloc (.cells #[.int .i64 0, .int .i64 0, .int .i64 0, .slice none 0 0] 101)); clear hb3 s0 s1 s2 g0 g1 l0 l1)
    generalize World.alloc w3 _ = w4 at *
    have k0 := cellOf (o := 0) HA3.out.r1 rfl
    have k1 := cellOf (o := 1) HA3.out.r1 rfl
    have k2 := cellOf (o := 0) HA3.out.r2 rfl
    have k3 := cellOf (o := 1) HA3.out.r2 rfl
    have f0 := freeOf (o := 0) HA3.out.r1
    have f1 := freeOf (o := 1) HA3.out.r1
    have f2 := freeOf (o := 0) HA3.out.r2
    have f3 := freeOf (o := 1) HA3.out.r2
    have l0 := lt_of_block HA3.out.r1
    have l1 := lt_of_block HA3.out.r2
    go_wp2
    have hput := HA3.out.put (.int .i64 0) (.int .i64 0) (.int .i64 0) (.int .i64 0) _ rfl
    clear k0 k1 k2 k3 f0 f1 f2 f3 l0 l1
    generalize (((World.setCell w4 _ _).setCell _ _).setCell _ _).setCell _ _ = w9 at *
    obtain ⟨bk1, bk2, hb9⟩ := hput
    have d0 := cellOf (o := 0) bk1 rfl
    have d1 := cellOf (o := 1) bk1 rfl
    have d2 := cellOf (o := 0) bk2 rfl
    have d3 := cellOf (o := 1) bk2 rfl
    exact bodyPost_ret (v := .tuple #[.agg #[.int .i64 0, .int .i64 0], .agg #[.int .i64 0, .int .i64 0], .int .i64 E]) (by simp [results, Try.results23, go_sem, d0, d1, d2, d3]) rfl ⟨rfl, hb9⟩
end Go.Proofs.Ytnnmmojlgikdgaa

/- Reach of the reference. -/
namespace Go.Proofs.Ytnnmmojlgikdgaa
open Go.RowKit

set_option maxRecDepth 100000 in
set_option maxHeartbeats 2000000 in
theorem rreachT_any (N D d gl gh nn : Int) (Ab : Option Addr) (nb cb B : Nat) (b : List (Int × Int)) (w : World) (hb : b.length = nb) (hnb : nb ≤ maxLen) (hB : B ≤ w.heap.size) (hr : RS w B Ab b) :
    Calls Try.prog 24 #[.agg #[.int .i64 N, .int .i64 D, .int .i64 d], .slice Ab nb cb, .agg #[.int .i64 gl, .int .i64 gh], .int .i64 nn] w fun e w' => e = .returned (.tuple #[.agg #[.int .i64 (reN N D d b gl gh nn).1.1, .int .i64 (reN N D d b gl gh nn).1.2], .agg #[.int .i64 (reN N D d b gl gh nn).2.1.1, .int .i64 (reN N D d b gl gh nn).2.1.2], .int .i64 (reN N D d b gl gh nn).2.2]) ∧ Below w.heap.size w w' := by
  have HA0 := Lib.hid (EW.start (N := N) (D := D) (d := d) (gl := gl) (gh := gh) (w := w))
  have HCS := Lib.hid (fun (W : World) (hW : Below w.heap.size w W) => checkSets_any N D d gl gh nn Ab nb cb w.heap.size b W hb hnb hW.size ((hr.more hB).below hW))
  unfold reN
  by_cases h0 : alE N D d b gl gh nn [] = 0
  · rw [if_pos h0]
    rw [h0] at HCS
    obtain ⟨hs, hc, hv, hll, hsa⟩ := alE_zero h0
    have hnn : 0 ≤ nn ∧ nn ≤ 16 := by unfold saB at hsa; simp at hsa; exact hsa.1.2
    have hb2 : b.length = 2 := by unfold saB at hsa; simp at hsa; exact hsa.1.1.1
    obtain ⟨m, rfl⟩ : ∃ m : Nat, nn = (m : Int) := ⟨nn.toNat, by omega⟩
    rw [Int.toNat_natCast]
    have hm : m ≤ 16 := by omega
    obtain ⟨⟨d1, d2⟩, _, _⟩ := slB_get hs
    have hSB := sb_of hsa m
    have hlen : (b ++ List.replicate m (gl, gh)).length = m + 2 := by simp; omega
    have hpb := And.intro (powI_bd d1 d2 m).1 (Int.le_trans ((powI_bd d1 d2 m).2 hm) (powI_4 hm))
    have hE1 := end_bd hs hSB hlen hm false
    have hE2 := end_bd hs hSB hlen hm true
    have HEN := fun (high : Bool) (W : World) (hW : Below w.heap.size w W) => rends7_any N D d gl gh Ab nb cb m w.heap.size b high W hs hm hb (hb.symm.trans hb2) hSB hW.size ((hr.more hB).below hW)
    have HEN1 := Lib.hid (fun (W : World) (hW : Below w.heap.size w W) => HEN false W hW)
    have HEN2 := Lib.hid (fun (W : World) (hW : Below w.heap.size w W) => HEN true W hW)
    have HPW := Lib.hid (fun (W : World) => power_any d m W d1 d2 hm)
    clear HEN
    generalize b ++ List.replicate m (gl, gh) = S at *
    generalize endN false S (efL N D d m) = el at *
    generalize endN true S (efL N D d m) = eh at *
    generalize powI d m = pw at *
    have HF1 := Lib.hid (fun (W : World) => rlowest7_any el pw W (by omega) (by omega) hpb.1 (by omega))
    have HF2 := Lib.hid (fun (W : World) => rlowest7_any eh pw W (by omega) (by omega) hpb.1 (by omega))
    generalize lowN el pw = la at *
    generalize lowN eh pw = lb at *
    obtain ⟨la0, la1⟩ := la
    obtain ⟨lb0, lb1⟩ := lb
    simp only at HF1 HF2 ⊢
    clear h0 hs hc hv hll hsa hnn hb2 hr hb hSB hlen hpb hE1 hE2 d1 d2
    go_enter Try.func24, Try.ntmps24
    go_upto_region 1 with (fail)
    generalize World.alloc _ _ = w1 at *
    have s0 := cellOf (o := 0) HA0.out.s rfl
    have s1 := cellOf (o := 1) HA0.out.s rfl
    have s2 := cellOf (o := 2) HA0.out.s rfl
    have g0 := cellOf (o := 0) HA0.out.g rfl
    have g1 := cellOf (o := 1) HA0.out.g rfl
    have l0 := lt_of_block HA0.out.s
    have l1 := lt_of_block HA0.out.g
    go_upto_region 7 with (first
      | (go_at_call 40; refine Calls.mono (HCS.out _ HA0.out.b) ?_; rintro e w2 ⟨rfl, hb2⟩; have HA2 := Lib.hid (HA0.out.next hb2); clear hb2 s0 s1 s2 g0 g1 l0 l1; have s0 := cellOf (o := 0) HA2.out.s rfl; have s1 := cellOf (o := 1) HA2.out.s rfl; have s2 := cellOf (o := 2) HA2.out.s rfl; have g0 := cellOf (o := 0) HA2.out.g rfl; have g1 := cellOf (o := 1) HA2.out.g rfl; have l0 := lt_of_block HA2.out.s; have l1 := lt_of_block HA2.out.g)
      | (go_at_call_of 66 (Value.bool false); refine Calls.mono (HEN1.out _ HA2.out.b) ?_; rintro e w3 ⟨u3, rfl, hq3, hb3⟩; have HA3 := Lib.hid (HA2.out.next hb3); clear hq3 hb3 s0 s1 s2 g0 g1 l0 l1; have s0 := cellOf (o := 0) HA3.out.s rfl; have s1 := cellOf (o := 1) HA3.out.s rfl; have s2 := cellOf (o := 2) HA3.out.s rfl; have g0 := cellOf (o := 0) HA3.out.g rfl; have g1 := cellOf (o := 1) HA3.out.g rfl; have l0 := lt_of_block HA3.out.s; have l1 := lt_of_block HA3.out.g)
      | (go_at_call_of 66 (Value.bool true); refine Calls.mono (HEN2.out _ HA3.out.b) ?_; rintro e w4 ⟨u4, rfl, hq4, hb4⟩; have HA4 := Lib.hid (HA3.out.next hb4); clear hq4 hb4 s0 s1 s2 g0 g1 l0 l1; have s0 := cellOf (o := 0) HA4.out.s rfl; have s1 := cellOf (o := 1) HA4.out.s rfl; have s2 := cellOf (o := 2) HA4.out.s rfl; have g0 := cellOf (o := 0) HA4.out.g rfl; have g1 := cellOf (o := 1) HA4.out.g rfl; have l0 := lt_of_block HA4.out.s; have l1 := lt_of_block HA4.out.g)
      | (go_at_call 58; refine Calls.mono (HPW.out _) ?_; rintro e w5 ⟨rfl, rfl⟩))
    clear s0 s1 s2 g0 g1 l0 l1
    go_wp2_with (first
      | (go_at_call_of 57 (Value.int .i64 el); refine Calls.mono (HF1.out _) ?_; rintro e w6 ⟨rfl, hb6⟩; have HA6 := Lib.hid (HA4.out.next hb6); clear hb6)
      | (go_at_call 57; refine Calls.mono (HF2.out _) ?_; rintro e w7 ⟨rfl, hb7⟩; have HA7 := Lib.hid (HA6.out.next hb7); clear hb7; have k0 := cellOf (o := 0) HA7.out.r1 rfl; have k1 := cellOf (o := 1) HA7.out.r1 rfl; have k2 := cellOf (o := 0) HA7.out.r2 rfl; have k3 := cellOf (o := 1) HA7.out.r2 rfl; have f0 := freeOf (o := 0) HA7.out.r1; have f1 := freeOf (o := 1) HA7.out.r1; have f2 := freeOf (o := 0) HA7.out.r2; have f3 := freeOf (o := 1) HA7.out.r2; have m0 := lt_of_block HA7.out.r1; have m1 := lt_of_block HA7.out.r2))
    have hput := HA7.out.put (.int .i64 la0) (.int .i64 la1) (.int .i64 lb0) (.int .i64 lb1) _ rfl
    clear k0 k1 k2 k3 f0 f1 f2 f3 m0 m1
    generalize (((World.setCell w7 _ _).setCell _ _).setCell _ _).setCell _ _ = w9 at *
    obtain ⟨bk1, bk2, hb9⟩ := hput
    have d0 := cellOf (o := 0) bk1 rfl
    have d1 := cellOf (o := 1) bk1 rfl
    have d2 := cellOf (o := 0) bk2 rfl
    have d3 := cellOf (o := 1) bk2 rfl
    exact bodyPost_ret (v := .tuple #[.agg #[.int .i64 la0, .int .i64 la1], .agg #[.int .i64 lb0, .int .i64 lb1], .int .i64 0]) (by simp [results, Try.results24, go_sem, d0, d1, d2, d3]) rfl ⟨rfl, hb9⟩
  · rw [if_neg h0]
    have h0' : (alE N D d b gl gh nn [] != 0) = true := by rw [bne_iff_ne]; exact h0
    generalize alE N D d b gl gh nn [] = E at *
    clear h0 hr hb
    go_enter Try.func24, Try.ntmps24
    go_upto_region 1 with (fail)
    generalize World.alloc _ _ = w1 at *
    have s0 := cellOf (o := 0) HA0.out.s rfl
    have s1 := cellOf (o := 1) HA0.out.s rfl
    have s2 := cellOf (o := 2) HA0.out.s rfl
    have g0 := cellOf (o := 0) HA0.out.g rfl
    have g1 := cellOf (o := 1) HA0.out.g rfl
    have l0 := lt_of_block HA0.out.s
    have l1 := lt_of_block HA0.out.g
    go_upto_region 3 with (go_at_call 40; refine Calls.mono (HCS.out _ HA0.out.b) ?_; rintro e w4 ⟨rfl, hb2⟩; have HA3 := Lib.hid (HA0.out.next hb2); clear hb2 s0 s1 s2 g0 g1 l0 l1)
    have k0 := cellOf (o := 0) HA3.out.r1 rfl
    have k1 := cellOf (o := 1) HA3.out.r1 rfl
    have k2 := cellOf (o := 0) HA3.out.r2 rfl
    have k3 := cellOf (o := 1) HA3.out.r2 rfl
    have f0 := freeOf (o := 0) HA3.out.r1
    have f1 := freeOf (o := 1) HA3.out.r1
    have f2 := freeOf (o := 0) HA3.out.r2
    have f3 := freeOf (o := 1) HA3.out.r2
    have m0 := lt_of_block HA3.out.r1
    have m1 := lt_of_block HA3.out.r2
    go_wp2
    have hput := HA3.out.put (.int .i64 0) (.int .i64 0) (.int .i64 0) (.int .i64 0) _ rfl
    clear k0 k1 k2 k3 f0 f1 f2 f3 m0 m1
    generalize (((World.setCell w4 _ _).setCell _ _).setCell _ _).setCell _ _ = w9 at *
    obtain ⟨bk1, bk2, hb9⟩ := hput
    have d0 := cellOf (o := 0) bk1 rfl
    have d1 := cellOf (o := 1) bk1 rfl
    have d2 := cellOf (o := 0) bk2 rfl
    have d3 := cellOf (o := 1) bk2 rfl
    exact bodyPost_ret (v := .tuple #[.agg #[.int .i64 0, .int .i64 0], .agg #[.int .i64 0, .int .i64 0], .int .i64 E]) (by simp [results, Try.results24, go_sem, d0, d1, d2, d3]) rfl ⟨rfl, hb9⟩
end Go.Proofs.Ytnnmmojlgikdgaa

/- A drawn region with one store into a box that was there; its reads come before; what touches no memory comes whenever. -/
namespace Go.Proofs.Ytnnmmojlgikdgaa
open Go.RowKit

def RT1 (Q : Nat → Value → World → Prop) (W0 : World) (s : Nat) (f : World → World) (val : Nat → Value) (L : Array Bool) (W : World) : Prop :=
  (∀ j, L.getD j false = true → Q j (val j) W) ∧ (L.getD s false = false → Below W0.heap.size W0 W) ∧ (L.getD s false = true → ∃ y, Below W0.heap.size W0 y ∧ W = f y)
section
variable {Q : Nat → Value → World → Prop} {W0 W W' : World} {s i : Nat} {f : World → World} {v : Value} {val : Nat → Value} {L : Array Bool}
theorem RT1.start (Q : Nat → Value → World → Prop) (W0 : World) (s : Nat) (f : World → World) (n : Nat) : RT1 Q W0 s f (fun _ => undef) (Array.replicate n false) W0.drew :=
  ⟨fun j h => (by rw [getD_replicate_no] at h; cases h), fun _ => (Below.refl _ _).drew, fun h => (by rw [getD_replicate_no] at h; cases h)⟩
theorem RT1.vals (h : RT1 Q W0 s f val L W) (hQ : Still Q) (hq : Q i v W') : ∀ j, (L.setIfInBounds i true).getD j false = true → Q j (upd val i v j) W' := fun j hj => by
  by_cases e : j = i
  · subst e; rw [upd_same]; exact hq
  · rw [upd_other e]
    rw [getD_set_other (fun h => e h.symm)] at hj
    exact hQ _ _ _ _ (h.1 j hj)
theorem RT1.step (h : RT1 Q W0 s f val L W) (hQ : Still Q) (hb : Below W.heap.size W W') (hq : Q i v W') (hs : i ≠ s) (hN : L.getD s false = false) : RT1 Q W0 s f (upd val i v) (L.setIfInBounds i true) W' := by
  refine ⟨h.vals hQ hq, fun _ => (h.2.1 hN).trans (hb.mono (h.2.1 hN).size), fun hl => ?_⟩
  rw [getD_set_other hs, hN] at hl; cases hl
theorem RT1.store (h : RT1 Q W0 s f val L W) (hQ : Still Q) (hq : Q s v (f W)) (hls : s < L.size) (hN : L.getD s false = false) : RT1 Q W0 s f (upd val s v) (L.setIfInBounds s true) (f W) := by
  refine ⟨h.vals hQ hq, fun hl => ?_, fun _ => ⟨W, h.2.1 hN, rfl⟩⟩
  rw [getD_set_eq hls] at hl; cases hl
theorem RT1.aft (h : RT1 Q W0 s f val L W) (hQ : Still Q) (hq : Q i v W) (h1 : i ≠ s) : RT1 Q W0 s f (upd val i v) (L.setIfInBounds i true) W := by
  refine ⟨h.vals hQ hq, fun hl => h.2.1 (by rw [getD_set_other h1] at hl; exact hl), fun hl => ?_⟩
  rw [getD_set_other h1] at hl
  exact h.2.2 hl
variable {vals : List (Option Value)} {ex : Nat → Value → World → Prop}
theorem RT1.go (h : RT1 Q W0 s f val L W) (hQ : Still Q) (HQ : Hid (Q = QG vals ex)) (i : Nat) {x : Value} (hx : vals[i]? = some (some x)) (hs : i ≠ s) (hN : L.getD s false = false) : ∀ v W', Below W.heap.size W W' → v = x → RT1 Q W0 s f (upd val i v) (L.setIfInBounds i true) W' :=
  fun _ _ hb e => h.step hQ hb (QG.put HQ hx e) hs hN
theorem RT1.goA (h : RT1 Q W0 s f val L W) (hQ : Still Q) (HQ : Hid (Q = QG vals ex)) (i : Nat) {x : Value} (hx : vals[i]? = some (some x)) (h1 : i ≠ s) : ∀ v, v = x → RT1 Q W0 s f (upd val i v) (L.setIfInBounds i true) W :=
  fun _ e => h.aft hQ (QG.put HQ hx e) h1
end
end Go.Proofs.Ytnnmmojlgikdgaa

/- Witness of sling. -/
namespace Go.Proofs.Ytnnmmojlgikdgaa
open Go.RowKit

/-- The boxes of Witness. -/
structure FW (N D d gl gh : Int) (w W : World) : Prop where
  s : W.heap[w.heap.size]? = some (.cells #[.int .i64 N, .int .i64 D, .int .i64 d] 23 (0, 0))
  g : W.heap[w.heap.size + 1]? = some (.cells #[.int .i64 gl, .int .i64 gh] 27 (0, 0))
  r1 : W.heap[w.heap.size + 1 + 1]? = some (.cells #[.int .i64 0, .int .i64 0] 24 (0, 0))
  b : Below w.heap.size w W
section
variable {N D d gl gh : Int} {w W W' : World}
theorem FW.next (h : FW N D d gl gh w W) (hb : Below W.heap.size W W') : FW N D d gl gh w W' :=
  ⟨(hb.block _ (lt_of_block h.s)).trans h.s, (hb.block _ (lt_of_block h.g)).trans h.g, (hb.block _ (lt_of_block h.r1)).trans h.r1, h.b.trans (hb.mono h.b.size)⟩
theorem FW.alloc (h : FW N D d gl gh w W) (o : Obj) : FW N D d gl gh w (W.alloc o) := h.next ((Below.refl _ _).alloc (Nat.le_refl _) _)
theorem FW.start : FW N D d gl gh w (((w.alloc (.cells #[.int .i64 N, .int .i64 D, .int .i64 d] 23)).alloc (.cells #[.int .i64 gl, .int .i64 gh] 27)).alloc (.cells #[.int .i64 0, .int .i64 0] 24)) :=
  ⟨blk_old _ (blk_old _ (blk_new _ _ _ rfl)), blk_old _ (blk_new _ _ _ (by simp)), blk_new _ _ _ (by simp), by go_grown⟩
theorem FW.put (h : FW N D d gl gh w W) (a b : Value) : ∀ y, (W.setCell ⟨w.heap.size + 1 + 1, 0, none⟩ a).setCell ⟨w.heap.size + 1 + 1, 1, none⟩ b = y →
    y.heap[w.heap.size + 1 + 1]? = some (.cells #[a, b] 24 (0, 0)) ∧ Below w.heap.size w y := fun y hy => by
  refine ⟨?_, ?_⟩
  · rw [← hy]; exact block_setCell (o := 1) b (block_setCell (o := 0) a h.r1)
  · rw [← hy]; exact (h.b.setCell (p := ⟨w.heap.size + 1 + 1, 0, none⟩) (show w.heap.size ≤ w.heap.size + 1 + 1 by omega) _).setCell (p := ⟨w.heap.size + 1 + 1, 1, none⟩) (show w.heap.size ≤ w.heap.size + 1 + 1 by omega) _
end
/-- The rest of a row. -/
theorem RI.drop2 {W W' : World} {B B' : Nat} {bb off : Nat} {x0 x1 : Int} {l : List Int} (h : RI W B (some ⟨bb, off, none⟩) (x0 :: x1 :: l)) (hk : ∀ o v, 2 ≤ o → W.cell? ⟨bb, o, none⟩ = some v → W'.cell? ⟨bb, o, none⟩ = some v) (hB : B ≤ B') : RI W' B' (some ⟨bb, off + 2, none⟩) l := fun _ => by
  obtain ⟨b9, o9, e, hb, hc⟩ := h (by simp)
  cases e
  refine ⟨bb, off + 2, rfl, Nat.lt_of_lt_of_le hb hB, fun j u hu => ?_⟩
  have := hk _ _ (by omega) (hc (j + 2) u (by simpa using hu))
  rw [show off + 2 + j = off + (j + 2) by omega]
  exact this
/-- Witness. -/
def wiN (N D d : Int) (b : List (Int × Int)) (gl gh nn : Int) (high : Bool) : (Int × Int) × List Int × Int :=
  if alE N D d b gl gh nn [] = 0 then ((gz (witL high (b ++ List.replicate nn.toNat (gl, gh)) (efL N D d nn.toNat)) 0, gz (witL high (b ++ List.replicate nn.toNat (gl, gh)) (efL N D d nn.toNat)) 1), (witL high (b ++ List.replicate nn.toNat (gl, gh)) (efL N D d nn.toNat)).drop 2, 0) else ((0, 0), [], alE N D d b gl gh nn [])
def GivesWi (w : World) (r : (Int × Int) × List Int × Int) (e : Ending) (w' : World) : Prop := ∃ u, e = .returned (.tuple #[.agg #[.int .i64 r.1.1, .int .i64 r.1.2], u, .int .i64 r.2.2]) ∧ QI r.2.1 u w' ∧ Below w.heap.size w w'

set_option maxRecDepth 100000 in
set_option maxHeartbeats 2000000 in
theorem witnessT_any (N D d gl gh nn : Int) (high : Bool) (Ab : Option Addr) (nb cb B : Nat) (b : List (Int × Int)) (w : World) (hb : b.length = nb) (hnb : nb ≤ maxLen) (hB : B ≤ w.heap.size) (hr : RS w B Ab b) :
    Calls Try.prog 25 #[.agg #[.int .i64 N, .int .i64 D, .int .i64 d], .slice Ab nb cb, .agg #[.int .i64 gl, .int .i64 gh], .int .i64 nn, .bool high] w (GivesWi w (wiN N D d b gl gh nn high)) := by
  have HA0 := Lib.hid (FW.start (N := N) (D := D) (d := d) (gl := gl) (gh := gh) (w := w))
  unfold GivesWi wiN
  by_cases h0 : alE N D d b gl gh nn [] = 0
  · rw [if_pos h0]
    obtain ⟨hs, hc, hv, hll, hsa⟩ := alE_zero h0
    have hnn : 0 ≤ nn ∧ nn ≤ 16 := by unfold saB at hsa; simp at hsa; exact hsa.1.2
    have hb2 : b.length = 2 := by unfold saB at hsa; simp at hsa; exact hsa.1.1.1
    have HAL := Lib.hid (fun (W : World) (hW : Below w.heap.size w W) => allow_ok N D d gl gh nn Ab none nb cb 0 0 W.heap.size b [] W hb hnb rfl (le_maxLen (by omega)) (Nat.le_refl _) (((hr.below (hW.mono hB)).more (Nat.le_trans hB hW.size))) (fun h => absurd h (by simp)) hs hc hv hll hsa)
    obtain ⟨m, rfl⟩ : ∃ m : Nat, nn = (m : Int) := ⟨nn.toNat, by omega⟩
    rw [Int.toNat_natCast]
    simp only [Int.toNat_natCast] at HAL
    have hm : m ≤ 16 := by omega
    have hlen : (b ++ List.replicate m (gl, gh)).length = m + 2 := by simp; omega
    have HWI := Lib.hid (fun (A : Option Addr) (c : Nat) (W : World) (h : RS W W.heap.size A (b ++ List.replicate m (gl, gh))) => witness_any N D d A m (m + 2) c W.heap.size _ high W hs rfl hm hlen (Nat.le_refl _) h)
    have hxl : (witL high (b ++ List.replicate m (gl, gh)) (efL N D d m)).length = m + 2 := by rw [witL_len high (by rw [efL_len]; exact hlen)]; exact hlen
    generalize witL high (b ++ List.replicate m (gl, gh)) (efL N D d m) = X at *
    obtain ⟨x0, x1, l, rfl⟩ : ∃ x0 x1 l, X = x0 :: x1 :: l := by
      match X, hxl with
      | x0 :: x1 :: l, _ => exact ⟨x0, x1, l, rfl⟩
    have hll9 : l.length = m := by simpa using hxl
    generalize b ++ List.replicate m (gl, gh) = S at *
    clear h0 hs hc hv hll hsa hnn hb2 hr hb hlen hxl
    show Calls _ _ _ _ (fun e w' => ∃ u, e = .returned (.tuple #[.agg #[.int .i64 x0, .int .i64 x1], u, .int .i64 0]) ∧ QI l u w' ∧ Below w.heap.size w w')
    go_enter Try.func25, Try.ntmps25
    go_upto_region 1 with (fail)
    generalize World.alloc _ _ = w1 at *
    have s0 := cellOf (o := 0) HA0.out.s rfl
    have s1 := cellOf (o := 1) HA0.out.s rfl
    have s2 := cellOf (o := 2) HA0.out.s rfl
    have g0 := cellOf (o := 0) HA0.out.g rfl
    have g1 := cellOf (o := 1) HA0.out.g rfl
    have l0 := lt_of_block HA0.out.s
    have l1 := lt_of_block HA0.out.g
    go_upto_region 4 with (go_at_call 63; refine Calls.mono (HAL.out _ HA0.out.b) ?_; rintro e w3 ⟨A, c, rfl, hcc, hq3, hb3⟩; have HA3 := Lib.hid ((HA0.out.next hb3).alloc (.cells #[.int .i64 N, .int .i64 D, .int .i64 d, .slice A (m + 2) c] 101)); have HQ3 := Lib.hid hq3; clear hb3 hq3 hcc s0 s1 s2 g0 g1 l0 l1)
    have bq := blk_new w3 (.cells #[.int .i64 N, .int .i64 D, .int .i64 d, .slice A (m + 2) c] 101) _ rfl
    have HQ4 := Lib.hid ((HQ3.out.below ((Below.refl w3.heap.size w3).alloc (Nat.le_refl _) (.cells #[.int .i64 N, .int .i64 D, .int .i64 d, .slice A (m + 2) c] 101))).more (by simp : w3.heap.size ≤ (w3.alloc (.cells #[.int .i64 N, .int .i64 D, .int .i64 d, .slice A (m + 2) c] 101)).heap.size))
    obtain ⟨q, hq⟩ : ∃ q, w3.heap.size = q := ⟨_, rfl⟩
    rw [hq] at bq ⊢
    clear hq
    generalize World.alloc w3 _ = w4 at *
    have k0 := cellOf (o := 0) bq rfl
    have k1 := cellOf (o := 1) bq rfl
    have k2 := cellOf (o := 2) bq rfl
    have k3 := cellOf (o := 3) bq rfl
    have lq := lt_of_block bq
    go_upto_region 5 with (go_at_call 67; refine Calls.mono (HWI.out A c _ HQ4.out) ?_; rintro e w5 ⟨u5, rfl, hq5, hb5⟩; have HA5 := Lib.hid (HA3.out.next hb5); clear hb5 k0 k1 k2 k3 lq bq; obtain ⟨A9, c9, rfl, hc9, hr9⟩ := hq5)
    obtain ⟨bb, off, rfl, hbb, hcell⟩ := hr9 (by simp)
    have p0 := hcell 0 (.int .i64 x0) rfl
    have p1 := hcell 1 (.int .i64 x1) rfl
    rw [Nat.add_zero] at p0
    have hr5 : RI w5 w5.heap.size (some ⟨bb, off, none⟩) (x0 :: x1 :: l) := fun _ => ⟨bb, off, rfl, hbb, hcell⟩
    have HR5 := Lib.hid hr5
    have HLL := Lib.hid hll9
    simp only [List.length_cons] at hc9
    rw [hll9] at hc9
    have lb : bb < w5.heap.size := hbb
    have hc9i : (2 : Int) ≤ (c9 : Int) := by omega
    clear hcell hbb hr5 hll9
    obtain ⟨A2, hA2⟩ : ∃ A2 : Option Addr, (if c9 = 2 then some ⟨bb, off, none⟩ else some ⟨bb, off + 2, none⟩) = A2 := ⟨_, rfl⟩
    have hm2i : (2 : Int) ≤ (m : Int) + 1 + 1 := by omega
    have HA2 := Lib.hid hA2
    clear hA2
    obtain ⟨Q, hQ⟩ : ∃ q9 : Nat → Value → World → Prop, q9 = QG [some (.slice (some ⟨bb, off, none⟩) (m + 1 + 1) c9), some (.slice (some ⟨bb, off, none⟩) 2 c9), some (.pointer (some ⟨bb, off, none⟩)), some (.agg #[.int .i64 x0, .int .i64 x1]), some (.slice (some ⟨bb, off, none⟩) (m + 1 + 1) c9), some (.slice A2 m (c9 - 2)), none, some (.slice A2 m (c9 - 2)), some (.int .i64 0)] (fun _ _ _ => True) := ⟨_, rfl⟩
    have hSt : Still Q := by rw [hQ]; exact QG.still
    have HQ := Lib.hid hQ
    clear hQ
    obtain ⟨fX, hfX⟩ : ∃ f9 : World → World, f9 = (fun y => ((y.setCell ⟨w.heap.size + 1 + 1, 0, none⟩ (.int .i64 x0)).setCell ⟨w.heap.size + 1 + 1, 1, none⟩ (.int .i64 x1))) := ⟨_, rfl⟩
    have HfX := Lib.hid hfX
    clear hfX
    refine wpIn_wide.1 (region_inv2 (n := 9) (by kernel_rfl) (RT1 Q w5 6 fX) (by kernel_rfl) rfl (RT1.start _ _ _ _ _) ?hstep ?hend)
    case hstep =>
      intro i' o ho val L b' x hF hR hpre hl
      match i', ho with
      | 0, ho =>
        simp at ho; subst ho; refine step_plain rfl ?_; have e14 := hF.was 14 (by kernel_rfl) rfl; have hgoal := RT1.goA hR hSt HQ 0 rfl (by decide); clear hF hpre hl hR; go_simp; exact ⟨_, rfl, hgoal _ rfl⟩
      | 1, ho =>
        simp at ho; subst ho; refine step_plain rfl ?_; have e30 := hF.gv hR.1 HQ 0 rfl (hpre ⟨0, .data⟩ (by simp) rfl) rfl; have hgoal := RT1.goA hR hSt HQ 1 rfl (by decide); clear hF hpre hl hR; go_simp; exact ⟨_, rfl, hgoal _ (by simp)⟩
      | 2, ho =>
        simp at ho; subst ho; refine step_plain rfl ?_; have e31 := hF.gv hR.1 HQ 1 rfl (hpre ⟨1, .data⟩ (by simp) rfl) rfl; have hgoal := RT1.goA hR hSt HQ 2 rfl (by decide); clear hF hpre hl hR; go_simp; exact ⟨_, rfl, hgoal _ rfl⟩
      | 3, ho =>
        simp at ho; subst ho; refine step_plain rfl ?_; have hN := hF.later hl 6 rfl (e := ⟨3, .data⟩) (by simp) rfl rfl
        have hM0 := hR.2.1 hN
        have e32 := hF.gv hR.1 HQ 2 rfl (hpre ⟨2, .data⟩ (by simp) rfl) rfl; have hgoal := RT1.go hR hSt HQ 3 rfl (by decide) hN; have q0 := cell_keep hM0 p0; have q1 := cell_keep hM0 p1; clear hF hpre hl hR hN hM0; go_simp; exact ⟨_, rfl, hgoal _ _ (Below.refl _ _) rfl⟩
      | 4, ho =>
        simp at ho; subst ho; refine step_plain rfl ?_; have e14 := hF.was 14 (by kernel_rfl) rfl; have hgoal := RT1.goA hR hSt HQ 4 rfl (by decide); clear hF hpre hl hR; go_simp; exact ⟨_, rfl, hgoal _ rfl⟩
      | 5, ho =>
        simp at ho; subst ho; refine step_plain rfl ?_; have e34 := hF.gv hR.1 HQ 4 rfl (hpre ⟨4, .data⟩ (by simp) rfl) rfl; have hgoal := RT1.goA hR hSt HQ 5 rfl (by decide); clear hF hpre hl hR; go_simp; exact ⟨_, rfl, hgoal _ (by rw [← HA2.out])⟩
      | 6, ho =>
        simp at ho; subst ho; refine step_plain rfl ?_; have e10 := hF.was 10 (by kernel_rfl) rfl; have e33 := hF.gv hR.1 HQ 3 rfl (hpre ⟨3, .data⟩ (by simp) rfl) rfl; have hN := hF.none2 hl (by decide)
        have hls : 6 < L.size := by rw [hF.lsize]; decide
        have qb := ((hR.2.1 hN).block (w.heap.size + 1 + 1) (lt_of_block HA5.out.r1)).trans HA5.out.r1
        have g0 := cellOf (o := 0) qb rfl; have f0 := freeOf (o := 0) qb; have g1 := cellOf (o := 1) qb rfl; have f1 := freeOf (o := 1) qb; have hgoal := RT1.store (v := undef) hR hSt (QG.none HQ 6 rfl (fun _ _ => trivial) _ _) hls hN
        have hq := lt_of_block qb
        have HG := Lib.hid hgoal
        clear hF hpre hl hR hls hN qb hgoal; go_simp
        exact ⟨undef, by have h9 := HG.out; rw [HfX.out] at h9 ⊢; exact h9⟩
      | 7, ho =>
        simp at ho; subst ho; refine step_plain rfl ?_; have e35 := hF.gv hR.1 HQ 5 rfl (hpre ⟨5, .data⟩ (by simp) rfl) rfl; have hgoal := RT1.goA hR hSt HQ 7 rfl (by decide); clear hF hpre hl hR; go_simp; exact ⟨_, rfl, hgoal _ rfl⟩
      | 8, ho =>
        simp at ho; subst ho; refine step_plain rfl ?_; have hgoal := RT1.goA hR hSt HQ 8 rfl (by decide); clear hF hpre hl hR; go_simp; exact ⟨_, rfl, hgoal _ rfl⟩
      | i + 9, ho => simp at ho
    case hend =>
      intro val L b' x hF hall hR
      have e := hF.all (by kernel_rfl) hall
      obtain ⟨y, hy, ey⟩ := hR.2.2 (hall 6 (by decide))
      rw [HfX.out] at ey; dsimp only at ey
      have k7 := QG.val HQ rfl (hR.1 7 (hall 7 (by decide)))
      have k8 := QG.val HQ rfl (hR.1 8 (hall 8 (by decide)))
      have bk := (block_setCell (o := 1) (.int .i64 x1) (block_setCell (o := 0) (.int .i64 x0) ((hy.block (w.heap.size + 1 + 1) (lt_of_block HA5.out.r1)).trans HA5.out.r1)))
      rw [← ey] at bk
      have hB := Lib.hid (show ∀ (B9 : Nat) (W9 : World), Below B9 W9 w5 → B9 ≤ w5.heap.size → B9 ≤ w.heap.size + 1 + 1 → Below B9 W9 x from fun B9 W9 h9 hB9 h1 => by rw [ey]; exact (((h9.trans (hy.mono hB9)).setCell (p := ⟨w.heap.size + 1 + 1, 0, none⟩) h1 (.int .i64 x0)).setCell (p := ⟨w.heap.size + 1 + 1, 1, none⟩) h1 (.int .i64 x1)))
      have hX : ∀ o v, 2 ≤ o → w5.cell? ⟨bb, o, none⟩ = some v → x.cell? ⟨bb, o, none⟩ = some v := fun o v ho h => by
        rw [ey, World.cell?_setCell_other (a := ⟨w.heap.size + 1 + 1, 1, none⟩) (b := ⟨bb, o, none⟩) _ _ (by intro e; have := congrArg (·.off) e; simp at this; omega), World.cell?_setCell_other (a := ⟨w.heap.size + 1 + 1, 0, none⟩) (b := ⟨bb, o, none⟩) _ _ (by intro e; have := congrArg (·.off) e; simp at this; omega)]
        exact cell_keep hy h
      have HX := Lib.hid hX
      clear hX
      clear hF hall hR hSt HQ HfX ey hy
      subst e
      simp [final, dstOf, List.range, List.range.loop]
      rw [k7]
      rw [k8]
      have HBF := Lib.hid (hB.out _ _ HA5.out.b HA5.out.b.size (by omega))
      have d0 := cellOf (o := 0) bk rfl
      have d1 := cellOf (o := 1) bk rfl
      clear bk
      have hri : RI x x.heap.size A2 l := by
        intro hp
        have hc2 : ¬ c9 = 2 := by have : 0 < l.length := by simpa using hp
                                  have := HLL.out; omega
        rw [← HA2.out, if_neg hc2]
        exact RI.drop2 HR5.out HX.out (hB.out w.heap.size w5 (Below.refl _ _ |>.mono HA5.out.b.size) HA5.out.b.size (by omega)).size hp
      have HRI := Lib.hid hri
      clear hri hB p0 p1
      go_wp2
      exact bodyPost_ret (v := .tuple #[.agg #[.int .i64 x0, .int .i64 x1], .slice A2 m (c9 - 2), .int .i64 0]) (by simp [results, Try.results25, go_sem, d0, d1]) rfl ⟨_, rfl, ⟨A2, c9 - 2, by rw [HLL.out], by rw [HLL.out]; omega, HRI.out⟩, HBF.out⟩
  · rw [if_neg h0]
    have HAL := Lib.hid (fun (W : World) (hW : Below w.heap.size w W) => allow_no N D d gl gh nn Ab none nb cb 0 0 W.heap.size b [] W hb hnb rfl (le_maxLen (by omega)) (Nat.le_refl _) (((hr.below (hW.mono hB)).more (Nat.le_trans hB hW.size))) (fun h => absurd h (by simp)) _ rfl h0)
    have h0' : (alE N D d b gl gh nn [] != 0) = true := by rw [bne_iff_ne]; exact h0
    generalize alE N D d b gl gh nn [] = E at *
    clear h0 hr hb
    show Calls _ _ _ _ (fun e w' => ∃ u, e = .returned (.tuple #[.agg #[.int .i64 0, .int .i64 0], u, .int .i64 E]) ∧ QI [] u w' ∧ Below w.heap.size w w')
    go_enter Try.func25, Try.ntmps25
    go_upto_region 1 with (fail)
    generalize World.alloc _ _ = w1 at *
    have s0 := cellOf (o := 0) HA0.out.s rfl
    have s1 := cellOf (o := 1) HA0.out.s rfl
    have s2 := cellOf (o := 2) HA0.out.s rfl
    have g0 := cellOf (o := 0) HA0.out.g rfl
    have g1 := cellOf (o := 1) HA0.out.g rfl
    have l0 := lt_of_block HA0.out.s
    have l1 := lt_of_block HA0.out.g
    go_upto_region 3 with (go_at_call 63; refine Calls.mono (HAL.out _ HA0.out.b) ?_; rintro e w3 ⟨rfl, hb3⟩; have HA3 := Lib.hid ((HA0.out.next hb3).alloc (.cells #[.int .i64 0, .int .i64 0, .int .i64 0, .slice none 0 0] 101)); clear hb3 s0 s1 s2 g0 g1 l0 l1)
    generalize World.alloc w3 _ = w4 at *
    have k0 := cellOf (o := 0) HA3.out.r1 rfl
    have k1 := cellOf (o := 1) HA3.out.r1 rfl
    have f0 := freeOf (o := 0) HA3.out.r1
    have f1 := freeOf (o := 1) HA3.out.r1
    have l0 := lt_of_block HA3.out.r1
    go_wp2
    have hput := HA3.out.put (.int .i64 0) (.int .i64 0) _ rfl
    clear k0 k1 f0 f1 l0
    generalize (World.setCell w4 _ _).setCell _ _ = w9 at *
    obtain ⟨bk1, hb9⟩ := hput
    have d0 := cellOf (o := 0) bk1 rfl
    have d1 := cellOf (o := 1) bk1 rfl
    exact bodyPost_ret (v := .tuple #[.agg #[.int .i64 0, .int .i64 0], .slice none 0 0, .int .i64 E]) (by simp [results, Try.results25, go_sem, d0, d1]) rfl ⟨_, rfl, QI.nil, hb9⟩
end Go.Proofs.Ytnnmmojlgikdgaa

/- Witness of the reference. -/
namespace Go.Proofs.Ytnnmmojlgikdgaa
open Go.RowKit

set_option maxRecDepth 100000 in
set_option maxHeartbeats 2000000 in
theorem rwitnessT_any (N D d gl gh nn : Int) (high : Bool) (Ab : Option Addr) (nb cb B : Nat) (b : List (Int × Int)) (w : World) (hb : b.length = nb) (hnb : nb ≤ maxLen) (hB : B ≤ w.heap.size) (hr : RS w B Ab b) :
    Calls Try.prog 26 #[.agg #[.int .i64 N, .int .i64 D, .int .i64 d], .slice Ab nb cb, .agg #[.int .i64 gl, .int .i64 gh], .int .i64 nn, .bool high] w (GivesWi w (wiN N D d b gl gh nn high)) := by
  have HA0 := Lib.hid (FW.start (N := N) (D := D) (d := d) (gl := gl) (gh := gh) (w := w))
  have HCS := Lib.hid (fun (W : World) (hW : Below w.heap.size w W) => checkSets_any N D d gl gh nn Ab nb cb w.heap.size b W hb hnb hW.size ((hr.more hB).below hW))
  unfold GivesWi wiN
  by_cases h0 : alE N D d b gl gh nn [] = 0
  · rw [if_pos h0]
    rw [h0] at HCS
    obtain ⟨hs, hc, hv, hll, hsa⟩ := alE_zero h0
    have hnn : 0 ≤ nn ∧ nn ≤ 16 := by unfold saB at hsa; simp at hsa; exact hsa.1.2
    have hb2 : b.length = 2 := by unfold saB at hsa; simp at hsa; exact hsa.1.1.1
    obtain ⟨m, rfl⟩ : ∃ m : Nat, nn = (m : Int) := ⟨nn.toNat, by omega⟩
    rw [Int.toNat_natCast]
    have hm : m ≤ 16 := by omega
    have hlen : (b ++ List.replicate m (gl, gh)).length = m + 2 := by simp; omega
    have hSB := sb_of hsa m
    have HEN := Lib.hid (fun (W : World) (hW : Below w.heap.size w W) => rends7_any N D d gl gh Ab nb cb m w.heap.size b high W hs hm hb (hb.symm.trans hb2) hSB hW.size ((hr.more hB).below hW))
    have hxl : (witL high (b ++ List.replicate m (gl, gh)) (efL N D d m)).length = m + 2 := by rw [witL_len high (by rw [efL_len]; exact hlen)]; exact hlen
    generalize witL high (b ++ List.replicate m (gl, gh)) (efL N D d m) = X at *
    obtain ⟨x0, x1, l, rfl⟩ : ∃ x0 x1 l, X = x0 :: x1 :: l := by
      match X, hxl with
      | x0 :: x1 :: l, _ => exact ⟨x0, x1, l, rfl⟩
    have hll9 : l.length = m := by simpa using hxl
    generalize endN high (b ++ List.replicate m (gl, gh)) (efL N D d m) = en at *
    clear h0 hs hc hv hll hsa hnn hb2 hr hb hlen hxl hSB
    show Calls _ _ _ _ (fun e w' => ∃ u, e = .returned (.tuple #[.agg #[.int .i64 x0, .int .i64 x1], u, .int .i64 0]) ∧ QI l u w' ∧ Below w.heap.size w w')
    go_enter Try.func26, Try.ntmps26
    go_upto_region 1 with (fail)
    generalize World.alloc _ _ = w1 at *
    have s0 := cellOf (o := 0) HA0.out.s rfl
    have s1 := cellOf (o := 1) HA0.out.s rfl
    have s2 := cellOf (o := 2) HA0.out.s rfl
    have g0 := cellOf (o := 0) HA0.out.g rfl
    have g1 := cellOf (o := 1) HA0.out.g rfl
    have l0 := lt_of_block HA0.out.s
    have l1 := lt_of_block HA0.out.g
    go_upto_region 5 with (first
      | (go_at_call 40; refine Calls.mono (HCS.out _ HA0.out.b) ?_; rintro e w3 ⟨rfl, hb3⟩; have HA3 := Lib.hid (HA0.out.next hb3); clear hb3 s0 s1 s2 g0 g1 l0 l1; have s0 := cellOf (o := 0) HA3.out.s rfl; have s1 := cellOf (o := 1) HA3.out.s rfl; have s2 := cellOf (o := 2) HA3.out.s rfl; have g0 := cellOf (o := 0) HA3.out.g rfl; have g1 := cellOf (o := 1) HA3.out.g rfl; have l0 := lt_of_block HA3.out.s; have l1 := lt_of_block HA3.out.g)
      | (go_at_call 66; refine Calls.mono (HEN.out _ HA3.out.b) ?_; rintro e w5 ⟨u5, rfl, hq5, hb5⟩; have HA5 := Lib.hid (HA3.out.next hb5); clear hb5 s0 s1 s2 g0 g1 l0 l1; obtain ⟨A9, c9, rfl, hc9, hr9⟩ := hq5))
    obtain ⟨bb, off, rfl, hbb, hcell⟩ := hr9 (by simp)
    have p0 := hcell 0 (.int .i64 x0) rfl
    have p1 := hcell 1 (.int .i64 x1) rfl
    rw [Nat.add_zero] at p0
    have hr5 : RI w5 w5.heap.size (some ⟨bb, off, none⟩) (x0 :: x1 :: l) := fun _ => ⟨bb, off, rfl, hbb, hcell⟩
    have HR5 := Lib.hid hr5
    have HLL := Lib.hid hll9
    simp only [List.length_cons] at hc9
    rw [hll9] at hc9
    have lb : bb < w5.heap.size := hbb
    have hc9i : (2 : Int) ≤ (c9 : Int) := by omega
    clear hcell hbb hr5 hll9
    obtain ⟨A2, hA2⟩ : ∃ A2 : Option Addr, (if c9 = 2 then some ⟨bb, off, none⟩ else some ⟨bb, off + 2, none⟩) = A2 := ⟨_, rfl⟩
    have hm2i : (2 : Int) ≤ (m : Int) + 1 + 1 := by omega
    have hm0i : (0 : Int) < (m : Int) + 1 + 1 := by omega
    have hm1i : (1 : Int) < (m : Int) + 1 + 1 := by omega
    have HA2 := Lib.hid hA2
    clear hA2
    obtain ⟨Q, hQ⟩ : ∃ q9 : Nat → Value → World → Prop, q9 = QG [some (.slice (some ⟨bb, off, none⟩) (m + 1 + 1) c9), some (.pointer (some ⟨bb, off, none⟩)), some (.int .i64 x0), some (.slice (some ⟨bb, off, none⟩) (m + 1 + 1) c9), some (.pointer (some ⟨bb, off + 1, none⟩)), some (.int .i64 x1), some (.agg #[.int .i64 x0, .int .i64 x1]), some (.slice (some ⟨bb, off, none⟩) (m + 1 + 1) c9), some (.slice A2 m (c9 - 2)), none, some (.slice A2 m (c9 - 2)), some (.int .i64 0)] (fun _ _ _ => True) := ⟨_, rfl⟩
    have hSt : Still Q := by rw [hQ]; exact QG.still
    have HQ := Lib.hid hQ
    clear hQ
    obtain ⟨fX, hfX⟩ : ∃ f9 : World → World, f9 = (fun y => ((y.setCell ⟨w.heap.size + 1 + 1, 0, none⟩ (.int .i64 x0)).setCell ⟨w.heap.size + 1 + 1, 1, none⟩ (.int .i64 x1))) := ⟨_, rfl⟩
    have HfX := Lib.hid hfX
    clear hfX
    refine wpIn_wide.1 (region_inv2 (n := 9) (by kernel_rfl) (RT1 Q w5 9 fX) (by kernel_rfl) rfl (RT1.start _ _ _ _ _) ?hstep ?hend)
    case hstep =>
      intro i' o ho val L b' x hF hR hpre hl
      match i', ho with
      | 0, ho =>
        simp at ho; subst ho; refine step_plain rfl ?_; have e14 := hF.was 14 (by kernel_rfl) rfl; have hgoal := RT1.goA hR hSt HQ 0 rfl (by decide); clear hF hpre hl hR; go_simp; exact ⟨_, rfl, hgoal _ rfl⟩
      | 1, ho =>
        simp at ho; subst ho; refine step_plain rfl ?_; have e34 := hF.gv hR.1 HQ 0 rfl (hpre ⟨0, .data⟩ (by simp) rfl) rfl; have hgoal := RT1.goA hR hSt HQ 1 rfl (by decide); clear hF hpre hl hR; go_simp; exact ⟨_, rfl, hgoal _ rfl⟩
      | 2, ho =>
        simp at ho; subst ho; refine step_plain rfl ?_
        have hl6 := hF.later hl 6 rfl (e := ⟨2, .data⟩) (by simp) rfl rfl
        have hN := hF.back hl6 9 rfl (by decide) (e := ⟨6, .data⟩) (by simp) rfl rfl
        clear hl6
        have hM0 := hR.2.1 hN
        have e35 := hF.gv hR.1 HQ 1 rfl (hpre ⟨1, .data⟩ (by simp) rfl) rfl; have hgoal := RT1.go hR hSt HQ 2 rfl (by decide) hN; have q0 := cell_keep hM0 p0; clear hF hpre hl hR hN hM0; go_simp; exact ⟨_, rfl, hgoal _ _ (Below.refl _ _) rfl⟩
      | 3, ho =>
        simp at ho; subst ho; refine step_plain rfl ?_; have e14 := hF.was 14 (by kernel_rfl) rfl; have hgoal := RT1.goA hR hSt HQ 3 rfl (by decide); clear hF hpre hl hR; go_simp; exact ⟨_, rfl, hgoal _ rfl⟩
      | 4, ho =>
        simp at ho; subst ho; refine step_plain rfl ?_; have e37 := hF.gv hR.1 HQ 3 rfl (hpre ⟨3, .data⟩ (by simp) rfl) rfl; have hgoal := RT1.goA hR hSt HQ 4 rfl (by decide); clear hF hpre hl hR; go_simp; exact ⟨_, rfl, hgoal _ rfl⟩
      | 5, ho =>
        simp at ho; subst ho; refine step_plain rfl ?_
        have hl6 := hF.later hl 6 rfl (e := ⟨5, .data⟩) (by simp) rfl rfl
        have hN := hF.back hl6 9 rfl (by decide) (e := ⟨6, .data⟩) (by simp) rfl rfl
        clear hl6
        have hM0 := hR.2.1 hN
        have e38 := hF.gv hR.1 HQ 4 rfl (hpre ⟨4, .data⟩ (by simp) rfl) rfl; have hgoal := RT1.go hR hSt HQ 5 rfl (by decide) hN; have q0 := cell_keep hM0 p1; clear hF hpre hl hR hN hM0; go_simp; exact ⟨_, rfl, hgoal _ _ (Below.refl _ _) rfl⟩
      | 6, ho =>
        simp at ho; subst ho; refine step_plain rfl ?_; have e36 := hF.gv hR.1 HQ 2 rfl (hpre ⟨2, .data⟩ (by simp) rfl) rfl; have e39 := hF.gv hR.1 HQ 5 rfl (hpre ⟨5, .data⟩ (by simp) rfl) rfl; have hgoal := RT1.goA hR hSt HQ 6 rfl (by decide); clear hF hpre hl hR; go_simp; exact ⟨_, rfl, hgoal _ rfl⟩
      | 7, ho =>
        simp at ho; subst ho; refine step_plain rfl ?_; have e14 := hF.was 14 (by kernel_rfl) rfl; have hgoal := RT1.goA hR hSt HQ 7 rfl (by decide); clear hF hpre hl hR; go_simp; exact ⟨_, rfl, hgoal _ rfl⟩
      | 8, ho =>
        simp at ho; subst ho; refine step_plain rfl ?_; have e41 := hF.gv hR.1 HQ 7 rfl (hpre ⟨7, .data⟩ (by simp) rfl) rfl; have hgoal := RT1.goA hR hSt HQ 8 rfl (by decide); clear hF hpre hl hR; go_simp; exact ⟨_, rfl, hgoal _ (by rw [← HA2.out])⟩
      | 9, ho =>
        simp at ho; subst ho; refine step_plain rfl ?_; have e10 := hF.was 10 (by kernel_rfl) rfl; have e40 := hF.gv hR.1 HQ 6 rfl (hpre ⟨6, .data⟩ (by simp) rfl) rfl; have hN := hF.none2 hl (by decide)
        have hls : 9 < L.size := by rw [hF.lsize]; decide
        have qb := ((hR.2.1 hN).block (w.heap.size + 1 + 1) (lt_of_block HA5.out.r1)).trans HA5.out.r1
        have g0 := cellOf (o := 0) qb rfl; have f0 := freeOf (o := 0) qb; have g1 := cellOf (o := 1) qb rfl; have f1 := freeOf (o := 1) qb; have hgoal := RT1.store (v := undef) hR hSt (QG.none HQ 9 rfl (fun _ _ => trivial) _ _) hls hN
        have hq := lt_of_block qb
        have HG := Lib.hid hgoal
        clear hF hpre hl hR hls hN qb hgoal; go_simp
        exact ⟨undef, by have h9 := HG.out; rw [HfX.out] at h9 ⊢; exact h9⟩
      | 10, ho =>
        simp at ho; subst ho; refine step_plain rfl ?_; have e42 := hF.gv hR.1 HQ 8 rfl (hpre ⟨8, .data⟩ (by simp) rfl) rfl; have hgoal := RT1.goA hR hSt HQ 10 rfl (by decide); clear hF hpre hl hR; go_simp; exact ⟨_, rfl, hgoal _ rfl⟩
      | 11, ho =>
        simp at ho; subst ho; refine step_plain rfl ?_; have hgoal := RT1.goA hR hSt HQ 11 rfl (by decide); clear hF hpre hl hR; go_simp; exact ⟨_, rfl, hgoal _ rfl⟩
      | i + 12, ho => simp at ho
    case hend =>
      intro val L b' x hF hall hR
      have e := hF.all (by kernel_rfl) hall
      obtain ⟨y, hy, ey⟩ := hR.2.2 (hall 9 (by decide))
      rw [HfX.out] at ey; dsimp only at ey
      have k10 := QG.val HQ rfl (hR.1 10 (hall 10 (by decide)))
      have k11 := QG.val HQ rfl (hR.1 11 (hall 11 (by decide)))
      have bk := (block_setCell (o := 1) (.int .i64 x1) (block_setCell (o := 0) (.int .i64 x0) ((hy.block (w.heap.size + 1 + 1) (lt_of_block HA5.out.r1)).trans HA5.out.r1)))
      rw [← ey] at bk
      have hB := Lib.hid (show ∀ (B9 : Nat) (W9 : World), Below B9 W9 w5 → B9 ≤ w5.heap.size → B9 ≤ w.heap.size + 1 + 1 → Below B9 W9 x from fun B9 W9 h9 hB9 h1 => by rw [ey]; exact (((h9.trans (hy.mono hB9)).setCell (p := ⟨w.heap.size + 1 + 1, 0, none⟩) h1 (.int .i64 x0)).setCell (p := ⟨w.heap.size + 1 + 1, 1, none⟩) h1 (.int .i64 x1)))
      have hX : ∀ o v, 2 ≤ o → w5.cell? ⟨bb, o, none⟩ = some v → x.cell? ⟨bb, o, none⟩ = some v := fun o v ho h => by
        rw [ey, World.cell?_setCell_other (a := ⟨w.heap.size + 1 + 1, 1, none⟩) (b := ⟨bb, o, none⟩) _ _ (by intro e; have := congrArg (·.off) e; simp at this; omega), World.cell?_setCell_other (a := ⟨w.heap.size + 1 + 1, 0, none⟩) (b := ⟨bb, o, none⟩) _ _ (by intro e; have := congrArg (·.off) e; simp at this; omega)]
        exact cell_keep hy h
      have HX := Lib.hid hX
      clear hX
      clear hF hall hR hSt HQ HfX ey hy
      subst e
      simp [final, dstOf, List.range, List.range.loop]
      rw [k10]
      rw [k11]
      have HBF := Lib.hid (hB.out _ _ HA5.out.b HA5.out.b.size (by omega))
      have d0 := cellOf (o := 0) bk rfl
      have d1 := cellOf (o := 1) bk rfl
      clear bk
      have hri : RI x x.heap.size A2 l := by
        intro hp
        have hc2 : ¬ c9 = 2 := by have : 0 < l.length := by simpa using hp
                                  have := HLL.out; omega
        rw [← HA2.out, if_neg hc2]
        exact RI.drop2 HR5.out HX.out (hB.out w.heap.size w5 (Below.refl _ _ |>.mono HA5.out.b.size) HA5.out.b.size (by omega)).size hp
      have HRI := Lib.hid hri
      clear hri hB p0 p1
      go_wp2
      exact bodyPost_ret (v := .tuple #[.agg #[.int .i64 x0, .int .i64 x1], .slice A2 m (c9 - 2), .int .i64 0]) (by simp [results, Try.results26, go_sem, d0, d1]) rfl ⟨_, rfl, ⟨A2, c9 - 2, by rw [HLL.out], by rw [HLL.out]; omega, HRI.out⟩, HBF.out⟩
  · rw [if_neg h0]
    have h0' : (alE N D d b gl gh nn [] != 0) = true := by rw [bne_iff_ne]; exact h0
    generalize alE N D d b gl gh nn [] = E at *
    clear h0 hr hb
    show Calls _ _ _ _ (fun e w' => ∃ u, e = .returned (.tuple #[.agg #[.int .i64 0, .int .i64 0], u, .int .i64 E]) ∧ QI [] u w' ∧ Below w.heap.size w w')
    go_enter Try.func26, Try.ntmps26
    go_upto_region 1 with (fail)
    generalize World.alloc _ _ = w1 at *
    have s0 := cellOf (o := 0) HA0.out.s rfl
    have s1 := cellOf (o := 1) HA0.out.s rfl
    have s2 := cellOf (o := 2) HA0.out.s rfl
    have g0 := cellOf (o := 0) HA0.out.g rfl
    have g1 := cellOf (o := 1) HA0.out.g rfl
    have l0 := lt_of_block HA0.out.s
    have l1 := lt_of_block HA0.out.g
    go_upto_region 3 with (go_at_call 40; refine Calls.mono (HCS.out _ HA0.out.b) ?_; rintro e w4 ⟨rfl, hb3⟩; have HA3 := Lib.hid (HA0.out.next hb3); clear hb3 s0 s1 s2 g0 g1 l0 l1)
    have k0 := cellOf (o := 0) HA3.out.r1 rfl
    have k1 := cellOf (o := 1) HA3.out.r1 rfl
    have f0 := freeOf (o := 0) HA3.out.r1
    have f1 := freeOf (o := 1) HA3.out.r1
    have l0 := lt_of_block HA3.out.r1
    go_wp2
    have hput := HA3.out.put (.int .i64 0) (.int .i64 0) _ rfl
    clear k0 k1 f0 f1 l0
    generalize (World.setCell w4 _ _).setCell _ _ = w9 at *
    obtain ⟨bk1, hb9⟩ := hput
    have d0 := cellOf (o := 0) bk1 rfl
    have d1 := cellOf (o := 1) bk1 rfl
    exact bodyPost_ret (v := .tuple #[.agg #[.int .i64 0, .int .i64 0], .slice none 0 0, .int .i64 E]) (by simp [results, Try.results26, go_sem, d0, d1]) rfl ⟨_, rfl, QI.nil, hb9⟩
end Go.Proofs.Ytnnmmojlgikdgaa

/- sameInts of layer 7. -/
namespace Go.Proofs.Ytnnmmojlgikdgaa
open Go.RowKit

theorem jtake_same {xs ys : List Int} {k : Nat} {x y : Int} (hx : xs[k]? = some x) (hy : ys[k]? = some y) (h : xs.take k = ys.take k) (e : x = y) : xs.take (k + 1) = ys.take (k + 1) := by
  rw [List.take_add_one, List.take_add_one, hx, hy, h, e]

set_option maxRecDepth 100000 in
theorem jsame_any (A A' : Option Addr) (n c n' c' B B' : Nat) (xs ys : List Int) (w : World) (hx : xs.length = n) (hy : ys.length = n') (hn : n ≤ maxLen) (hn' : n' ≤ maxLen) (hB : B ≤ w.heap.size) (hB' : B' ≤ w.heap.size) (h : RI w B A xs) (h' : RI w B' A' ys) :
    Calls Try.prog 27 #[.slice A n c, .slice A' n' c'] w fun e w' => e = .returned (.bool (decide (xs = ys))) ∧ Below w.heap.size w w' := by
  by_cases hl : n = n'
  · obtain rfl := hl
    unfold maxLen at hn
    have HL := Lib.hid (And.intro hx hy)
    have hxl : xs.length = n := hx
    clear hx hy
    go_enter Try.func27, Try.ntmps27
    go_wp2
    go_loopw [5] (fun i wr => ∃ k : Nat, k ≤ n ∧ i = .int .i64 k ∧ xs.take k = ys.take k ∧ Below w.heap.size w wr) (fun i _ => n - (intOf i).toNat)
    case atStart => exact ⟨0, Nat.zero_le _, rfl, rfl, by go_grown⟩
    case round =>
      obtain ⟨k, hk, rfl, hw, hbw⟩ := hrel
      have HW := Lib.hid hw
      have HBW := Lib.hid hbw
      have hj := (h.more hB).below hbw
      have hj' := (h'.more hB').below hbw
      clear hw hbw
      by_cases hlt : k < n
      · obtain ⟨b, off, x, rfl, hb, hx, hc⟩ := hj.at_ (k := k) (by rw [HL.out.1]; exact hlt)
        obtain ⟨b', off', y, rfl, hb', hy, hc'⟩ := hj'.at_ (k := k) (by rw [HL.out.2]; exact hlt)
        have HX := Lib.hid (And.intro hx hy)
        have i1 : (0 : Int) ≤ (k : Int) := by omega
        have i2 : (k : Int) < n := by omega
        clear hx hy hj hj' hxl
        by_cases g : x = y
        · have g' : ((x : Int) != y) = false := by simpa using g
          have G := Lib.hid g
          clear g
          go_wp2
          go_quiet (fail)
          go_wp2
          go_roundw
          case rel => exact ⟨k + 1, by omega, by go_num, jtake_same HX.out.1 HX.out.2 HW.out G.out, by first | exact below_drewN HBW.out _ | exact HBW.out⟩
          case measure => simp [intOf]; omega
        · have g' : ((x : Int) != y) = true := by simpa using g
          have HN := Lib.hid (show decide (xs = ys) = false by rw [decide_eq_false_iff_not]; rintro rfl; have := HX.out.1.symm.trans HX.out.2; simp at this; exact g this)
          clear g
          go_wp2
          go_quiet (fail)
          go_wp2
          go_ret
          exact ⟨ret_bool HN.out.symm, by first | exact below_drewN HBW.out _ | exact HBW.out⟩
      · have HN := Lib.hid (show decide (xs = ys) = true by
          have e := HW.out
          rw [List.take_of_length_le (by rw [HL.out.1]; omega), List.take_of_length_le (by rw [HL.out.2]; omega)] at e
          simpa using e)
        clear hxl
        go_wp2
        go_ret
        exact ⟨ret_bool HN.out.symm, HBW.out⟩
  · have HN := Lib.hid (show decide (xs = ys) = false by rw [decide_eq_false_iff_not]; rintro rfl; exact hl (hx.symm.trans hy))
    have hne : ((n : Int) != n') = true := by rw [bne_iff_ne]; omega
    clear hx hy hl
    go_enter Try.func27, Try.ntmps27
    go_wp2
    go_ret
    exact ⟨ret_bool HN.out.symm, by go_grown⟩
theorem jsame_yes (A A' : Option Addr) (n c c' B B' : Nat) (xs : List Int) (w : World) (hx : xs.length = n) (hn : n ≤ maxLen) (hB : B ≤ w.heap.size) (hB' : B' ≤ w.heap.size) (h : RI w B A xs) (h' : RI w B' A' xs) :
    Calls Try.prog 27 #[.slice A n c, .slice A' n c'] w fun e w' => e = .returned (.bool true) ∧ Below w.heap.size w w' := by
  have := jsame_any A A' n c n c' B B' xs xs w hx hx hn hn hB hB' h h'
  simpa using this
theorem jsame_QI (l : List Int) (u u' : Value) (w : World) (hl : l.length ≤ maxLen) (h : QI l u w) (h' : QI l u' w) :
    Calls Try.prog 27 #[u, u'] w fun e w' => e = .returned (.bool true) ∧ Below w.heap.size w w' := by
  obtain ⟨A, c, rfl, _, h1⟩ := h
  obtain ⟨A', c', rfl, _, h2⟩ := h'
  exact jsame_yes A A' l.length c c' w.heap.size w.heap.size l w rfl hl (Nat.le_refl _) (Nat.le_refl _) h1 h2
end Go.Proofs.Ytnnmmojlgikdgaa

/- The law of Reach and Witness. -/
namespace Go.Proofs.Ytnnmmojlgikdgaa
open Go.RowKit

theorem wiN_len (N D d : Int) (b : List (Int × Int)) (gl gh nn : Int) (high : Bool) : (wiN N D d b gl gh nn high).2.1.length ≤ maxLen := by
  unfold wiN
  split
  · rename_i h
    obtain ⟨_, _, _, _, hsa⟩ := alE_zero h
    have hnn : 0 ≤ nn ∧ nn ≤ 16 := by unfold saB at hsa; simp at hsa; exact hsa.1.2
    refine le_maxLen ?_
    show ((witL high _ (efL N D d nn.toNat)).drop 2).length ≤ 1000000
    unfold witL
    rw [List.length_drop, List.length_zipWith, efL_len]
    omega
  · exact le_maxLen (by simp)

set_option maxRecDepth 100000 in
set_option maxHeartbeats 2000000 in
theorem law_reaches (wk : WK7) (w : World) (N D d : Int) (A : Option Addr) (n c : Nat) (gl gh lo hi m : Int) (b : List (Int × Int)) (hl : b.length = n) (hn : n ≤ maxLen) (hr : RS w w.heap.size A b) :
    Calls Try.prog 4 #[.agg #[.int .i64 N, .int .i64 D, .int .i64 d], .agg #[.slice A n c, .int .i64 gl, .int .i64 gh, .int .i64 lo, .int .i64 hi, .int .i64 m]] w fun e w' => e = .returned (.bool true) ∧ Below w.heap.size w w' := by
  have HWK := Lib.hid wk
  have HR1 := Lib.hid (fun (W : World) (hW : Below w.heap.size w W) => reachT_any N D d gl gh m A n c w.heap.size b W hl hn hW.size (hr.below hW))
  have HR2 := Lib.hid (fun (W : World) (hW : Below w.heap.size w W) => rreachT_any N D d gl gh m A n c w.heap.size b W hl hn hW.size (hr.below hW))
  have hw1 := fun (high : Bool) (W : World) (hW : Below w.heap.size w W) => witnessT_any N D d gl gh m high A n c w.heap.size b W hl hn hW.size (hr.below hW)
  have hw2 := fun (high : Bool) (W : World) (hW : Below w.heap.size w W) => rwitnessT_any N D d gl gh m high A n c w.heap.size b W hl hn hW.size (hr.below hW)
  have HWL := Lib.hid (fun high => wiN_len N D d b gl gh m high)
  obtain ⟨wi, hwi⟩ : ∃ f, wiN N D d b gl gh m = f := ⟨_, rfl⟩
  rw [hwi] at hw1 hw2 HWL
  have HW1 := Lib.hid hw1
  have HW2 := Lib.hid hw2
  generalize reN N D d b gl gh m = r at *
  obtain ⟨⟨a0, a1⟩, ⟨b0, b1⟩, er⟩ := r
  simp only at HR1 HR2
  have HK0 := Lib.hid (KW.start (N := N) (D := D) (d := d) (gl := gl) (gh := gh) (lo := lo) (hi := hi) (m := m) (A := A) (n := n) (c := c) (w := w))
  have hp1 := eq_pair a0 a1
  have hp2 := eq_pair b0 b1
  clear wk hr hl hw1 hw2 hwi
  go_enter Try.func4, Try.ntmps4
  go_upto_region 1 with (fail)
  generalize World.alloc _ _ = w1 at *
  have s0 := cellOf (o := 0) HK0.out.s rfl
  have s1 := cellOf (o := 1) HK0.out.s rfl
  have s2 := cellOf (o := 2) HK0.out.s rfl
  have x0 := cellOf (o := 0) HK0.out.x rfl
  have x1 := cellOf (o := 1) HK0.out.x rfl
  have x2 := cellOf (o := 2) HK0.out.x rfl
  have x3 := cellOf (o := 3) HK0.out.x rfl
  have x4 := cellOf (o := 4) HK0.out.x rfl
  have x5 := cellOf (o := 5) HK0.out.x rfl
  have l0 := lt_of_block HK0.out.s
  have l1 := lt_of_block HK0.out.x
  go_upto_region 2 with (go_at_call 23; refine Calls.mono (HR1.out _ HK0.out.b) ?_; rintro e v1 ⟨rfl, hb1⟩; have HK1 := Lib.hid (((HK0.out.next hb1).next ((Below.refl _ _).alloc (Nat.le_refl _) (.cells #[.int .i64 a0, .int .i64 a1] 24))).next ((Below.refl _ _).alloc (Nat.le_refl _) (.cells #[.int .i64 b0, .int .i64 b1] 24))); clear hb1 s0 s1 s2 x0 x1 x2 x3 x4 x5 l0 l1)
  have B1 := Lib.hid (blk_old (.cells #[.int .i64 b0, .int .i64 b1] 24) (blk_new v1 (.cells #[.int .i64 a0, .int .i64 a1] 24) _ rfl))
  have B2 := Lib.hid (blk_new (v1.alloc (.cells #[.int .i64 a0, .int .i64 a1] 24)) (.cells #[.int .i64 b0, .int .i64 b1] 24) (v1.heap.size + 1) (by simp))
  obtain ⟨q1, hq1⟩ : ∃ q, v1.heap.size = q := ⟨_, rfl⟩
  rw [hq1] at B1 B2 ⊢
  clear hq1
  generalize World.alloc (World.alloc v1 _) _ = w2 at *
  have s0 := cellOf (o := 0) HK1.out.s rfl
  have s1 := cellOf (o := 1) HK1.out.s rfl
  have s2 := cellOf (o := 2) HK1.out.s rfl
  have x0 := cellOf (o := 0) HK1.out.x rfl
  have x1 := cellOf (o := 1) HK1.out.x rfl
  have x2 := cellOf (o := 2) HK1.out.x rfl
  have x3 := cellOf (o := 3) HK1.out.x rfl
  have x4 := cellOf (o := 4) HK1.out.x rfl
  have x5 := cellOf (o := 5) HK1.out.x rfl
  have l0 := lt_of_block HK1.out.s
  have l1 := lt_of_block HK1.out.x
  go_upto_region 3 with (go_at_call 24; refine Calls.mono (HR2.out _ HK1.out.b) ?_; rintro e v3 ⟨rfl, hb3⟩; have HK3 := Lib.hid (((HK1.out.next hb3).next ((Below.refl _ _).alloc (Nat.le_refl _) (.cells #[.int .i64 a0, .int .i64 a1] 24))).next ((Below.refl _ _).alloc (Nat.le_refl _) (.cells #[.int .i64 b0, .int .i64 b1] 24))); have B3 := Lib.hid (blk_old (.cells #[.int .i64 b0, .int .i64 b1] 24) (blk_old (.cells #[.int .i64 a0, .int .i64 a1] 24) ((hb3.block _ (lt_of_block B1.out)).trans B1.out))); have B4 := Lib.hid (blk_old (.cells #[.int .i64 b0, .int .i64 b1] 24) (blk_old (.cells #[.int .i64 a0, .int .i64 a1] 24) ((hb3.block _ (lt_of_block B2.out)).trans B2.out))); clear hb3 s0 s1 s2 x0 x1 x2 x3 x4 x5 l0 l1)
  have B5 := Lib.hid (blk_old (.cells #[.int .i64 b0, .int .i64 b1] 24) (blk_new v3 (.cells #[.int .i64 a0, .int .i64 a1] 24) _ rfl))
  have B6 := Lib.hid (blk_new (v3.alloc (.cells #[.int .i64 a0, .int .i64 a1] 24)) (.cells #[.int .i64 b0, .int .i64 b1] 24) (v3.heap.size + 1) (by simp))
  obtain ⟨q3, hq3⟩ : ∃ q, v3.heap.size = q := ⟨_, rfl⟩
  rw [hq3] at B5 B6 ⊢
  clear hq3
  generalize World.alloc (World.alloc v3 _) _ = w4 at *
  have c0 := cellOf (o := 0) B3.out rfl
  have d0 := cellOf (o := 1) B3.out rfl
  have m0 := lt_of_block B3.out
  have c1 := cellOf (o := 0) B4.out rfl
  have d1 := cellOf (o := 1) B4.out rfl
  have m1 := lt_of_block B4.out
  have c2 := cellOf (o := 0) B5.out rfl
  have d2 := cellOf (o := 1) B5.out rfl
  have m2 := lt_of_block B5.out
  have c3 := cellOf (o := 0) B6.out rfl
  have d3 := cellOf (o := 1) B6.out rfl
  have m3 := lt_of_block B6.out
  go_wp2
  clear c0 c1 c2 c3 d0 d1 d2 d3 m0 m1 m2 m3 hp1 hp2
  go_loopw [11] (fun i wr => ∃ k : Nat, k ≤ 2 ∧ i = .int .i64 k ∧ Below w4.heap.size w4 wr) (fun i _ => 2 - (intOf i).toNat)
  case atStart => exact ⟨0, by omega, rfl, Below.refl _ _⟩
  case round =>
    obtain ⟨k, hk, rfl, hbw⟩ := hrel
    have HKW := Lib.hid (HK3.out.next hbw)
    have HBW := Lib.hid hbw
    clear hbw
    by_cases hlt : k < 2
    · obtain ⟨high, hhi⟩ : ∃ h, ((k : Int) == 1) = h := ⟨_, rfl⟩
      have h1 := HW1.out high
      have h2 := HW2.out high
      have hwl := HWL.out high
      generalize wi high = r at *
      obtain ⟨⟨e0, e1⟩, l, ew⟩ := r
      unfold GivesWi at h1 h2
      simp only at h1 h2 hwl
      have HV1 := Lib.hid h1
      have HV2 := Lib.hid h2
      have HSI := Lib.hid (fun (u u' : Value) (W : World) (h : QI l u W) (h' : QI l u' W) => jsame_QI l u u' W hwl h h')
      have hp3 := eq_pair e0 e1
      clear h1 h2 hwl
      have s0 := cellOf (o := 0) HKW.out.s rfl
      have s1 := cellOf (o := 1) HKW.out.s rfl
      have s2 := cellOf (o := 2) HKW.out.s rfl
      have x0 := cellOf (o := 0) HKW.out.x rfl
      have x1 := cellOf (o := 1) HKW.out.x rfl
      have x2 := cellOf (o := 2) HKW.out.x rfl
      have x3 := cellOf (o := 3) HKW.out.x rfl
      have x4 := cellOf (o := 4) HKW.out.x rfl
      have x5 := cellOf (o := 5) HKW.out.x rfl
      have l0 := lt_of_block HKW.out.s
      have l1 := lt_of_block HKW.out.x
      go_upto_region 10 with (first
        | (go_at_call 25; refine Calls.mono (HV1.out _ HKW.out.b) ?_; rintro e v5 ⟨u5, rfl, hq5, hb5⟩; have HQ5 := Lib.hid (hq5.stay ((Below.refl _ _).alloc (Nat.le_refl _) (.cells #[.int .i64 e0, .int .i64 e1] 24))); have HK5 := Lib.hid ((HKW.out.next hb5).next ((Below.refl _ _).alloc (Nat.le_refl _) (.cells #[.int .i64 e0, .int .i64 e1] 24))); have HB5 := Lib.hid ((HBW.out.trans (hb5.mono HBW.out.size)).trans (((Below.refl v5.heap.size v5).alloc (Nat.le_refl _) (.cells #[.int .i64 e0, .int .i64 e1] 24)).mono (Nat.le_trans HBW.out.size hb5.size))); have B7 := Lib.hid (blk_new v5 (.cells #[.int .i64 e0, .int .i64 e1] 24) _ rfl); clear hb5 hq5; clear s0 s1 s2 x0 x1 x2 x3 x4 x5 l0 l1; have s0 := cellOf (o := 0) HK5.out.s rfl; have s1 := cellOf (o := 1) HK5.out.s rfl; have s2 := cellOf (o := 2) HK5.out.s rfl; have x0 := cellOf (o := 0) HK5.out.x rfl; have x1 := cellOf (o := 1) HK5.out.x rfl; have x2 := cellOf (o := 2) HK5.out.x rfl; have x3 := cellOf (o := 3) HK5.out.x rfl; have x4 := cellOf (o := 4) HK5.out.x rfl; have x5 := cellOf (o := 5) HK5.out.x rfl; have l0 := lt_of_block HK5.out.s; have l1 := lt_of_block HK5.out.x)
        | (go_at_call 26; refine Calls.mono (HV2.out _ HK5.out.b) ?_; rintro e v6 ⟨u6, rfl, hq6, hb6⟩; have HQ6 := Lib.hid (hq6.stay ((Below.refl _ _).alloc (Nat.le_refl _) (.cells #[.int .i64 e0, .int .i64 e1] 24))); have HQ7 := Lib.hid ((HQ5.out.stay hb6).stay ((Below.refl _ _).alloc (Nat.le_refl _) (.cells #[.int .i64 e0, .int .i64 e1] 24))); have HB6 := Lib.hid ((HB5.out.trans (hb6.mono HB5.out.size)).trans (((Below.refl v6.heap.size v6).alloc (Nat.le_refl _) (.cells #[.int .i64 e0, .int .i64 e1] 24)).mono (Nat.le_trans HB5.out.size hb6.size))); have B8 := Lib.hid (blk_old (.cells #[.int .i64 e0, .int .i64 e1] 24) ((hb6.block _ (lt_of_block B7.out)).trans B7.out)); have B9 := Lib.hid (blk_new v6 (.cells #[.int .i64 e0, .int .i64 e1] 24) _ rfl); clear hb6 hq6; clear s0 s1 s2 x0 x1 x2 x3 x4 x5 l0 l1))
      obtain ⟨q5, hq5⟩ : ∃ q, v5.heap.size = q := ⟨_, rfl⟩
      obtain ⟨q6, hq6⟩ : ∃ q, v6.heap.size = q := ⟨_, rfl⟩
      rw [hq5] at B8
      rw [hq6] at B9
      rw [hq5, hq6]
      clear hq5 hq6
      generalize World.alloc v6 _ = w6 at *
      have c0 := cellOf (o := 0) B8.out rfl
      have c1 := cellOf (o := 1) B8.out rfl
      have c2 := cellOf (o := 0) B9.out rfl
      have c3 := cellOf (o := 1) B9.out rfl
      have m0 := lt_of_block B8.out
      have m1 := lt_of_block B9.out
      go_wp2_with (go_at_call 27; refine Calls.mono (HSI.out _ _ _ HQ7.out HQ6.out) ?_; rintro e v7 ⟨rfl, hb7⟩; have HB7 := Lib.hid (HB6.out.trans (hb7.mono HB6.out.size)); clear hb7)
      go_roundw
      case rel => exact ⟨k + 1, by omega, by go_num, HB7.out⟩
      case measure => simp [intOf] <;> omega
    · obtain rfl : k = 2 := by omega
      have HB9 := Lib.hid (HK3.out.b.trans (HBW.out.mono HK3.out.b.size))
      go_wp2_with (go_at_call 22; refine Calls.mono (HWK.out _) ?_; rintro e v9 ⟨rfl, hb9⟩; have HX9 := Lib.hid (HB9.out.trans (hb9.mono HB9.out.size)); clear hb9)
      go_ret
      exact ⟨rfl, HX9.out⟩
end Go.Proofs.Ytnnmmojlgikdgaa

/- in: a start and gusts are in sets. -/
namespace Go.Proofs.Ytnnmmojlgikdgaa
open Go.RowKit

def inXB (a1 a2 c1 c2 gl gh nn s0 s1 : Int) (row : List Int) : Bool :=
  ((decide (a1 ≤ s0 ∧ s0 ≤ a2) && decide (c1 ≤ s1 ∧ s1 ≤ c2)) && wB gl gh row) && decide ((row.length : Int) = nn)

set_option maxRecDepth 100000 in
set_option maxHeartbeats 1000000 in
theorem in_any (a1 a2 c1 c2 gl gh lo hi nn s0 s1 : Int) (A R : Option Addr) (c n cr B B' : Nat) (row : List Int) (w : World) (hl : row.length = n) (hn : n ≤ maxLen) (_ : B ≤ w.heap.size) (hB' : B' ≤ w.heap.size) (hr : RS w B A [(a1, a2), (c1, c2)]) (hrow : RI w B' R row) :
    Calls Try.prog 42 #[.agg #[.slice A 2 c, .int .i64 gl, .int .i64 gh, .int .i64 lo, .int .i64 hi, .int .i64 nn], .agg #[.int .i64 s0, .int .i64 s1], .slice R n cr] w fun e w' => e = .returned (.bool (inXB a1 a2 c1 c2 gl gh nn s0 s1 row)) ∧ Below w.heap.size w w' := by
  obtain ⟨bb, off, rfl, hbb, hcc⟩ := hr (by simp)
  obtain ⟨p0, p1⟩ := hcc 0 (a1, a2) rfl
  obtain ⟨p2, p3⟩ := hcc 1 (c1, c2) rfl
  simp only [Nat.zero_mul, Nat.one_mul, Nat.add_zero] at p0 p1 p2 p3
  obtain ⟨r, hri⟩ : ∃ r, inXB a1 a2 c1 c2 gl gh nn s0 s1 row = r := ⟨_, rfl⟩
  rw [hri]
  have H0 := Lib.hid (show ¬ (a1 ≤ s0 ∧ s0 ≤ a2) → false = r from fun h => by rw [← hri]; unfold inXB; rw [decide_eq_false h]; rfl)
  have H1 := Lib.hid (show ¬ (c1 ≤ s1 ∧ s1 ≤ c2) → false = r from fun h => by rw [← hri]; unfold inXB; rw [decide_eq_false h, Bool.and_false]; rfl)
  have H2 := Lib.hid (show wB gl gh row = false → false = r from fun h => by rw [← hri]; unfold inXB; rw [h, Bool.and_false]; rfl)
  have H3 := Lib.hid (show (a1 ≤ s0 ∧ s0 ≤ a2) → (c1 ≤ s1 ∧ s1 ≤ c2) → wB gl gh row = true → decide ((row.length : Int) = nn) = r from fun h h' h2 => by rw [← hri]; unfold inXB; rw [decide_eq_true h, decide_eq_true h', h2]; rfl)
  unfold maxLen at hn
  have HB0 := Lib.hid (show Below w.heap.size w ((w.alloc (.cells #[.slice (some ⟨bb, off, none⟩) 2 c, .int .i64 gl, .int .i64 gh, .int .i64 lo, .int .i64 hi, .int .i64 nn] 43)).alloc (.cells #[.int .i64 s0, .int .i64 s1] 24)) by go_grown)
  have B1 := Lib.hid (blk_old (.cells #[.int .i64 s0, .int .i64 s1] 24) (blk_new w (.cells #[.slice (some ⟨bb, off, none⟩) 2 c, .int .i64 gl, .int .i64 gh, .int .i64 lo, .int .i64 hi, .int .i64 nn] 43) _ rfl))
  have B2 := Lib.hid (blk_new (w.alloc (.cells #[.slice (some ⟨bb, off, none⟩) 2 c, .int .i64 gl, .int .i64 gh, .int .i64 lo, .int .i64 hi, .int .i64 nn] 43)) (.cells #[.int .i64 s0, .int .i64 s1] 24) (w.heap.size + 1) (by simp))
  have HP := Lib.hid (And.intro (cell_keep (HB0.out) p0) (And.intro (cell_keep (HB0.out) p1) (And.intro (cell_keep (HB0.out) p2) (cell_keep (HB0.out) p3))))
  have HRI := Lib.hid ((hrow.more hB').below HB0.out)
  have HL := Lib.hid hl
  clear hr hcc p0 p1 p2 p3 hbb hri hrow hl hB'
  go_enter Try.func42, Try.ntmps42
  go_upto_region 1 with (fail)
  generalize World.alloc (World.alloc w _) _ = w1 at *
  go_wp2
  go_loopw [7] (fun d wr => ∃ k : Nat, k ≤ 2 ∧ d = .int .i64 k ∧ (0 < k → a1 ≤ s0 ∧ s0 ≤ a2) ∧ (1 < k → c1 ≤ s1 ∧ s1 ≤ c2) ∧ Below w1.heap.size w1 wr) (fun d _ => 2 - (intOf d).toNat)
  case atStart => exact ⟨0, by omega, rfl, fun h => by omega, fun h => by omega, Below.refl _ _⟩
  case round =>
    obtain ⟨k, hk, rfl, hk0, hk1, hbw⟩ := hrel
    have HBW := Lib.hid hbw
    have HKK := Lib.hid (And.intro hk0 hk1)
    have b1 := (hbw.block _ (lt_of_block B1.out)).trans B1.out
    have b2 := (hbw.block _ (lt_of_block B2.out)).trans B2.out
    have x0 := cellOf (o := 0) b1 rfl
    have y0 := cellOf (o := 0) b2 rfl
    have y1 := cellOf (o := 1) b2 rfl
    have p0 := cell_keep hbw HP.out.1
    have p1 := cell_keep hbw HP.out.2.1
    have p2 := cell_keep hbw HP.out.2.2.1
    have p3 := cell_keep hbw HP.out.2.2.2
    have l1 := lt_of_block b1
    have l2 := lt_of_block b2
    have l3 := World.block_lt_of_cell? _ _ p0
    clear hbw hk0 hk1 b1 b2
    by_cases hlt : k < 2
    · obtain rfl | rfl : k = 0 ∨ k = 1 := by omega
      · clear p2 p3 y1
        by_cases g1 : s0 < a1
        · have HR := Lib.hid (H0.out (by omega))
          have g1' : decide (s0 < a1) = true := decide_eq_true g1
          go_wp2
          go_quiet (fail)
          go_wp2
          go_ret
          exact ⟨ret_bool HR.out, below_drewN (HB0.out.trans (HBW.out.mono HB0.out.size)) _⟩
        · have g1' : decide (s0 < a1) = false := decide_eq_false g1
          by_cases g2 : a2 < s0
          · have HR := Lib.hid (H0.out (by omega))
            have g2' : decide (a2 < s0) = true := decide_eq_true g2
            go_wp2
            go_quiet (fail)
            go_wp2
            go_ret
            exact ⟨ret_bool HR.out, below_drewN (HB0.out.trans (HBW.out.mono HB0.out.size)) _⟩
          · have g2' : decide (a2 < s0) = false := decide_eq_false g2
            have HG := Lib.hid (show a1 ≤ s0 ∧ s0 ≤ a2 by omega)
            go_wp2
            go_quiet (fail)
            go_wp2
            go_roundw
            case rel => exact ⟨1, by omega, rfl, fun _ => HG.out, fun h => by omega, below_drewN HBW.out _⟩
            case measure => simp [intOf]
      · clear p0 p1 y0
        by_cases g1 : s1 < c1
        · have HR := Lib.hid (H1.out (by omega))
          have g1' : decide (s1 < c1) = true := decide_eq_true g1
          go_wp2
          go_quiet (fail)
          go_wp2
          go_ret
          exact ⟨ret_bool HR.out, below_drewN (HB0.out.trans (HBW.out.mono HB0.out.size)) _⟩
        · have g1' : decide (s1 < c1) = false := decide_eq_false g1
          by_cases g2 : c2 < s1
          · have HR := Lib.hid (H1.out (by omega))
            have g2' : decide (c2 < s1) = true := decide_eq_true g2
            go_wp2
            go_quiet (fail)
            go_wp2
            go_ret
            exact ⟨ret_bool HR.out, below_drewN (HB0.out.trans (HBW.out.mono HB0.out.size)) _⟩
          · have g2' : decide (c2 < s1) = false := decide_eq_false g2
            have HG := Lib.hid (show c1 ≤ s1 ∧ s1 ≤ c2 by omega)
            go_wp2
            go_quiet (fail)
            go_wp2
            go_roundw
            case rel => exact ⟨2, by omega, rfl, fun _ => HKK.out.1 (by omega), fun _ => HG.out, below_drewN HBW.out _⟩
            case measure => simp [intOf]
    · obtain rfl : k = 2 := by omega
      have HK0 := Lib.hid (HKK.out.1 (by omega))
      have HK1 := Lib.hid (HKK.out.2 (by omega))
      clear x0 y0 y1 p0 p1 p2 p3 l1 l2 l3
      go_wp2
      go_loopw [8] (fun i wr2 => ∃ j : Nat, j ≤ n ∧ i = .int .i64 j ∧ wB gl gh (row.take j) = true ∧ Below w1.heap.size w1 wr2) (fun i _ => n - (intOf i).toNat)
      case atStart => exact ⟨0, by omega, rfl, by simp [wB], HBW.out⟩
      case round =>
        obtain ⟨j, hj, rfl, hwj, hbw⟩ := hrel
        have HBX := Lib.hid hbw
        have HWJ := Lib.hid hwj
        have b1 := (hbw.block _ (lt_of_block B1.out)).trans B1.out
        have x1 := cellOf (o := 1) b1 rfl
        have x2 := cellOf (o := 2) b1 rfl
        have x5 := cellOf (o := 5) b1 rfl
        have l1 := lt_of_block b1
        by_cases hlj : j < n
        · obtain ⟨be, oe, e, rfl, hbe, hex, hce⟩ := (HRI.out.below (hbw.mono HB0.out.size)).at_ (show j < row.length by rw [HL.out]; exact hlj)
          have HEX := Lib.hid hex
          have l2 := World.block_lt_of_cell? _ _ hce
          have i1 : (0 : Int) ≤ (j : Int) := by omega
          have i2 : (j : Int) < n := by omega
          clear hbw hwj b1 x5 hex hbe
          by_cases g1 : e < gl
          · have HR := Lib.hid (H2.out (wB_bad HEX.out (.inl g1)))
            have g1' : decide (e < gl) = true := decide_eq_true g1
            go_wp2
            go_quiet (fail)
            go_wp2
            go_ret
            exact ⟨ret_bool HR.out, below_drewN (HB0.out.trans (HBX.out.mono HB0.out.size)) _⟩
          · have g1' : decide (e < gl) = false := decide_eq_false g1
            by_cases g2 : gh < e
            · have HR := Lib.hid (H2.out (wB_bad HEX.out (.inr g2)))
              have g2' : decide (gh < e) = true := decide_eq_true g2
              go_wp2
              go_quiet (fail)
              go_wp2
              go_ret
              exact ⟨ret_bool HR.out, below_drewN (HB0.out.trans (HBX.out.mono HB0.out.size)) _⟩
            · have g2' : decide (gh < e) = false := decide_eq_false g2
              have HG := Lib.hid (show gl ≤ e ∧ e ≤ gh by omega)
              go_wp2
              go_quiet (fail)
              go_wp2
              refine ⟨?_, ?measure⟩
              · exact ⟨_, _, _, _, _, _, _, _, _, _, _, _, _, _, _, _, _, _, _, _, _, _, _, _, _, _, ⟨j + 1, by omega, by go_num, by rw [wB_step HEX.out, HWJ.out]; simp; exact HG.out, below_drewN HBX.out _⟩, rfl⟩
              case measure => simp [intOf] <;> omega
        · obtain rfl : j = n := by omega
          have HR := Lib.hid (H3.out HK0.out HK1.out (by have := HWJ.out; rwa [List.take_of_length_le (by rw [HL.out]; exact Nat.le_refl _)] at this))
          clear hbw hwj b1 x1 x2
          have hll := HL.out
          go_wp2
          go_ret
          exact ⟨ret_bool (by rw [← HR.out, hll]; rfl), HB0.out.trans (HBX.out.mono HB0.out.size)⟩
end Go.Proofs.Ytnnmmojlgikdgaa

/- Fractions of the law: floor, rest, less. -/
namespace Go.Proofs.Ytnnmmojlgikdgaa
open Go.RowKit

theorem rest_ne {a b c d : Int} (ha : 0 < a) (hc : 0 < c) (h : d / c ≠ b / a) : d / c < b / a ↔ a * d < c * b := by
  have p1 := Int.mul_ediv_self_le (x := d) (k := c) (by omega)
  have p2 := Int.lt_mul_ediv_self_add (x := d) (k := c) hc
  have q1 := Int.mul_ediv_self_le (x := b) (k := a) (by omega)
  have q2 := Int.lt_mul_ediv_self_add (x := b) (k := a) ha
  generalize d / c = p at *
  generalize b / a = q at *
  constructor
  · intro hpq
    have h1 : c * (p + 1) ≤ c * q := Int.mul_le_mul_of_nonneg_left (by omega) (by omega)
    have h2 : d < c * q := by rw [Int.mul_add, Int.mul_one] at h1; omega
    have h3 := Int.mul_lt_mul_of_pos_left h2 ha
    have h4 := Int.mul_le_mul_of_nonneg_left q1 (Int.le_of_lt hc)
    rw [show a * (c * q) = c * (a * q) by rw [Int.mul_left_comm]] at h3
    omega
  · intro hlt
    by_cases hpq : p < q
    · exact hpq
    · exfalso
      have h1 : a * (q + 1) ≤ a * p := Int.mul_le_mul_of_nonneg_left (by omega) (by omega)
      have h2 : b < a * p := by rw [Int.mul_add, Int.mul_one] at h1; omega
      have h3 := Int.mul_lt_mul_of_pos_left h2 hc
      have h4 := Int.mul_le_mul_of_nonneg_left p1 (Int.le_of_lt ha)
      rw [show c * (a * p) = a * (c * p) by rw [Int.mul_left_comm]] at h3
      omega
theorem rest_eq {a b c d : Int} (h : d / c = b / a) : (d % c) * a < (b % a) * c ↔ a * d < c * b := by
  have h1 := Int.mul_ediv_add_emod d c
  have h2 := Int.mul_ediv_add_emod b a
  rw [h] at h1
  generalize b / a = p at *
  have e1 : a * d = a * (c * p) + (d % c) * a := by rw [← Int.mul_comm a (d % c), ← Int.mul_add, h1]
  have e2 : c * b = a * (c * p) + (b % a) * c := by rw [← Int.mul_comm c (b % a), Int.mul_left_comm a c p, ← Int.mul_add, h2]
  omega

set_option maxRecDepth 100000 in
theorem rest_any (a b c d : Int) (w : World) (ha : 0 ≤ a) (hb : a < b) (hbm : b ≤ 1000000000000000000) (hc : 0 ≤ c) (hd : c < d) (hdm : d ≤ 1000000000000000000) :
    Calls Try.prog 88 #[.int .i64 a, .int .i64 b, .int .i64 c, .int .i64 d] w fun e w' => e = .returned (.bool (decide (a * d < c * b))) ∧ Below w.heap.size w w' := by
  obtain ⟨r, hr⟩ : ∃ r, decide (a * d < c * b) = r := ⟨_, rfl⟩
  rw [hr]
  go_enter Try.func88, Try.ntmps88
  go_wp2
  go_loopw [0, 1, 2, 3] (fun t0 t1 t2 t3 wr => ∃ a b c d : Int, t0 = .int .i64 a ∧ t1 = .int .i64 b ∧ t2 = .int .i64 c ∧ t3 = .int .i64 d ∧ 0 ≤ a ∧ a < b ∧ b ≤ 1000000000000000000 ∧ 0 ≤ c ∧ c < d ∧ d ≤ 1000000000000000000 ∧ decide (a * d < c * b) = r ∧ Below w.heap.size w wr) (fun _ t1 _ t3 _ => (intOf t1).toNat + (intOf t3).toNat)
  case atStart => exact ⟨a, b, c, d, rfl, rfl, rfl, rfl, ha, hb, hbm, hc, hd, hdm, hr, Below.refl _ _⟩
  case round =>
    clear ha hb hbm hc hd hdm hr
    obtain ⟨a, b, c, d, rfl, rfl, rfl, rfl, ha, hb, hbm, hc, hd, hdm, hr, hbw⟩ := hrel
    have HBW := Lib.hid hbw
    clear hbw
    by_cases c0 : c = 0
    · subst c0
      have HR := Lib.hid (show false = r by
        rw [← hr, Int.zero_mul]
        have : 0 ≤ a * d := Int.mul_nonneg ha (by omega)
        exact (decide_eq_false (by omega)).symm)
      clear hr
      go_wp2
      go_ret
      exact ⟨ret_bool HR.out, HBW.out⟩
    · by_cases a0 : a = 0
      · subst a0
        have HR := Lib.hid (show true = r by
          rw [← hr, Int.zero_mul]
          have : 0 < c * b := Int.mul_pos (by omega) (by omega)
          exact (decide_eq_true this).symm)
        have n1 : (c == 0) = false := by simpa using c0
        clear hr
        go_wp2
        go_ret
        exact ⟨ret_bool HR.out, HBW.out⟩
      · have n1 : (c == 0) = false := by simpa using c0
        have n2 : (a == 0) = false := by simpa using a0
        have t1 : d.tdiv c = d / c := Int.tdiv_eq_ediv_of_nonneg (by omega)
        have t2 : b.tdiv a = b / a := Int.tdiv_eq_ediv_of_nonneg (by omega)
        have t3 : d.tmod c = d % c := Int.tmod_eq_emod_of_nonneg (by omega)
        have t4 : b.tmod a = b % a := Int.tmod_eq_emod_of_nonneg (by omega)
        have b1 : 0 ≤ d / c ∧ d / c ≤ 1000000000000000000 := ⟨Int.ediv_nonneg (by omega) (by omega), Int.le_trans (Int.ediv_le_self _ (by omega)) hdm⟩
        have b2 : 0 ≤ b / a ∧ b / a ≤ 1000000000000000000 := ⟨Int.ediv_nonneg (by omega) (by omega), Int.le_trans (Int.ediv_le_self _ (by omega)) hbm⟩
        have m1 := Int.emod_nonneg d c0
        have m2 := Int.emod_lt_of_pos d (show 0 < c by omega)
        have m3 := Int.emod_nonneg b a0
        have m4 := Int.emod_lt_of_pos b (show 0 < a by omega)
        have i1 : IntKind.i64.wrap (d / c) = d / c := IntWalk.i64_in _ (by omega)
        have i2 : IntKind.i64.wrap (b / a) = b / a := IntWalk.i64_in _ (by omega)
        have i3 : IntKind.i64.wrap (d % c) = d % c := IntWalk.i64_in _ (by omega)
        have i4 : IntKind.i64.wrap (b % a) = b % a := IntWalk.i64_in _ (by omega)
        by_cases e : d / c = b / a
        · have HR := Lib.hid (show decide ((d % c) * a < (b % a) * c) = r by rw [← hr, decide_eq_decide]; exact rest_eq e)
          have HA := Lib.hid (And.intro (And.intro m1 m2) (And.intro m3 m4))
          have e' : (d / c != b / a) = false := by rw [e]; simp
          clear hr b1 b2 m1 m2 m3 m4 e
          go_wp2
          go_quiet (fail)
          go_wp2
          go_quiet (fail)
          go_wp2
          go_roundw
          case rel => exact ⟨d % c, c, b % a, a, by go_num, rfl, by go_num, rfl, HA.out.1.1, HA.out.1.2, by omega, HA.out.2.1, HA.out.2.2, by omega, HR.out, by first | exact below_drewN (below_drewN HBW.out _) _ | exact below_drewN HBW.out _⟩
          case measure => simp [intOf] <;> omega
        · have HR := Lib.hid (show decide (d / c < b / a) = r by rw [← hr, decide_eq_decide]; exact rest_ne (by omega) (by omega) e)
          have e' : (d / c != b / a) = true := by rw [bne_iff_ne]; exact e
          clear hr b1 b2 m1 m2 m3 m4 e
          go_wp2
          go_quiet (fail)
          go_wp2
          go_ret
          exact ⟨ret_bool HR.out, below_drewN HBW.out _⟩

theorem jfloor_any (a b : Int) (w : World) (h1 : 1 ≤ b) (h2 : b ≤ 1000000000000000000) (h3 : -1000000000000000000 ≤ a) (h4 : a ≤ 1000000000000000000) :
    Calls Try.prog 87 #[.agg #[.int .i64 a, .int .i64 b]] w fun e w' => e = .returned (.int .i64 (fl a b)) ∧ Below w.heap.size w w' := by
  have hd := tdiv_bd (b := b) h3 h4
  go_enter Try.func87, Try.ntmps87
  go_wp2
  all_goals go_ret
  · exact ⟨ret_int (fl_tdiv_neg h1 (by assumption)), by go_grown⟩
  · exact ⟨ret_int (fl_tdiv_pos h1 (by assumption)), by go_grown⟩
theorem jfraction_any (a b : Int) (w : World) :
    Calls Try.prog 41 #[.agg #[.int .i64 a, .int .i64 b]] w fun e w' => e = .returned (.bool (decide (0 < b))) ∧ Below w.heap.size w w' := by
  go_enter Try.func41, Try.ntmps41
  go_wp2
  go_ret
  exact ⟨rfl, by go_grown⟩
end Go.Proofs.Ytnnmmojlgikdgaa

/- less. -/
namespace Go.Proofs.Ytnnmmojlgikdgaa
open Go.RowKit

theorem low_le7 {n d num den : Int} (hd : 1 ≤ d) : ((lowN n d).1 * den ≤ num * (lowN n d).2 ↔ n * den ≤ num * d) ∧ (num * (lowN n d).2 ≤ (lowN n d).1 * den ↔ num * d ≤ n * den) := by
  have hg := gcI_pos (a := n) hd
  obtain ⟨x, hx⟩ : gcI n d ∣ n := Int.gcd_dvd_left n d
  obtain ⟨y, hy⟩ : gcI n d ∣ d := Int.gcd_dvd_right n d
  have e1 : (lowN n d).1 = x := by
    show n.tdiv (gcI n d) = x
    generalize gcI n d = g at *
    rw [hx]
    exact Int.mul_tdiv_cancel_left _ (by omega)
  have e2 : (lowN n d).2 = y := by
    show d / gcI n d = y
    generalize gcI n d = g at *
    rw [hy]
    exact Int.mul_ediv_cancel_left _ (by omega)
  rw [e1, e2]
  generalize gcI n d = g at *
  rw [hx, hy, show g * x * den = g * (x * den) by grind, show num * (g * y) = g * (num * y) by grind]
  exact ⟨(Int.mul_le_mul_left (by omega)).symm, (Int.mul_le_mul_left (by omega)).symm⟩
theorem low_den {n d : Int} (hd : 1 ≤ d) : 1 ≤ (lowN n d).2 ∧ (lowN n d).2 ≤ d := by
  have hg := gcI_pos (a := n) hd
  obtain ⟨y, hy⟩ : gcI n d ∣ d := Int.gcd_dvd_right n d
  show 1 ≤ d / gcI n d ∧ d / gcI n d ≤ d
  refine ⟨?_, Int.ediv_le_self _ (by omega)⟩
  generalize gcI n d = g at *
  rw [hy, Int.mul_ediv_cancel_left _ (by omega)]
  have : 0 < y := by
    by_cases h : 0 < y
    · exact h
    · exfalso
      have := Int.mul_le_mul_of_nonneg_left (show y ≤ 0 by omega) (show 0 ≤ g by omega)
      omega
  omega
theorem low_num {n d M : Int} (hd : 1 ≤ d) (h1 : -M ≤ n) (h2 : n ≤ M) : -M ≤ (lowN n d).1 ∧ (lowN n d).1 ≤ M := tdiv_bd h1 h2
/-- Of two fractions in lowest terms with one denominator. -/
theorem low_less {x l q : Int} (hq : 1 ≤ q) (h : l ≤ x) : decide ((lowN x q).1 * (lowN l q).2 < (lowN l q).1 * (lowN x q).2) = false := by
  have a := (low_le7 (n := l) (d := q) (num := (lowN x q).1) (den := (lowN x q).2) hq).1
  have b := (low_le7 (n := x) (d := q) (num := l) (den := q) hq).2
  have c : l * (lowN x q).2 ≤ (lowN x q).1 * q := b.2 (Int.mul_le_mul_of_nonneg_right h (by omega))
  exact decide_eq_false (by have := a.2 c; omega)
/-- Of a fraction in lowest terms and a whole number. -/
theorem low_less1 {x q k : Int} (hq : 1 ≤ q) : (decide ((lowN x q).1 * 1 < k * (lowN x q).2) = decide (x < k * q)) ∧ decide (k * (lowN x q).2 < (lowN x q).1 * 1) = decide (k * q < x) := by
  have a := low_le7 (n := x) (d := q) (num := k) (den := 1) hq
  rw [decide_eq_decide, decide_eq_decide]
  have := a.1
  have := a.2
  rw [Int.mul_one x] at *
  constructor <;> constructor <;> intro h <;> omega

set_option maxRecDepth 100000 in
theorem jless_any (a b c d : Int) (w : World) (h1 : 1 ≤ b) (h2 : b ≤ 1000000000000000000) (h3 : -1000000000000000000 ≤ a) (h4 : a ≤ 1000000000000000000) (h5 : 1 ≤ d) (h6 : d ≤ 1000000000000000000) (h7 : -1000000000000000000 ≤ c) (h8 : c ≤ 1000000000000000000) :
    Calls Try.prog 44 #[.agg #[.int .i64 a, .int .i64 b], .agg #[.int .i64 c, .int .i64 d]] w fun e w' => e = .returned (.bool (decide (a * d < c * b))) ∧ Below w.heap.size w w' := by
  have HF1 := Lib.hid (fun W => jfloor_any a b W h1 h2 h3 h4)
  have HF2 := Lib.hid (fun W => jfloor_any c d W h5 h6 h7 h8)
  have hp := Int.mul_ediv_add_emod a b
  have hq := Int.mul_ediv_add_emod c d
  have m1 := Int.emod_nonneg a (show b ≠ 0 by omega)
  have m2 := Int.emod_lt_of_pos a (show 0 < b by omega)
  have m3 := Int.emod_nonneg c (show d ≠ 0 by omega)
  have m4 := Int.emod_lt_of_pos c (show 0 < d by omega)
  have hne : ¬ fl a b = fl c d → decide (fl a b < fl c d) = decide (a * d < c * b) := fun h => by
    rw [decide_eq_decide, Int.mul_comm a d, Int.mul_comm c b]
    exact rest_ne (a := d) (b := c) (c := b) (d := a) (by omega) (by omega) h
  have heq : fl a b = fl c d → decide ((a % b) * d < (c % d) * b) = decide (a * d < c * b) := fun h => by
    rw [decide_eq_decide, Int.mul_comm a d, Int.mul_comm c b]
    exact rest_eq (a := d) (b := c) (c := b) (d := a) h
  have HRS := Lib.hid (fun W => rest_any (a % b) b (c % d) d W m1 m2 h2 m3 m4 h6)
  have ep : fl a b * b = a - a % b := by show a / b * b = _; rw [Int.mul_comm]; omega
  have eq9 : fl c d * d = c - c % d := by show c / d * d = _; rw [Int.mul_comm]; omega
  have i1 : IntKind.i64.wrap (a - a % b) = a - a % b := IntWalk.i64_in _ (by omega)
  have i2 : IntKind.i64.wrap (c - c % d) = c - c % d := IntWalk.i64_in _ (by omega)
  have i3 : IntKind.i64.wrap (a - (a - a % b)) = a % b := by rw [show a - (a - a % b) = a % b by omega]; exact IntWalk.i64_in _ (by omega)
  have i4 : IntKind.i64.wrap (c - (c - c % d)) = c % d := by rw [show c - (c - c % d) = c % d by omega]; exact IntWalk.i64_in _ (by omega)
  generalize fl a b = p at *
  generalize fl c d = q at *
  generalize decide (a * d < c * b) = r at *
  have HB0 := Lib.hid (show Below w.heap.size w ((w.alloc (.cells #[.int .i64 a, .int .i64 b] 24)).alloc (.cells #[.int .i64 c, .int .i64 d] 24)) by go_grown)
  have B1 := Lib.hid (blk_old (.cells #[.int .i64 c, .int .i64 d] 24) (blk_new w (.cells #[.int .i64 a, .int .i64 b] 24) _ rfl))
  have B2 := Lib.hid (blk_new (w.alloc (.cells #[.int .i64 a, .int .i64 b] 24)) (.cells #[.int .i64 c, .int .i64 d] 24) (w.heap.size + 1) (by simp))
  clear h1 h2 h3 h4 h5 h6 h7 h8 hp hq
  go_enter Try.func44, Try.ntmps44
  go_upto_region 1 with (fail)
  generalize World.alloc (World.alloc w _) _ = w1 at *
  have s0 := cellOf (o := 0) B1.out rfl
  have s1 := cellOf (o := 1) B1.out rfl
  have x0 := cellOf (o := 0) B2.out rfl
  have x1 := cellOf (o := 1) B2.out rfl
  obtain ⟨Q, hQ⟩ : ∃ q9 : Nat → Value → World → Prop, q9 = QG [some (.agg #[.int .i64 a, .int .i64 b]), some (.int .i64 p), some (.agg #[.int .i64 c, .int .i64 d]), some (.int .i64 q), some (.int .i64 p), some (.int .i64 q)] (fun _ _ _ => True) := ⟨_, rfl⟩
  have hst : Stays Q := by rw [hQ]; exact QG.stays (fun _ _ _ _ _ _ => trivial)
  have HQ := Lib.hid hQ
  clear hQ
  refine wpIn_wide.1 (region_inv2 (n := 9) (by kernel_rfl) (RQ Q w1) (by kernel_rfl) rfl (RQ.start _ _ _) ?hstep ?hend)
  case hstep =>
    intro i' o ho val L b' x hF hR hpre hl
    match i', ho with
    | 0, ho =>
      simp at ho; subst ho; refine step_plain rfl ?_; have e2 := hF.was 2 (by kernel_rfl) rfl; have hgoal := hR.go hst HQ 0 rfl; have q0 := cell_keep hR.1 s0; have q1 := cell_keep hR.1 s1; clear hF hpre hl hR; go_simp; exact ⟨_, rfl, hgoal _ _ (Below.refl _ _) rfl⟩
    | 1, ho =>
      simp at ho; subst ho; refine step_plain rfl ?_; have e7 := hF.gv hR.2 HQ 0 rfl (hpre ⟨0, .data⟩ (by simp) rfl) rfl; have hgoal := hR.go hst HQ 1 rfl
      have hM := Lib.hid hR.1
      clear hF hpre hl hR; go_simp
      refine ⟨trivial, ?_⟩
      refine CallsIn.mono (callsIn_wide.2 (HF1.out _)) ?_
      rintro e w9 ⟨rfl, hb9⟩
      exact ⟨_, rfl, hgoal _ _ hb9 rfl⟩
    | 2, ho =>
      simp at ho; subst ho; refine step_plain rfl ?_; have e3 := hF.was 3 (by kernel_rfl) rfl; have hgoal := hR.go hst HQ 2 rfl; have q0 := cell_keep hR.1 x0; have q1 := cell_keep hR.1 x1; clear hF hpre hl hR; go_simp; exact ⟨_, rfl, hgoal _ _ (Below.refl _ _) rfl⟩
    | 3, ho =>
      simp at ho; subst ho; refine step_plain rfl ?_; have e9 := hF.gv hR.2 HQ 2 rfl (hpre ⟨2, .data⟩ (by simp) rfl) rfl; have hgoal := hR.go hst HQ 3 rfl
      have hM := Lib.hid hR.1
      clear hF hpre hl hR; go_simp
      refine ⟨trivial, ?_⟩
      refine CallsIn.mono (callsIn_wide.2 (HF2.out _)) ?_
      rintro e w9 ⟨rfl, hb9⟩
      exact ⟨_, rfl, hgoal _ _ hb9 rfl⟩
    | 4, ho =>
      simp at ho; subst ho; refine step_plain rfl ?_; have e8 := hF.gv hR.2 HQ 1 rfl (hpre ⟨1, .data⟩ (by simp) rfl) rfl; have hgoal := hR.go hst HQ 4 rfl; clear hF hpre hl hR; go_simp; exact ⟨_, rfl, hgoal _ _ (Below.refl _ _) rfl⟩
    | 5, ho =>
      simp at ho; subst ho; refine step_plain rfl ?_; have e10 := hF.gv hR.2 HQ 3 rfl (hpre ⟨3, .data⟩ (by simp) rfl) rfl; have hgoal := hR.go hst HQ 5 rfl; clear hF hpre hl hR; go_simp; exact ⟨_, rfl, hgoal _ _ (Below.refl _ _) rfl⟩
    | i + 6, ho => simp at ho
  case hend =>
    intro val L b' x hF hall hR
    have e := hF.all (by kernel_rfl) hall
    have k4 := QG.val HQ rfl (hR.2 4 (hall 4 (by decide)))
    have k5 := QG.val HQ rfl (hR.2 5 (hall 5 (by decide)))
    have hB := Lib.hid hR.1
    clear hF hall hR hst HQ 
    subst e
    simp [final, dstOf, List.range, List.range.loop]
    rw [k4]
    rw [k5]
    have HB9 := Lib.hid (HB0.out.trans (hB.out.mono HB0.out.size))
    have s0 := cell_keep hB.out s0
    have s1 := cell_keep hB.out s1
    have x0 := cell_keep hB.out x0
    have x1 := cell_keep hB.out x1
    have l0 := World.block_lt_of_cell? _ _ s0
    have l1 := World.block_lt_of_cell? _ _ x0
    clear hB
    by_cases hpq : p = q
    · have HR := Lib.hid (heq hpq)
      have e' : (p != q) = false := by rw [hpq]; simp
      clear hne heq hpq m1 m2 m3 m4
      go_wp2_with (go_at_call 88; refine Calls.mono (HRS.out _) ?_; rintro e w5 ⟨rfl, hb5⟩; have HX9 := Lib.hid (HB9.out.trans (hb5.mono HB9.out.size)); clear hb5)
      go_ret
      exact ⟨ret_bool HR.out, HX9.out⟩
    · have HR := Lib.hid (hne hpq)
      have e' : (p != q) = true := by rw [bne_iff_ne]; exact hpq
      clear hne heq hpq m1 m2 m3 m4
      go_wp2
      go_ret
      exact ⟨ret_bool HR.out, HB9.out⟩
end Go.Proofs.Ytnnmmojlgikdgaa

/- last: the displacement behind all gusts. -/
namespace Go.Proofs.Ytnnmmojlgikdgaa
open Go.RowKit

def laN (N D d a v : Int) (G : List Int) : (Int × Int) × Bool :=
  if G = [] then ((a, 1), true) else if swE N D d a v G = 0 then (lowN (swK N D d a v G G.length).1 (swK N D d a v G G.length).2.2, true) else ((0, 0), false)
/-- The boxes of last. -/
structure LW (N D d a v : Int) (w W : World) : Prop where
  s : W.heap[w.heap.size]? = some (.cells #[.int .i64 N, .int .i64 D, .int .i64 d] 23 (0, 0))
  x : W.heap[w.heap.size + 1]? = some (.cells #[.int .i64 a, .int .i64 v] 24 (0, 0))
  r1 : W.heap[w.heap.size + 1 + 1]? = some (.cells #[.int .i64 0, .int .i64 0] 24 (0, 0))
  b : Below w.heap.size w W
section
variable {N D d a v : Int} {w W W' : World}
theorem LW.next (h : LW N D d a v w W) (hb : Below W.heap.size W W') : LW N D d a v w W' :=
  ⟨(hb.block _ (lt_of_block h.s)).trans h.s, (hb.block _ (lt_of_block h.x)).trans h.x, (hb.block _ (lt_of_block h.r1)).trans h.r1, h.b.trans (hb.mono h.b.size)⟩
theorem LW.start : LW N D d a v w (((w.alloc (.cells #[.int .i64 N, .int .i64 D, .int .i64 d] 23)).alloc (.cells #[.int .i64 a, .int .i64 v] 24)).alloc (.cells #[.int .i64 0, .int .i64 0] 24)) :=
  ⟨blk_old _ (blk_old _ (blk_new _ _ _ rfl)), blk_old _ (blk_new _ _ _ (by simp)), blk_new _ _ _ (by simp), by go_grown⟩
theorem LW.put (h : LW N D d a v w W) (p q : Value) : ∀ y, (W.setCell ⟨w.heap.size + 1 + 1, 0, none⟩ p).setCell ⟨w.heap.size + 1 + 1, 1, none⟩ q = y →
    y.heap[w.heap.size + 1 + 1]? = some (.cells #[p, q] 24 (0, 0)) ∧ Below w.heap.size w y := fun y hy => by
  refine ⟨?_, ?_⟩
  · rw [← hy]; exact block_setCell (o := 1) q (block_setCell (o := 0) p h.r1)
  · rw [← hy]; exact (h.b.setCell (p := ⟨w.heap.size + 1 + 1, 0, none⟩) (show w.heap.size ≤ w.heap.size + 1 + 1 by omega) _).setCell (p := ⟨w.heap.size + 1 + 1, 1, none⟩) (show w.heap.size ≤ w.heap.size + 1 + 1 by omega) _
end

set_option maxRecDepth 100000 in
set_option maxHeartbeats 1000000 in
theorem last_any7 (N D d a v : Int) (R : Option Addr) (n c B : Nat) (G : List Int) (w : World) (hl : G.length = n) (hn : n ≤ maxLen) (hB : B ≤ w.heap.size) (hr : RI w B R G) :
    Calls Try.prog 43 #[.agg #[.int .i64 N, .int .i64 D, .int .i64 d], .agg #[.int .i64 a, .int .i64 v], .slice R n c] w fun e w' => e = .returned (.tuple #[.agg #[.int .i64 (laN N D d a v G).1.1, .int .i64 (laN N D d a v G).1.2], .bool (laN N D d a v G).2]) ∧ Below w.heap.size w w' := by
  have HA0 := Lib.hid (LW.start (N := N) (D := D) (d := d) (a := a) (v := v) (w := w))
  have HSW := Lib.hid (fun (W : World) (hW : Below w.heap.size w W) => swingT_any N D d a v R n c w.heap.size G W hl hn hW.size ((hr.more hB).below hW))
  unfold maxLen at hn
  unfold laN
  by_cases h0 : G = []
  · rw [if_pos h0]
    subst h0
    obtain rfl : n = 0 := by simpa using hl.symm
    clear hl hr HSW
    go_enter Try.func43, Try.ntmps43
    go_upto_region 1 with (fail)
    generalize World.alloc _ _ = w1 at *
    have s0 := cellOf (o := 0) HA0.out.x rfl
    have k0 := cellOf (o := 0) HA0.out.r1 rfl
    have k1 := cellOf (o := 1) HA0.out.r1 rfl
    have f0 := freeOf (o := 0) HA0.out.r1
    have f1 := freeOf (o := 1) HA0.out.r1
    have l0 := lt_of_block HA0.out.r1
    have l1 := lt_of_block HA0.out.x
    go_wp2
    have hput := HA0.out.put (.int .i64 a) (.int .i64 1) _ rfl
    clear s0 k0 k1 f0 f1 l0 l1
    generalize (World.setCell w1 _ _).setCell _ _ = w9 at *
    obtain ⟨bk1, hb9⟩ := hput
    have d0 := cellOf (o := 0) bk1 rfl
    have d1 := cellOf (o := 1) bk1 rfl
    exact bodyPost_ret (v := .tuple #[.agg #[.int .i64 a, .int .i64 1], .bool true]) (by simp [results, Try.results43, go_sem, d0, d1]) rfl ⟨rfl, hb9⟩
  · rw [if_neg h0]
    obtain ⟨k, hk⟩ : ∃ k, G.length = k + 1 := by
      cases G with
      | nil => exact absurd rfl h0
      | cons x l => exact ⟨l.length, rfl⟩
    obtain rfl : n = k + 1 := by omega
    by_cases he : swE N D d a v G = 0
    · rw [if_pos he]
      have hsw : swA N D d a v G = (swRow N D d a v G, 0) := by unfold swA swN; rw [he, if_pos rfl]
      rw [hsw] at HSW
      unfold GivesCe at HSW
      have hrl : (swRow N D d a v G).length = k + 1 := by simp [swRow, hk]
      have hgt : (swRow N D d a v G)[k]? = some (lowN (swK N D d a v G (k + 1)).1 (swK N D d a v G (k + 1)).2.2) := by
        unfold swRow
        rw [List.getElem?_map, List.getElem?_range (by omega)]
        rfl
      rw [hk]
      have hsl : slB N D d = true := by
        cases hs : slB N D d with
        | true => rfl
        | false => unfold swE at he; rw [hs] at he; simp at he
      have hden : 1 ≤ (swK N D d a v G (k + 1)).2.2 := by
        rw [swK_den (by omega)]
        obtain ⟨⟨d1, d2⟩, _, _⟩ := slB_get hsl
        exact (powI_bd d1 d2 _).1
      have hd1 := (low_den (n := (swK N D d a v G (k + 1)).1) hden).1
      generalize swRow N D d a v G = S at *
      generalize lowN (swK N D d a v G (k + 1)).1 (swK N D d a v G (k + 1)).2.2 = p at *
      obtain ⟨p0, p1⟩ := p
      simp only at hd1 ⊢
      have HFR := Lib.hid (fun W => by have := jfraction_any p0 p1 W; rw [decide_eq_true (show 0 < p1 by omega)] at this; exact this)
      have HGT := Lib.hid hgt
      have HRL := Lib.hid hrl
      have i1 : IntKind.i64.wrap (k : Int) = (k : Int) := IntWalk.i64_in _ (by omega)
      clear hl hr he hsw hgt hrl hden hd1 hsl h0 hk
      go_enter Try.func43, Try.ntmps43
      go_upto_region 1 with (fail)
      generalize World.alloc _ _ = w1 at *
      have s0 := cellOf (o := 0) HA0.out.s rfl
      have s1 := cellOf (o := 1) HA0.out.s rfl
      have s2 := cellOf (o := 2) HA0.out.s rfl
      have x0 := cellOf (o := 0) HA0.out.x rfl
      have x1 := cellOf (o := 1) HA0.out.x rfl
      have l0 := lt_of_block HA0.out.s
      have l1 := lt_of_block HA0.out.x
      go_upto_region 4 with (go_at_call 17; refine Calls.mono (HSW.out _ HA0.out.b) ?_; rintro e w2 ⟨u, rfl, hq, hb2⟩; have HA2 := Lib.hid (HA0.out.next hb2); clear hb2 s0 s1 s2 x0 x1 l0 l1; obtain ⟨A2, c2, rfl, hr2⟩ := hq; have HR2 := Lib.hid hr2; clear hr2)
      obtain ⟨bb, off, pp, rfl, hbb, hpp, hc0, hc1⟩ := HR2.out.at_ (k := k) (by rw [HRL.out]; omega)
      rw [HGT.out] at hpp
      cases hpp
      simp only at hc0 hc1
      have hrl := HRL.out
      rw [hrl]
      have i2 : (k : Int) < (k : Int) + 1 := by omega
      have l3 := World.block_lt_of_cell? _ _ hc0
      clear hbb hrl
      go_upto_region 6 with (go_at_call 41; refine Calls.mono (HFR.out _) ?_; rintro e w3 ⟨rfl, hb3⟩; have HA3 := Lib.hid (HA2.out.next hb3); have HC0 := Lib.hid (cell_keep hb3 hc0); have HC1 := Lib.hid (cell_keep hb3 hc1); clear hb3 hc0 hc1 l3)
      have hc0 := HC0.out
      have hc1 := HC1.out
      have k0 := cellOf (o := 0) HA3.out.r1 rfl
      have k1 := cellOf (o := 1) HA3.out.r1 rfl
      have f0 := freeOf (o := 0) HA3.out.r1
      have f1 := freeOf (o := 1) HA3.out.r1
      have l0 := lt_of_block HA3.out.r1
      have l3 := World.block_lt_of_cell? _ _ hc0
      go_wp2
      have hput := HA3.out.put (.int .i64 p0) (.int .i64 p1) _ rfl
      clear hc0 hc1 k0 k1 f0 f1 l0 l3
      generalize (World.setCell w3 _ _).setCell _ _ = w9 at *
      obtain ⟨bk1, hb9⟩ := hput
      have d0 := cellOf (o := 0) bk1 rfl
      have d1 := cellOf (o := 1) bk1 rfl
      exact bodyPost_ret (v := .tuple #[.agg #[.int .i64 p0, .int .i64 p1], .bool true]) (by simp [results, Try.results43, go_sem, d0, d1]) rfl ⟨rfl, hb9⟩
    · rw [if_neg he]
      have hsw : swA N D d a v G = ([], swE N D d a v G) := by unfold swA swN; rw [if_neg he]
      rw [hsw] at HSW
      unfold GivesCe at HSW
      have he' : (swE N D d a v G != 0) = true := by rw [bne_iff_ne]; exact he
      generalize swE N D d a v G = E at *
      clear hl hr he hsw h0 hk
      go_enter Try.func43, Try.ntmps43
      go_upto_region 1 with (fail)
      generalize World.alloc _ _ = w1 at *
      have s0 := cellOf (o := 0) HA0.out.s rfl
      have s1 := cellOf (o := 1) HA0.out.s rfl
      have s2 := cellOf (o := 2) HA0.out.s rfl
      have x0 := cellOf (o := 0) HA0.out.x rfl
      have x1 := cellOf (o := 1) HA0.out.x rfl
      have l0 := lt_of_block HA0.out.s
      have l1 := lt_of_block HA0.out.x
      go_upto_region 5 with (go_at_call 17; refine Calls.mono (HSW.out _ HA0.out.b) ?_; rintro e w3 ⟨u, rfl, hq, hb2⟩; have HA3 := Lib.hid (HA0.out.next hb2); clear hq hb2 s0 s1 s2 x0 x1 l0 l1)
      have k0 := cellOf (o := 0) HA3.out.r1 rfl
      have k1 := cellOf (o := 1) HA3.out.r1 rfl
      have f0 := freeOf (o := 0) HA3.out.r1
      have f1 := freeOf (o := 1) HA3.out.r1
      have l0 := lt_of_block HA3.out.r1
      go_wp2
      have hput := HA3.out.put (.int .i64 0) (.int .i64 0) _ rfl
      clear k0 k1 f0 f1 l0
      generalize (World.setCell w3 _ _).setCell _ _ = w9 at *
      obtain ⟨bk1, hb9⟩ := hput
      have d0 := cellOf (o := 0) bk1 rfl
      have d1 := cellOf (o := 1) bk1 rfl
      exact bodyPost_ret (v := .tuple #[.agg #[.int .i64 0, .int .i64 0], .bool false]) (by simp [results, Try.results43, go_sem, d0, d1]) rfl ⟨rfl, hb9⟩
end Go.Proofs.Ytnnmmojlgikdgaa

/- Plain mathematics: what the law of Reach's ends asks. -/
namespace Go.Proofs.Ytnnmmojlgikdgaa
open Go.RowKit

theorem low_one (a : Int) : lowN a 1 = (a, 1) := by
  have h : gcI a 1 = 1 := by unfold gcI; simp
  unfold lowN
  rw [h]
  simp
theorem ef_zero (N D d a v : Int) : dotL [a, v] (efL N D d 0) = a := by
  have := sw_dot N D d a v []
  rw [show ([] : List Int).length = 0 from rfl] at this
  rw [← this]
  rfl
/-- A row lies in its span. -/
theorem inSp_rep {gl gh : Int} : ∀ {l : List Int} {m : Nat}, l.length = m → (inSp l (List.replicate m (gl, gh)) ↔ wB gl gh l = true)
  | [], 0, _ => by simp [inSp, wB]
  | x :: l, m + 1, h => by
    have ih := inSp_rep (gl := gl) (gh := gh) (l := l) (m := m) (by simpa using h)
    show (gl ≤ x ∧ x ≤ gh) ∧ inSp l (List.replicate m (gl, gh)) ↔ _
    rw [ih]
    unfold wB
    simp
  | [], _ + 1, h => by simp at h
  | _ :: _, 0, h => by simp at h
theorem inXB_iff {a1 a2 c1 c2 gl gh s0 s1 : Int} {m : Nat} {row : List Int} : inXB a1 a2 c1 c2 gl gh m s0 s1 row = true ↔ row.length = m ∧ inSp (s0 :: s1 :: row) ((a1, a2) :: (c1, c2) :: List.replicate m (gl, gh)) := by
  unfold inXB
  simp only [Bool.and_eq_true, decide_eq_true_eq]
  constructor
  · rintro ⟨⟨⟨h1, h2⟩, h3⟩, h4⟩
    have h4' : row.length = m := by omega
    exact ⟨h4', h1, h2, (inSp_rep h4').2 h3⟩
  · rintro ⟨h4, h1, h2, h3⟩
    exact ⟨⟨⟨h1, h2⟩, (inSp_rep h4).1 h3⟩, by omega⟩
def BD (p : Int × Int) : Prop := (-1000000000000000000 ≤ p.1 ∧ p.1 ≤ 1000000000000000000) ∧ 1 ≤ p.2 ∧ p.2 ≤ 1000000000000000000
theorem low_BD {n q : Int} (h1 : -1125899906842624 ≤ n) (h2 : n ≤ 1125899906842624) (hq : 1 ≤ q) (hq2 : q ≤ 4294967296) : BD (lowN n q) := by
  have a := low_num (n := n) (d := q) (M := 1125899906842624) hq h1 h2
  have b := low_den (n := n) hq
  exact ⟨⟨by omega, by omega⟩, by omega, by omega⟩
/-- The displacement behind all gusts of sets. -/
theorem la_in {N D d a1 a2 c1 c2 gl gh s0 s1 : Int} {m : Nat} {row : List Int} (hz : alE N D d [(a1, a2), (c1, c2)] gl gh m [] = 0) (h : inXB a1 a2 c1 c2 gl gh m s0 s1 row = true) :
    laN N D d s0 s1 row = (lowN (dotL (s0 :: s1 :: row) (efL N D d m)) (powI d m), true) ∧ numB (s0 :: s1 :: row) = true := by
  obtain ⟨hs, hc, hv, _, hsa⟩ := alE_zero hz
  have hm : m ≤ 16 := by unfold saB at hsa; simp at hsa; omega
  have hh := h
  unfold inXB at hh
  simp only [Bool.and_eq_true, decide_eq_true_eq] at hh
  obtain ⟨⟨⟨h1, h2⟩, h3⟩, h4⟩ := hh
  have h4' : row.length = m := by omega
  unfold saB at hsa
  simp only [Bool.and_eq_true, decide_eq_true_eq, List.all_eq_true] at hsa
  have g := wB_two hsa.1.1.2
  have ga := wB_two (hsa.2 (a1, a2) (by simp))
  have gc := wB_two (hsa.2 (c1, c2) (by simp))
  simp only at ga gc
  have hst : staB s0 s1 = true := by unfold staB wB; simp; omega
  have hwb : wB (-100) 100 row = true := wB_of fun x hx => by
    unfold wB at h3
    simp only [List.all_eq_true, Bool.and_eq_true, decide_eq_true_eq] at h3
    have := h3 x hx
    omega
  refine ⟨?_, by unfold numB; show (staB s0 s1 && wB (-100) 100 row) = true; rw [hst, hwb]; rfl⟩
  unfold laN
  by_cases e : row = []
  · subst e
    obtain rfl : m = 0 := by simpa using h4'.symm
    rw [if_pos rfl, ef_zero, show powI d 0 = 1 from rfl, low_one]
  · rw [if_neg e]
    have he : swE N D d s0 s1 row = 0 := by
      unfold swE
      rw [hs, if_pos rfl, if_neg (by omega), hst, if_pos rfl, hwb, if_pos rfl]
    rw [if_pos he, sw_dot, swK_den (Nat.le_refl _), h4']
structure WLX (N D d a1 a2 c1 c2 gl gh : Int) (m : Nat) (L H : Int × Int) : Prop where
  re : reN N D d [(a1, a2), (c1, c2)] gl gh m = (L, H, 0)
  l : BD L
  h : BD H
  wi : ∀ high, ∃ s0 s1 row, wiN N D d [(a1, a2), (c1, c2)] gl gh m high = ((s0, s1), row, 0) ∧ inXB a1 a2 c1 c2 gl gh m s0 s1 row = true ∧ laN N D d s0 s1 row = (if high then H else L, true) ∧ row.length = m
  y : ∀ s0 s1 row, inXB a1 a2 c1 c2 gl gh m s0 s1 row = true → ∃ P, laN N D d s0 s1 row = (P, true) ∧ BD P ∧ decide (P.1 * L.2 < L.1 * P.2) = false ∧ decide (H.1 * P.2 < P.1 * H.2) = false
theorem within_facts {N D d a1 a2 c1 c2 gl gh : Int} {m : Nat} (hz : alE N D d [(a1, a2), (c1, c2)] gl gh m [] = 0) : ∃ L H, WLX N D d a1 a2 c1 c2 gl gh m L H := by
  obtain ⟨hs, hc, hv, _, hsa⟩ := alE_zero hz
  have hm : m ≤ 16 := by unfold saB at hsa; simp at hsa; omega
  obtain ⟨⟨d1, d2⟩, _, _⟩ := slB_get hs
  have hq := (powI_bd d1 d2 m).1
  have hq2 := Int.le_trans ((powI_bd d1 d2 m).2 hm) (powI_4 hm)
  have hSB := sb_of hsa m
  have hsv := sv_of hc hv m
  have hlen : ([(a1, a2), (c1, c2)] ++ List.replicate m (gl, gh)).length = m + 2 := by simp
  have hle : ([(a1, a2), (c1, c2)] ++ List.replicate m (gl, gh)).length = (efL N D d m).length := by rw [efL_len]; exact hlen
  have e1 := end_bd hs hSB hlen hm false
  have e2 := end_bd hs hSB hlen hm true
  have key : ∀ high, ∃ s0 s1 row, wiN N D d [(a1, a2), (c1, c2)] gl gh m high = ((s0, s1), row, 0) ∧ inXB a1 a2 c1 c2 gl gh m s0 s1 row = true ∧ dotL (s0 :: s1 :: row) (efL N D d m) = endN high ([(a1, a2), (c1, c2)] ++ List.replicate m (gl, gh)) (efL N D d m) ∧ row.length = m := by
    intro high
    have hwl := witL_len high hle
    have hin := wit_in high _ _ hsv hle
    unfold wiN
    rw [if_pos hz, Int.toNat_natCast]
    unfold endN
    generalize witL high ([(a1, a2), (c1, c2)] ++ List.replicate m (gl, gh)) (efL N D d m) = X at *
    rw [hlen] at hwl
    match X, hwl, hin with
    | s0 :: s1 :: row, hwl, hin => exact ⟨s0, s1, row, rfl, inXB_iff.2 ⟨by simpa using hwl, hin⟩, rfl, by simpa using hwl⟩
  refine ⟨_, _, ⟨by unfold reN; rw [if_pos hz, Int.toNat_natCast], low_BD e1.1 e1.2 hq hq2, low_BD e2.1 e2.2 hq hq2, fun high => ?_, fun s0 s1 row h => ?_⟩⟩
  · obtain ⟨s0, s1, row, k1, k2, k3, k4⟩ := key high
    refine ⟨s0, s1, row, k1, k2, ?_, k4⟩
    rw [(la_in hz k2).1, k3]
    cases high <;> rfl
  · obtain ⟨k1, k2⟩ := la_in hz h
    obtain ⟨k3, k4⟩ := inXB_iff.1 h
    have kb := dot_bd hs (x := s0 :: s1 :: row) (k := m) (by simp; omega) hm k2
    have kd := dot_wit (s0 :: s1 :: row) _ (efL N D d m) k4 hle
    exact ⟨_, k1, low_BD kb.1 kb.2 hq hq2, low_less hq kd.1, low_less hq kd.2⟩
end Go.Proofs.Ytnnmmojlgikdgaa

/- The law of Reach's ends. -/
namespace Go.Proofs.Ytnnmmojlgikdgaa
open Go.RowKit

/-- A sling, sets and a swing in their boxes. -/
structure KX (N D d gl gh lo hi m ya yv ym yl yh : Int) (A R : Option Addr) (n c k cr : Nat) (w W : World) : Prop where
  s : W.heap[w.heap.size]? = some (.cells #[.int .i64 N, .int .i64 D, .int .i64 d] 23 (0, 0))
  x : W.heap[w.heap.size + 1]? = some (.cells #[.slice A n c, .int .i64 gl, .int .i64 gh, .int .i64 lo, .int .i64 hi, .int .i64 m] 43 (0, 0))
  y : W.heap[w.heap.size + 1 + 1]? = some (.cells #[.int .i64 ya, .int .i64 yv, .slice R k cr, .int .i64 ym, .int .i64 yl, .int .i64 yh] 29 (0, 0))
  b : Below w.heap.size w W
section
variable {N D d gl gh lo hi m ya yv ym yl yh : Int} {A R : Option Addr} {n c k cr : Nat} {w W W' : World}
theorem KX.next (h : KX N D d gl gh lo hi m ya yv ym yl yh A R n c k cr w W) (hb : Below W.heap.size W W') : KX N D d gl gh lo hi m ya yv ym yl yh A R n c k cr w W' :=
  ⟨(hb.block _ (lt_of_block h.s)).trans h.s, (hb.block _ (lt_of_block h.x)).trans h.x, (hb.block _ (lt_of_block h.y)).trans h.y, h.b.trans (hb.mono h.b.size)⟩
theorem KX.alloc (h : KX N D d gl gh lo hi m ya yv ym yl yh A R n c k cr w W) (o : Obj) : KX N D d gl gh lo hi m ya yv ym yl yh A R n c k cr w (W.alloc o) := h.next ((Below.refl _ _).alloc (Nat.le_refl _) _)
theorem KX.start : KX N D d gl gh lo hi m ya yv ym yl yh A R n c k cr w (((w.alloc (.cells #[.int .i64 N, .int .i64 D, .int .i64 d] 23)).alloc (.cells #[.slice A n c, .int .i64 gl, .int .i64 gh, .int .i64 lo, .int .i64 hi, .int .i64 m] 43)).alloc (.cells #[.int .i64 ya, .int .i64 yv, .slice R k cr, .int .i64 ym, .int .i64 yl, .int .i64 yh] 29)) :=
  ⟨blk_old _ (blk_old _ (blk_new _ _ _ rfl)), blk_old _ (blk_new _ _ _ (by simp)), blk_new _ _ _ (by simp), by go_grown⟩
end

set_option maxRecDepth 100000 in
set_option maxHeartbeats 4000000 in
theorem law_within (wk : WK7) (w : World) (N D d : Int) (A : Option Addr) (n c : Nat) (gl gh lo hi m : Int) (b : List (Int × Int)) (hl : b.length = n) (hn : n ≤ maxLen) (hr : RS w w.heap.size A b) (ya yv : Int) (R : Option Addr) (k cr : Nat) (ym yl yh : Int) (G : List Int) (hgl : G.length = k) (hkn : k ≤ maxLen) (hgr : RI w w.heap.size R G) :
    Calls Try.prog 8 #[.agg #[.int .i64 N, .int .i64 D, .int .i64 d], .agg #[.slice A n c, .int .i64 gl, .int .i64 gh, .int .i64 lo, .int .i64 hi, .int .i64 m], .agg #[.int .i64 ya, .int .i64 yv, .slice R k cr, .int .i64 ym, .int .i64 yl, .int .i64 yh]] w fun e w' => e = .returned (.bool true) ∧ Below w.heap.size w w' := by
  have HWK := Lib.hid wk
  have HCS := Lib.hid (fun (W : World) (hW : Below w.heap.size w W) => checkSets_any N D d gl gh m A n c w.heap.size b W hl hn hW.size (hr.below hW))
  have HK := Lib.hid (KX.start (N := N) (D := D) (d := d) (gl := gl) (gh := gh) (lo := lo) (hi := hi) (m := m) (ya := ya) (yv := yv) (ym := ym) (yl := yl) (yh := yh) (A := A) (R := R) (n := n) (c := c) (k := k) (cr := cr) (w := w))
  by_cases hz : alE N D d b gl gh m [] = 0
  · rw [hz] at HCS
    obtain ⟨hs, hc, hv, _, hsa⟩ := alE_zero hz
    have hnn : 0 ≤ m ∧ m ≤ 16 := by unfold saB at hsa; simp at hsa; exact hsa.1.2
    have hb2 : b.length = 2 := by unfold saB at hsa; simp at hsa; exact hsa.1.1.1
    obtain ⟨⟨a1, a2⟩, ⟨c1, c2⟩, rfl⟩ := list_two hb2
    obtain rfl : n = 2 := hl.symm
    obtain ⟨mm, rfl⟩ : ∃ mm : Nat, m = (mm : Int) := ⟨m.toNat, by omega⟩
    obtain ⟨⟨L0, L1⟩, ⟨H0, H1⟩, wx⟩ := within_facts hz
    have wl := wx.l
    have wh := wx.h
    have HR1 := Lib.hid (fun (W : World) (hW : Below w.heap.size w W) => by
      have := reachT_any N D d gl gh mm A 2 c w.heap.size _ W rfl hn hW.size (hr.below hW)
      rw [wx.re] at this
      exact this)
    have HWI := Lib.hid (fun (high : Bool) => show ∃ s0 s1 row, (∀ (W : World), Below w.heap.size w W → Calls Try.prog 25 #[.agg #[.int .i64 N, .int .i64 D, .int .i64 d], .slice A 2 c, .agg #[.int .i64 gl, .int .i64 gh], .int .i64 mm, .bool high] W (GivesWi W ((s0, s1), row, 0))) ∧ inXB a1 a2 c1 c2 gl gh mm s0 s1 row = true ∧ laN N D d s0 s1 row = (if high then (H0, H1) else (L0, L1), true) ∧ row.length ≤ maxLen from by
      obtain ⟨s0, s1, row, h1, h2, h3, h4⟩ := wx.wi high
      refine ⟨s0, s1, row, fun W hW => ?_, h2, h3, le_maxLen (by omega)⟩
      have := witnessT_any N D d gl gh mm high A 2 c w.heap.size _ W rfl hn hW.size (hr.below hW)
      rw [h1] at this
      exact this)
    have HIN := Lib.hid (fun (s0 s1 : Int) (R9 : Option Addr) (n9 c9 : Nat) (row : List Int) (W : World) (hW : Below w.heap.size w W) (h1 : row.length = n9) (h2 : n9 ≤ maxLen) (h3 : RI W W.heap.size R9 row) => in_any a1 a2 c1 c2 gl gh lo hi mm s0 s1 A R9 c n9 c9 w.heap.size W.heap.size row W h1 h2 hW.size (Nat.le_refl _) (hr.below hW) h3)
    have HLA := Lib.hid (fun (s0 s1 : Int) (R9 : Option Addr) (n9 c9 : Nat) (row : List Int) (W : World) (h1 : row.length = n9) (h2 : n9 ≤ maxLen) (h3 : RI W W.heap.size R9 row) => last_any7 N D d s0 s1 R9 n9 c9 W.heap.size row W h1 h2 (Nat.le_refl _) h3)
    have HFR := Lib.hid (fun (p q : Int) (h : 1 ≤ q) (W : World) => by have := jfraction_any p q W; rw [decide_eq_true (show 0 < q by omega)] at this; exact this)
    have HFL := Lib.hid (HFR.out L0 L1 wl.2.1)
    have HFH := Lib.hid (HFR.out H0 H1 wh.2.1)
    have HGR := Lib.hid (fun (W : World) (hW : Below w.heap.size w W) => (hgr.below hW).more hW.size)
    have HGL := Lib.hid (And.intro hgl hkn)
    have HY := Lib.hid (show inXB a1 a2 c1 c2 gl gh mm ya yv G = false ∨ (inXB a1 a2 c1 c2 gl gh mm ya yv G = true ∧ ∃ P0 P1 : Int, laN N D d ya yv G = ((P0, P1), true) ∧ (∀ W, Calls Try.prog 44 #[.agg #[.int .i64 P0, .int .i64 P1], .agg #[.int .i64 L0, .int .i64 L1]] W fun e w' => e = .returned (.bool false) ∧ Below W.heap.size W w') ∧ (∀ W, Calls Try.prog 44 #[.agg #[.int .i64 H0, .int .i64 H1], .agg #[.int .i64 P0, .int .i64 P1]] W fun e w' => e = .returned (.bool false) ∧ Below W.heap.size W w')) from by
      cases hi9 : inXB a1 a2 c1 c2 gl gh mm ya yv G with
      | false => exact Or.inl rfl
      | true =>
        obtain ⟨⟨P0, P1⟩, k1, k2, k3, k4⟩ := wx.y ya yv G hi9
        refine Or.inr ⟨rfl, P0, P1, k1, fun W => ?_, fun W => ?_⟩
        · have := jless_any P0 P1 L0 L1 W k2.2.1 k2.2.2 k2.1.1 k2.1.2 wl.2.1 wl.2.2 wl.1.1 wl.1.2
          rw [k3] at this
          exact this
        · have := jless_any H0 H1 P0 P1 W wh.2.1 wh.2.2 wh.1.1 wh.1.2 k2.2.1 k2.2.2 k2.1.1 k2.1.2
          rw [k4] at this
          exact this)
    have hp1 := eq_pair L0 L1
    have hp2 := eq_pair H0 H1
    clear wk hz hs hc hv hsa hb2 hl hr wl wh wx hgl hgr HFR hnn
    go_enter Try.func8, Try.ntmps8
    go_upto_region 1 with (fail)
    generalize World.alloc _ _ = w1 at *
    have s0 := cellOf (o := 0) HK.out.s rfl
    have s1 := cellOf (o := 1) HK.out.s rfl
    have s2 := cellOf (o := 2) HK.out.s rfl
    have x0 := cellOf (o := 0) HK.out.x rfl
    have x1 := cellOf (o := 1) HK.out.x rfl
    have x2 := cellOf (o := 2) HK.out.x rfl
    have x3 := cellOf (o := 3) HK.out.x rfl
    have x4 := cellOf (o := 4) HK.out.x rfl
    have x5 := cellOf (o := 5) HK.out.x rfl
    have y0 := cellOf (o := 0) HK.out.y rfl
    have y1 := cellOf (o := 1) HK.out.y rfl
    have y2 := cellOf (o := 2) HK.out.y rfl
    have l0 := lt_of_block HK.out.s
    have l1 := lt_of_block HK.out.x
    have l2 := lt_of_block HK.out.y
    go_upto_region 4 with (first
      | (go_at_call 40; refine Calls.mono (HCS.out _ HK.out.b) ?_; rintro e v1 ⟨rfl, hb1⟩; have HK := Lib.hid (HK.out.next hb1); clear hb1; clear s0 s1 s2 x0 x1 x2 x3 x4 x5 y0 y1 y2 l0 l1 l2; have s0 := cellOf (o := 0) HK.out.s rfl; have s1 := cellOf (o := 1) HK.out.s rfl; have s2 := cellOf (o := 2) HK.out.s rfl; have x0 := cellOf (o := 0) HK.out.x rfl; have x1 := cellOf (o := 1) HK.out.x rfl; have x2 := cellOf (o := 2) HK.out.x rfl; have x3 := cellOf (o := 3) HK.out.x rfl; have x4 := cellOf (o := 4) HK.out.x rfl; have x5 := cellOf (o := 5) HK.out.x rfl; have y0 := cellOf (o := 0) HK.out.y rfl; have y1 := cellOf (o := 1) HK.out.y rfl; have y2 := cellOf (o := 2) HK.out.y rfl; have l0 := lt_of_block HK.out.s; have l1 := lt_of_block HK.out.x; have l2 := lt_of_block HK.out.y)
      | (go_at_call 23; refine Calls.mono (HR1.out _ HK.out.b) ?_; rintro e v2 ⟨rfl, hb2⟩; have HK := Lib.hid (((HK.out.next hb2).alloc (.cells #[.int .i64 L0, .int .i64 L1] 24)).alloc (.cells #[.int .i64 H0, .int .i64 H1] 24)); clear hb2; clear s0 s1 s2 x0 x1 x2 x3 x4 x5 y0 y1 y2 l0 l1 l2))
    have BL := Lib.hid (blk_old (.cells #[.int .i64 H0, .int .i64 H1] 24) (blk_new v2 (.cells #[.int .i64 L0, .int .i64 L1] 24) _ rfl))
    have BH := Lib.hid (blk_new (v2.alloc (.cells #[.int .i64 L0, .int .i64 L1] 24)) (.cells #[.int .i64 H0, .int .i64 H1] 24) (v2.heap.size + 1) (by simp))
    obtain ⟨q1, hq1⟩ : ∃ q, v2.heap.size = q := ⟨_, rfl⟩
    rw [hq1] at BL BH ⊢
    clear hq1
    generalize World.alloc (World.alloc v2 _) _ = w2 at *
    have c10 := cellOf (o := 0) BL.out rfl
    have c11 := cellOf (o := 1) BL.out rfl
    have m1 := lt_of_block BL.out
    have c20 := cellOf (o := 0) BH.out rfl
    have c21 := cellOf (o := 1) BH.out rfl
    have m2 := lt_of_block BH.out
    go_upto_region 6 with (first
      | (go_at_call_of 41 (Value.agg #[.int .i64 L0, .int .i64 L1]); refine Calls.mono (HFL.out _) ?_; rintro e v3 ⟨rfl, hb3⟩; have HK := Lib.hid (HK.out.next hb3); have BL := Lib.hid ((hb3.block _ (lt_of_block BL.out)).trans BL.out); have BH := Lib.hid ((hb3.block _ (lt_of_block BH.out)).trans BH.out); clear hb3; clear c10 c11 m1; clear c20 c21 m2; have c10 := cellOf (o := 0) BL.out rfl; have c11 := cellOf (o := 1) BL.out rfl; have m1 := lt_of_block BL.out; have c20 := cellOf (o := 0) BH.out rfl; have c21 := cellOf (o := 1) BH.out rfl; have m2 := lt_of_block BH.out)
      | (go_at_call 41; refine Calls.mono (HFH.out _) ?_; rintro e v3 ⟨rfl, hb3⟩; have HK := Lib.hid (HK.out.next hb3); have BL := Lib.hid ((hb3.block _ (lt_of_block BL.out)).trans BL.out); have BH := Lib.hid ((hb3.block _ (lt_of_block BH.out)).trans BH.out); clear hb3; clear c10 c11 m1; clear c20 c21 m2; have c10 := cellOf (o := 0) BL.out rfl; have c11 := cellOf (o := 1) BL.out rfl; have m1 := lt_of_block BL.out; have c20 := cellOf (o := 0) BH.out rfl; have c21 := cellOf (o := 1) BH.out rfl; have m2 := lt_of_block BH.out))
    clear c10 c11 m1
    clear c20 c21 m2
    go_wp2
    go_loopw [10] (fun iw wr => ∃ kk : Nat, kk ≤ 2 ∧ iw = .int .i64 kk ∧ Below v3.heap.size v3 wr) (fun iw _ => 2 - (intOf iw).toNat)
    case atStart => exact ⟨0, by omega, rfl, Below.refl _ _⟩
    case round =>
      obtain ⟨kk, hkk, rfl, hbw⟩ := hrel
      have HBW := Lib.hid hbw
      have HK := Lib.hid (HK.out.next hbw)
      have BL := Lib.hid ((hbw.block _ (lt_of_block BL.out)).trans BL.out)
      have BH := Lib.hid ((hbw.block _ (lt_of_block BH.out)).trans BH.out)
      clear hbw
      by_cases hlt : kk < 2
      · obtain ⟨high, hhi⟩ : ∃ h, decide (kk = 1) = h := ⟨_, rfl⟩
        obtain ⟨p0, p1, row, wi1, wi2, wi3, wi4⟩ := HWI.out high
        have HW1 := Lib.hid wi1
        have HW2 := Lib.hid (fun (R9 : Option Addr) (c9 : Nat) (W : World) (hW : Below w.heap.size w W) (h3 : RI W W.heap.size R9 row) => by
          have := HIN.out p0 p1 R9 row.length c9 row W hW rfl wi4 h3
          rw [wi2] at this
          exact this)
        have HW3 := Lib.hid (fun (R9 : Option Addr) (c9 : Nat) (W : World) (h3 : RI W W.heap.size R9 row) => by
          have := HLA.out p0 p1 R9 row.length c9 row W rfl wi4 h3
          rw [wi3] at this
          exact this)
        clear wi1 wi2 wi3 wi4
        obtain rfl | rfl : kk = 0 ∨ kk = 1 := by omega
        · obtain rfl : high = false := hhi.symm
          simp only [Bool.false_eq_true, if_false] at HW3
          clear hhi
          have s0 := cellOf (o := 0) HK.out.s rfl
          have s1 := cellOf (o := 1) HK.out.s rfl
          have s2 := cellOf (o := 2) HK.out.s rfl
          have x0 := cellOf (o := 0) HK.out.x rfl
          have x1 := cellOf (o := 1) HK.out.x rfl
          have x2 := cellOf (o := 2) HK.out.x rfl
          have x3 := cellOf (o := 3) HK.out.x rfl
          have x4 := cellOf (o := 4) HK.out.x rfl
          have x5 := cellOf (o := 5) HK.out.x rfl
          have y0 := cellOf (o := 0) HK.out.y rfl
          have y1 := cellOf (o := 1) HK.out.y rfl
          have y2 := cellOf (o := 2) HK.out.y rfl
          have l0 := lt_of_block HK.out.s
          have l1 := lt_of_block HK.out.x
          have l2 := lt_of_block HK.out.y
          go_upto_region 10 with (go_at_call 25; refine Calls.mono (HW1.out _ HK.out.b) ?_; rintro e v5 ⟨u5, rfl, hq5, hb5⟩; have HQ5 := Lib.hid (hq5.stay ((Below.refl _ _).alloc (Nat.le_refl _) (.cells #[.int .i64 p0, .int .i64 p1] 24))); have HBW := Lib.hid ((HBW.out.trans (hb5.mono HBW.out.size)).alloc (Nat.le_trans HBW.out.size hb5.size) (.cells #[.int .i64 p0, .int .i64 p1] 24)); have HK := Lib.hid ((HK.out.next hb5).alloc (.cells #[.int .i64 p0, .int .i64 p1] 24)); have BL := Lib.hid (blk_old (.cells #[.int .i64 p0, .int .i64 p1] 24) ((hb5.block _ (lt_of_block BL.out)).trans BL.out)); have BH := Lib.hid (blk_old (.cells #[.int .i64 p0, .int .i64 p1] 24) ((hb5.block _ (lt_of_block BH.out)).trans BH.out)); have BS := Lib.hid (blk_new v5 (.cells #[.int .i64 p0, .int .i64 p1] 24) _ rfl); clear hb5 hq5; clear s0 s1 s2 x0 x1 x2 x3 x4 x5 y0 y1 y2 l0 l1 l2)
          obtain ⟨q5, hq5⟩ : ∃ q, v5.heap.size = q := ⟨_, rfl⟩
          rw [hq5] at BS ⊢
          clear hq5
          generalize World.alloc v5 _ = w5 at *
          obtain ⟨R5, c5, e5, _, hr5⟩ := HQ5.out
          try simp only at e5 hr5
          subst e5
          have HR5 := Lib.hid hr5
          clear hr5
          have s0 := cellOf (o := 0) HK.out.s rfl
          have s1 := cellOf (o := 1) HK.out.s rfl
          have s2 := cellOf (o := 2) HK.out.s rfl
          have x0 := cellOf (o := 0) HK.out.x rfl
          have x1 := cellOf (o := 1) HK.out.x rfl
          have x2 := cellOf (o := 2) HK.out.x rfl
          have x3 := cellOf (o := 3) HK.out.x rfl
          have x4 := cellOf (o := 4) HK.out.x rfl
          have x5 := cellOf (o := 5) HK.out.x rfl
          have y0 := cellOf (o := 0) HK.out.y rfl
          have y1 := cellOf (o := 1) HK.out.y rfl
          have y2 := cellOf (o := 2) HK.out.y rfl
          have l0 := lt_of_block HK.out.s
          have l1 := lt_of_block HK.out.x
          have l2 := lt_of_block HK.out.y
          have c30 := cellOf (o := 0) BS.out rfl
          have c31 := cellOf (o := 1) BS.out rfl
          have m3 := lt_of_block BS.out
          go_upto_region 13 with (first
            | (go_at_call 42; refine Calls.mono (HW2.out _ _ _ HK.out.b HR5.out) ?_; rintro e v6 ⟨rfl, hb6⟩; have HR5 := Lib.hid ((HR5.out.below hb6).more hb6.size); have HBW := Lib.hid (HBW.out.trans (hb6.mono HBW.out.size)); have HK := Lib.hid (HK.out.next hb6); have BL := Lib.hid ((hb6.block _ (lt_of_block BL.out)).trans BL.out); have BH := Lib.hid ((hb6.block _ (lt_of_block BH.out)).trans BH.out); have BS := Lib.hid ((hb6.block _ (lt_of_block BS.out)).trans BS.out); clear hb6; clear s0 s1 s2 x0 x1 x2 x3 x4 x5 y0 y1 y2 l0 l1 l2; clear c30 c31 m3; have s0 := cellOf (o := 0) HK.out.s rfl; have s1 := cellOf (o := 1) HK.out.s rfl; have s2 := cellOf (o := 2) HK.out.s rfl; have x0 := cellOf (o := 0) HK.out.x rfl; have x1 := cellOf (o := 1) HK.out.x rfl; have x2 := cellOf (o := 2) HK.out.x rfl; have x3 := cellOf (o := 3) HK.out.x rfl; have x4 := cellOf (o := 4) HK.out.x rfl; have x5 := cellOf (o := 5) HK.out.x rfl; have y0 := cellOf (o := 0) HK.out.y rfl; have y1 := cellOf (o := 1) HK.out.y rfl; have y2 := cellOf (o := 2) HK.out.y rfl; have l0 := lt_of_block HK.out.s; have l1 := lt_of_block HK.out.x; have l2 := lt_of_block HK.out.y; have c30 := cellOf (o := 0) BS.out rfl; have c31 := cellOf (o := 1) BS.out rfl; have m3 := lt_of_block BS.out)
            | (go_at_call 43; refine Calls.mono (HW3.out _ _ _ HR5.out) ?_; rintro e v7 ⟨rfl, hb7⟩; have HBW := Lib.hid ((HBW.out.trans (hb7.mono HBW.out.size)).alloc (Nat.le_trans HBW.out.size hb7.size) (.cells #[.int .i64 L0, .int .i64 L1] 24)); have BL := Lib.hid (blk_old (.cells #[.int .i64 L0, .int .i64 L1] 24) ((hb7.block _ (lt_of_block BL.out)).trans BL.out)); have BH := Lib.hid (blk_old (.cells #[.int .i64 L0, .int .i64 L1] 24) ((hb7.block _ (lt_of_block BH.out)).trans BH.out)); have BE := Lib.hid (blk_new v7 (.cells #[.int .i64 L0, .int .i64 L1] 24) _ rfl); clear hb7; clear s0 s1 s2 x0 x1 x2 x3 x4 x5 y0 y1 y2 l0 l1 l2; clear c30 c31 m3))
          obtain ⟨q7, hq7⟩ : ∃ q, v7.heap.size = q := ⟨_, rfl⟩
          rw [hq7] at BE ⊢
          clear hq7
          generalize World.alloc v7 _ = w7 at *
          have c10 := cellOf (o := 0) BL.out rfl
          have c11 := cellOf (o := 1) BL.out rfl
          have m1 := lt_of_block BL.out
          have c20 := cellOf (o := 0) BH.out rfl
          have c21 := cellOf (o := 1) BH.out rfl
          have m2 := lt_of_block BH.out
          have c40 := cellOf (o := 0) BE.out rfl
          have c41 := cellOf (o := 1) BE.out rfl
          have m4 := lt_of_block BE.out
          go_wp2
          go_roundw
          case rel => exact ⟨1, by omega, rfl, HBW.out⟩
          case measure => simp [intOf]
        · obtain rfl : high = true := hhi.symm
          simp only [if_true] at HW3
          clear hhi
          have s0 := cellOf (o := 0) HK.out.s rfl
          have s1 := cellOf (o := 1) HK.out.s rfl
          have s2 := cellOf (o := 2) HK.out.s rfl
          have x0 := cellOf (o := 0) HK.out.x rfl
          have x1 := cellOf (o := 1) HK.out.x rfl
          have x2 := cellOf (o := 2) HK.out.x rfl
          have x3 := cellOf (o := 3) HK.out.x rfl
          have x4 := cellOf (o := 4) HK.out.x rfl
          have x5 := cellOf (o := 5) HK.out.x rfl
          have y0 := cellOf (o := 0) HK.out.y rfl
          have y1 := cellOf (o := 1) HK.out.y rfl
          have y2 := cellOf (o := 2) HK.out.y rfl
          have l0 := lt_of_block HK.out.s
          have l1 := lt_of_block HK.out.x
          have l2 := lt_of_block HK.out.y
          go_upto_region 10 with (go_at_call 25; refine Calls.mono (HW1.out _ HK.out.b) ?_; rintro e v5 ⟨u5, rfl, hq5, hb5⟩; have HQ5 := Lib.hid (hq5.stay ((Below.refl _ _).alloc (Nat.le_refl _) (.cells #[.int .i64 p0, .int .i64 p1] 24))); have HBW := Lib.hid ((HBW.out.trans (hb5.mono HBW.out.size)).alloc (Nat.le_trans HBW.out.size hb5.size) (.cells #[.int .i64 p0, .int .i64 p1] 24)); have HK := Lib.hid ((HK.out.next hb5).alloc (.cells #[.int .i64 p0, .int .i64 p1] 24)); have BL := Lib.hid (blk_old (.cells #[.int .i64 p0, .int .i64 p1] 24) ((hb5.block _ (lt_of_block BL.out)).trans BL.out)); have BH := Lib.hid (blk_old (.cells #[.int .i64 p0, .int .i64 p1] 24) ((hb5.block _ (lt_of_block BH.out)).trans BH.out)); have BS := Lib.hid (blk_new v5 (.cells #[.int .i64 p0, .int .i64 p1] 24) _ rfl); clear hb5 hq5; clear s0 s1 s2 x0 x1 x2 x3 x4 x5 y0 y1 y2 l0 l1 l2)
          obtain ⟨q5, hq5⟩ : ∃ q, v5.heap.size = q := ⟨_, rfl⟩
          rw [hq5] at BS ⊢
          clear hq5
          generalize World.alloc v5 _ = w5 at *
          obtain ⟨R5, c5, e5, _, hr5⟩ := HQ5.out
          try simp only at e5 hr5
          subst e5
          have HR5 := Lib.hid hr5
          clear hr5
          have s0 := cellOf (o := 0) HK.out.s rfl
          have s1 := cellOf (o := 1) HK.out.s rfl
          have s2 := cellOf (o := 2) HK.out.s rfl
          have x0 := cellOf (o := 0) HK.out.x rfl
          have x1 := cellOf (o := 1) HK.out.x rfl
          have x2 := cellOf (o := 2) HK.out.x rfl
          have x3 := cellOf (o := 3) HK.out.x rfl
          have x4 := cellOf (o := 4) HK.out.x rfl
          have x5 := cellOf (o := 5) HK.out.x rfl
          have y0 := cellOf (o := 0) HK.out.y rfl
          have y1 := cellOf (o := 1) HK.out.y rfl
          have y2 := cellOf (o := 2) HK.out.y rfl
          have l0 := lt_of_block HK.out.s
          have l1 := lt_of_block HK.out.x
          have l2 := lt_of_block HK.out.y
          have c30 := cellOf (o := 0) BS.out rfl
          have c31 := cellOf (o := 1) BS.out rfl
          have m3 := lt_of_block BS.out
          go_upto_region 13 with (first
            | (go_at_call 42; refine Calls.mono (HW2.out _ _ _ HK.out.b HR5.out) ?_; rintro e v6 ⟨rfl, hb6⟩; have HR5 := Lib.hid ((HR5.out.below hb6).more hb6.size); have HBW := Lib.hid (HBW.out.trans (hb6.mono HBW.out.size)); have HK := Lib.hid (HK.out.next hb6); have BL := Lib.hid ((hb6.block _ (lt_of_block BL.out)).trans BL.out); have BH := Lib.hid ((hb6.block _ (lt_of_block BH.out)).trans BH.out); have BS := Lib.hid ((hb6.block _ (lt_of_block BS.out)).trans BS.out); clear hb6; clear s0 s1 s2 x0 x1 x2 x3 x4 x5 y0 y1 y2 l0 l1 l2; clear c30 c31 m3; have s0 := cellOf (o := 0) HK.out.s rfl; have s1 := cellOf (o := 1) HK.out.s rfl; have s2 := cellOf (o := 2) HK.out.s rfl; have x0 := cellOf (o := 0) HK.out.x rfl; have x1 := cellOf (o := 1) HK.out.x rfl; have x2 := cellOf (o := 2) HK.out.x rfl; have x3 := cellOf (o := 3) HK.out.x rfl; have x4 := cellOf (o := 4) HK.out.x rfl; have x5 := cellOf (o := 5) HK.out.x rfl; have y0 := cellOf (o := 0) HK.out.y rfl; have y1 := cellOf (o := 1) HK.out.y rfl; have y2 := cellOf (o := 2) HK.out.y rfl; have l0 := lt_of_block HK.out.s; have l1 := lt_of_block HK.out.x; have l2 := lt_of_block HK.out.y; have c30 := cellOf (o := 0) BS.out rfl; have c31 := cellOf (o := 1) BS.out rfl; have m3 := lt_of_block BS.out)
            | (go_at_call 43; refine Calls.mono (HW3.out _ _ _ HR5.out) ?_; rintro e v7 ⟨rfl, hb7⟩; have HBW := Lib.hid ((HBW.out.trans (hb7.mono HBW.out.size)).alloc (Nat.le_trans HBW.out.size hb7.size) (.cells #[.int .i64 H0, .int .i64 H1] 24)); have BL := Lib.hid (blk_old (.cells #[.int .i64 H0, .int .i64 H1] 24) ((hb7.block _ (lt_of_block BL.out)).trans BL.out)); have BH := Lib.hid (blk_old (.cells #[.int .i64 H0, .int .i64 H1] 24) ((hb7.block _ (lt_of_block BH.out)).trans BH.out)); have BE := Lib.hid (blk_new v7 (.cells #[.int .i64 H0, .int .i64 H1] 24) _ rfl); clear hb7; clear s0 s1 s2 x0 x1 x2 x3 x4 x5 y0 y1 y2 l0 l1 l2; clear c30 c31 m3))
          obtain ⟨q7, hq7⟩ : ∃ q, v7.heap.size = q := ⟨_, rfl⟩
          rw [hq7] at BE ⊢
          clear hq7
          generalize World.alloc v7 _ = w7 at *
          have c10 := cellOf (o := 0) BL.out rfl
          have c11 := cellOf (o := 1) BL.out rfl
          have m1 := lt_of_block BL.out
          have c20 := cellOf (o := 0) BH.out rfl
          have c21 := cellOf (o := 1) BH.out rfl
          have m2 := lt_of_block BH.out
          have c40 := cellOf (o := 0) BE.out rfl
          have c41 := cellOf (o := 1) BE.out rfl
          have m4 := lt_of_block BE.out
          go_wp2
          go_roundw
          case rel => exact ⟨2, by omega, rfl, HBW.out⟩
          case measure => simp [intOf]
      · obtain rfl : kk = 2 := by omega
        clear HWI HBW hlt hkk
        have hgl := HGL.out.1
        have hkn := HGL.out.2
        rcases HY.out with hy | ⟨hy, P0, P1, hla, hle1, hle2⟩
        · have HIY := Lib.hid (fun (W : World) (hW : Below w.heap.size w W) => by
            have := HIN.out ya yv R k cr G W hW hgl hkn (HGR.out W hW)
            rw [hy] at this
            exact this)
          clear hy hgl
          have s0 := cellOf (o := 0) HK.out.s rfl
          have s1 := cellOf (o := 1) HK.out.s rfl
          have s2 := cellOf (o := 2) HK.out.s rfl
          have x0 := cellOf (o := 0) HK.out.x rfl
          have x1 := cellOf (o := 1) HK.out.x rfl
          have x2 := cellOf (o := 2) HK.out.x rfl
          have x3 := cellOf (o := 3) HK.out.x rfl
          have x4 := cellOf (o := 4) HK.out.x rfl
          have x5 := cellOf (o := 5) HK.out.x rfl
          have y0 := cellOf (o := 0) HK.out.y rfl
          have y1 := cellOf (o := 1) HK.out.y rfl
          have y2 := cellOf (o := 2) HK.out.y rfl
          have l0 := lt_of_block HK.out.s
          have l1 := lt_of_block HK.out.x
          have l2 := lt_of_block HK.out.y
          go_wp2_with (first
            | (go_at_call 42; refine Calls.mono (HIY.out _ HK.out.b) ?_; rintro e v6 ⟨rfl, hb6⟩; have HK := Lib.hid (HK.out.next hb6); have BL := Lib.hid ((hb6.block _ (lt_of_block BL.out)).trans BL.out); have BH := Lib.hid ((hb6.block _ (lt_of_block BH.out)).trans BH.out); clear hb6; clear s0 s1 s2 x0 x1 x2 x3 x4 x5 y0 y1 y2 l0 l1 l2; have s0 := cellOf (o := 0) HK.out.s rfl; have s1 := cellOf (o := 1) HK.out.s rfl; have s2 := cellOf (o := 2) HK.out.s rfl; have x0 := cellOf (o := 0) HK.out.x rfl; have x1 := cellOf (o := 1) HK.out.x rfl; have x2 := cellOf (o := 2) HK.out.x rfl; have x3 := cellOf (o := 3) HK.out.x rfl; have x4 := cellOf (o := 4) HK.out.x rfl; have x5 := cellOf (o := 5) HK.out.x rfl; have y0 := cellOf (o := 0) HK.out.y rfl; have y1 := cellOf (o := 1) HK.out.y rfl; have y2 := cellOf (o := 2) HK.out.y rfl; have l0 := lt_of_block HK.out.s; have l1 := lt_of_block HK.out.x; have l2 := lt_of_block HK.out.y)
            | (go_at_call 22; refine Calls.mono (HWK.out _) ?_; rintro e v9 ⟨rfl, hb9⟩; have HX9 := Lib.hid (HK.out.b.trans (hb9.mono HK.out.b.size)); clear hb9))
          go_ret
          exact ⟨rfl, HX9.out⟩
        · have HIY := Lib.hid (fun (W : World) (hW : Below w.heap.size w W) => by
            have := HIN.out ya yv R k cr G W hW hgl hkn (HGR.out W hW)
            rw [hy] at this
            exact this)
          have HLY := Lib.hid (fun (W : World) (hW : Below w.heap.size w W) => by
            have := HLA.out ya yv R k cr G W hgl hkn (HGR.out W hW)
            rw [hla] at this
            exact this)
          have HE1 := Lib.hid hle1
          have HE2 := Lib.hid hle2
          clear hy hgl hla hle1 hle2
          have s0 := cellOf (o := 0) HK.out.s rfl
          have s1 := cellOf (o := 1) HK.out.s rfl
          have s2 := cellOf (o := 2) HK.out.s rfl
          have x0 := cellOf (o := 0) HK.out.x rfl
          have x1 := cellOf (o := 1) HK.out.x rfl
          have x2 := cellOf (o := 2) HK.out.x rfl
          have x3 := cellOf (o := 3) HK.out.x rfl
          have x4 := cellOf (o := 4) HK.out.x rfl
          have x5 := cellOf (o := 5) HK.out.x rfl
          have y0 := cellOf (o := 0) HK.out.y rfl
          have y1 := cellOf (o := 1) HK.out.y rfl
          have y2 := cellOf (o := 2) HK.out.y rfl
          have l0 := lt_of_block HK.out.s
          have l1 := lt_of_block HK.out.x
          have l2 := lt_of_block HK.out.y
          go_upto_region 18 with (first
            | (go_at_call 42; refine Calls.mono (HIY.out _ HK.out.b) ?_; rintro e v6 ⟨rfl, hb6⟩; have HK := Lib.hid (HK.out.next hb6); have BL := Lib.hid ((hb6.block _ (lt_of_block BL.out)).trans BL.out); have BH := Lib.hid ((hb6.block _ (lt_of_block BH.out)).trans BH.out); clear hb6; clear s0 s1 s2 x0 x1 x2 x3 x4 x5 y0 y1 y2 l0 l1 l2; have s0 := cellOf (o := 0) HK.out.s rfl; have s1 := cellOf (o := 1) HK.out.s rfl; have s2 := cellOf (o := 2) HK.out.s rfl; have x0 := cellOf (o := 0) HK.out.x rfl; have x1 := cellOf (o := 1) HK.out.x rfl; have x2 := cellOf (o := 2) HK.out.x rfl; have x3 := cellOf (o := 3) HK.out.x rfl; have x4 := cellOf (o := 4) HK.out.x rfl; have x5 := cellOf (o := 5) HK.out.x rfl; have y0 := cellOf (o := 0) HK.out.y rfl; have y1 := cellOf (o := 1) HK.out.y rfl; have y2 := cellOf (o := 2) HK.out.y rfl; have l0 := lt_of_block HK.out.s; have l1 := lt_of_block HK.out.x; have l2 := lt_of_block HK.out.y)
            | (go_at_call 43; refine Calls.mono (HLY.out _ HK.out.b) ?_; rintro e v7 ⟨rfl, hb7⟩; have HK := Lib.hid ((HK.out.next hb7).alloc (.cells #[.int .i64 P0, .int .i64 P1] 24)); have BL := Lib.hid (blk_old (.cells #[.int .i64 P0, .int .i64 P1] 24) ((hb7.block _ (lt_of_block BL.out)).trans BL.out)); have BH := Lib.hid (blk_old (.cells #[.int .i64 P0, .int .i64 P1] 24) ((hb7.block _ (lt_of_block BH.out)).trans BH.out)); have BE := Lib.hid (blk_new v7 (.cells #[.int .i64 P0, .int .i64 P1] 24) _ rfl); clear hb7; clear s0 s1 s2 x0 x1 x2 x3 x4 x5 y0 y1 y2 l0 l1 l2))
          obtain ⟨q7, hq7⟩ : ∃ q, v7.heap.size = q := ⟨_, rfl⟩
          rw [hq7] at BE ⊢
          clear hq7
          generalize World.alloc v7 _ = w7 at *
          have c10 := cellOf (o := 0) BL.out rfl
          have c11 := cellOf (o := 1) BL.out rfl
          have m1 := lt_of_block BL.out
          have c20 := cellOf (o := 0) BH.out rfl
          have c21 := cellOf (o := 1) BH.out rfl
          have m2 := lt_of_block BH.out
          have c40 := cellOf (o := 0) BE.out rfl
          have c41 := cellOf (o := 1) BE.out rfl
          have m4 := lt_of_block BE.out
          go_wp2_with (first
            | (go_at_call_of 44 (Value.agg #[.int .i64 L0, .int .i64 L1]); refine Calls.mono (HE1.out _) ?_; rintro e v8 ⟨rfl, hb8⟩; have HK := Lib.hid (HK.out.next hb8); have BL := Lib.hid ((hb8.block _ (lt_of_block BL.out)).trans BL.out); have BH := Lib.hid ((hb8.block _ (lt_of_block BH.out)).trans BH.out); have BE := Lib.hid ((hb8.block _ (lt_of_block BE.out)).trans BE.out); clear hb8; clear c10 c11 m1; clear c20 c21 m2; clear c40 c41 m4; have c10 := cellOf (o := 0) BL.out rfl; have c11 := cellOf (o := 1) BL.out rfl; have m1 := lt_of_block BL.out; have c20 := cellOf (o := 0) BH.out rfl; have c21 := cellOf (o := 1) BH.out rfl; have m2 := lt_of_block BH.out; have c40 := cellOf (o := 0) BE.out rfl; have c41 := cellOf (o := 1) BE.out rfl; have m4 := lt_of_block BE.out)
            | (go_at_call 44; refine Calls.mono (HE2.out _) ?_; rintro e v8 ⟨rfl, hb8⟩; have HK := Lib.hid (HK.out.next hb8); have BL := Lib.hid ((hb8.block _ (lt_of_block BL.out)).trans BL.out); have BH := Lib.hid ((hb8.block _ (lt_of_block BH.out)).trans BH.out); have BE := Lib.hid ((hb8.block _ (lt_of_block BE.out)).trans BE.out); clear hb8; clear c10 c11 m1; clear c20 c21 m2; clear c40 c41 m4; have c10 := cellOf (o := 0) BL.out rfl; have c11 := cellOf (o := 1) BL.out rfl; have m1 := lt_of_block BL.out; have c20 := cellOf (o := 0) BH.out rfl; have c21 := cellOf (o := 1) BH.out rfl; have m2 := lt_of_block BH.out; have c40 := cellOf (o := 0) BE.out rfl; have c41 := cellOf (o := 1) BE.out rfl; have m4 := lt_of_block BE.out)
            | (go_at_call 22; refine Calls.mono (HWK.out _) ?_; rintro e v9 ⟨rfl, hb9⟩; have HX9 := Lib.hid (HK.out.b.trans (hb9.mono HK.out.b.size)); clear hb9))
          go_ret
          exact ⟨rfl, HX9.out⟩
  · have hE0 : (alE N D d b gl gh m [] != 0) = true := by rw [bne_iff_ne]; exact hz
    generalize alE N D d b gl gh m [] = E at *
    clear wk hz hr hl hgr hgl
    go_enter Try.func8, Try.ntmps8
    go_upto_region 1 with (fail)
    generalize World.alloc _ _ = w1 at *
    have s0 := cellOf (o := 0) HK.out.s rfl
    have s1 := cellOf (o := 1) HK.out.s rfl
    have s2 := cellOf (o := 2) HK.out.s rfl
    have x0 := cellOf (o := 0) HK.out.x rfl
    have x1 := cellOf (o := 1) HK.out.x rfl
    have x2 := cellOf (o := 2) HK.out.x rfl
    have x3 := cellOf (o := 3) HK.out.x rfl
    have x4 := cellOf (o := 4) HK.out.x rfl
    have x5 := cellOf (o := 5) HK.out.x rfl
    have y0 := cellOf (o := 0) HK.out.y rfl
    have y1 := cellOf (o := 1) HK.out.y rfl
    have y2 := cellOf (o := 2) HK.out.y rfl
    have l0 := lt_of_block HK.out.s
    have l1 := lt_of_block HK.out.x
    have l2 := lt_of_block HK.out.y
    go_wp2_with (first
      | (go_at_call 40; refine Calls.mono (HCS.out _ HK.out.b) ?_; rintro e v1 ⟨rfl, hb1⟩; have HK := Lib.hid (HK.out.next hb1); clear hb1; clear s0 s1 s2 x0 x1 x2 x3 x4 x5 y0 y1 y2 l0 l1 l2; have s0 := cellOf (o := 0) HK.out.s rfl; have s1 := cellOf (o := 1) HK.out.s rfl; have s2 := cellOf (o := 2) HK.out.s rfl; have x0 := cellOf (o := 0) HK.out.x rfl; have x1 := cellOf (o := 1) HK.out.x rfl; have x2 := cellOf (o := 2) HK.out.x rfl; have x3 := cellOf (o := 3) HK.out.x rfl; have x4 := cellOf (o := 4) HK.out.x rfl; have x5 := cellOf (o := 5) HK.out.x rfl; have y0 := cellOf (o := 0) HK.out.y rfl; have y1 := cellOf (o := 1) HK.out.y rfl; have y2 := cellOf (o := 2) HK.out.y rfl; have l0 := lt_of_block HK.out.s; have l1 := lt_of_block HK.out.x; have l2 := lt_of_block HK.out.y)
      | (go_at_call 22; refine Calls.mono (HWK.out _) ?_; rintro e v9 ⟨rfl, hb9⟩; have HX9 := Lib.hid (HK.out.b.trans (hb9.mono HK.out.b.size)); clear hb9))
    go_ret
    exact ⟨rfl, HX9.out⟩
end Go.Proofs.Ytnnmmojlgikdgaa

/- Plain mathematics: what the law of the envelope asks. -/
namespace Go.Proofs.Ytnnmmojlgikdgaa
open Go.RowKit

theorem alE_less {N D d gl gh : Int} {m t : Nat} {b : List (Int × Int)} (h : alE N D d b gl gh m [] = 0) (ht : t ≤ m) : alE N D d b gl gh t [] = 0 := by
  obtain ⟨h1, h2, h3, _, h5⟩ := alE_zero h
  unfold alE
  have : saB b gl gh t = true := by
    unfold saB at h5 ⊢
    simp only [Bool.and_eq_true, decide_eq_true_eq] at h5 ⊢
    exact ⟨⟨h5.1.1, by omega, by omega⟩, h5.2⟩
  rw [h1, h2, h3, this]
  rfl
/-- The end that a witness reaches, outside of the limit or not. -/
structure EO (N D d a1 a2 c1 c2 gl gh lo hi : Int) (t : Nat) (high : Bool) (s0 s1 : Int) (row : List Int) (P : Int × Int) (u v : Bool) : Prop where
  wi : wiN N D d [(a1, a2), (c1, c2)] gl gh t high = ((s0, s1), row, 0)
  la : laN N D d s0 s1 row = (P, true)
  bd : BD P
  len : row.length = t
  lo : decide (P.1 * 1 < lo * P.2) = u
  hi : decide (hi * P.2 < P.1 * 1) = v
theorem env_wit {N D d a1 a2 c1 c2 gl gh lo hi : Int} {t : Nat} (hz : alE N D d [(a1, a2), (c1, c2)] gl gh t [] = 0) (high : Bool) : ∃ s0 s1 row P, EO N D d a1 a2 c1 c2 gl gh lo hi t high s0 s1 row P (decide (endN high ([(a1, a2), (c1, c2)] ++ List.replicate t (gl, gh)) (efL N D d t) < lo * powI d t)) (decide (hi * powI d t < endN high ([(a1, a2), (c1, c2)] ++ List.replicate t (gl, gh)) (efL N D d t))) := by
  obtain ⟨L, H, wx⟩ := within_facts hz
  obtain ⟨hs, hc, hv, _, hsa⟩ := alE_zero hz
  have hm : t ≤ 16 := by unfold saB at hsa; simp at hsa; omega
  obtain ⟨⟨d1, d2⟩, _, _⟩ := slB_get hs
  have hq := (powI_bd d1 d2 t).1
  obtain ⟨s0, s1, row, h1, h2, h3, h4⟩ := wx.wi high
  have hre := wx.re
  unfold reN at hre
  rw [if_pos hz, Int.toNat_natCast] at hre
  have hP : (if high then H else L) = lowN (endN high ([(a1, a2), (c1, c2)] ++ List.replicate t (gl, gh)) (efL N D d t)) (powI d t) := by
    have e1 := congrArg (·.1) hre
    have e2 := congrArg (·.2.1) hre
    simp only at e1 e2
    cases high
    · exact e1.symm
    · exact e2.symm
  have hbd : BD (if high then H else L) := by cases high; exact wx.l; exact wx.h
  refine ⟨s0, s1, row, _, h1, h3, hbd, h4, ?_, ?_⟩
  · rw [hP]; exact (low_less1 hq).1
  · rw [hP]; exact (low_less1 hq).2
/-- Not kept: at that tick a witness is out. -/
theorem env_no {N D d a1 a2 c1 c2 gl gh lo hi t : Int} {m : Nat} (hz : alE N D d [(a1, a2), (c1, c2)] gl gh m [] = 0) (hk : kpN N D d [(a1, a2), (c1, c2)] gl gh m lo hi = ((t, false), 0)) :
    ∃ (tk : Nat) (s0 s1 : Int) (row : List Int) (P : Int × Int) (u v : Bool) (s0' s1' : Int) (row' : List Int) (P' : Int × Int) (u' v' : Bool), t = tk ∧ tk ≤ m ∧ EO N D d a1 a2 c1 c2 gl gh lo hi tk false s0 s1 row P u v ∧ EO N D d a1 a2 c1 c2 gl gh lo hi tk true s0' s1' row' P' u' v' ∧ ((u || v) || (u' || v')) = true := by
  have hal : alE N D d [(a1, a2), (c1, c2)] gl gh m [(lo, hi)] = 0 := by
    unfold kpN at hk
    split at hk
    · assumption
    · exact absurd (congrArg (·.2) hk) (by assumption)
  unfold kpN at hk
  rw [if_pos hal, Int.toNat_natCast] at hk
  unfold keN at hk
  have sp := stF_spec (kpB N D d ([(a1, a2), (c1, c2)] ++ List.replicate m (gl, gh)) lo hi) (m + 1) 0
  generalize stF (kpB N D d ([(a1, a2), (c1, c2)] ++ List.replicate m (gl, gh)) lo hi) 0 (m + 1) = tk at *
  split at hk
  · rename_i hle
    have e := congrArg (·.1.1) hk
    simp only at e
    have hp := sp.2 (by omega)
    have hz' := alE_less hz hle
    obtain ⟨s0, s1, row, P, hE⟩ := env_wit (lo := lo) (hi := hi) hz' false
    obtain ⟨s0', s1', row', P', hE'⟩ := env_wit (lo := lo) (hi := hi) hz' true
    refine ⟨tk, s0, s1, row, P, _, _, s0', s1', row', P', _, _, e.symm, hle, hE, hE', ?_⟩
    unfold kpB inF at hp
    rw [take_rep rfl hle] at hp
    generalize endN false ([(a1, a2), (c1, c2)] ++ List.replicate tk (gl, gh)) (efL N D d tk) = x at *
    generalize endN true ([(a1, a2), (c1, c2)] ++ List.replicate tk (gl, gh)) (efL N D d tk) = y at *
    simp only [Bool.and_eq_false_iff, decide_eq_false_iff_not] at hp
    simp only [Bool.or_eq_true, decide_eq_true_eq]
    omega
  · exact absurd (congrArg (·.1.2) hk) (by simp)
theorem inSp.take : ∀ {x : List Int} {S : List (Int × Int)} (k : Nat), inSp x S → inSp (x.take k) (S.take k)
  | [], [], k, _ => by simp [inSp]
  | _ :: _, _ :: _, 0, _ => trivial
  | _ :: _, _ :: _, k + 1, h => ⟨h.1, inSp.take k h.2⟩
  | [], _ :: _, _, h => absurd h (by simp [inSp])
  | _ :: _, [], _, h => absurd h (by simp [inSp])
theorem swK_take (N D d a v : Int) (G : List Int) (k : Nat) : swK N D d a v (G.take k) k = swK N D d a v G k := by
  unfold swK
  rw [List.take_take, Nat.min_self]
/-- Kept: so is each swing of the sets. -/
theorem env_yes {N D d a1 a2 c1 c2 gl gh lo hi t s0 s1 : Int} {m : Nat} {row : List Int} (hz : alE N D d [(a1, a2), (c1, c2)] gl gh m [] = 0) (hk : kpN N D d [(a1, a2), (c1, c2)] gl gh m lo hi = ((t, true), 0)) (hin : inXB a1 a2 c1 c2 gl gh m s0 s1 row = true) :
    swA N D d s0 s1 row = (swRow N D d s0 s1 row, 0) ∧ lo ≤ s0 ∧ s0 ≤ hi ∧ ∀ j, j < row.length → ∃ P, (swRow N D d s0 s1 row)[j]? = some P ∧ BD P ∧ decide (P.1 * 1 < lo * P.2) = false ∧ decide (hi * P.2 < P.1 * 1) = false := by
  have hal : alE N D d [(a1, a2), (c1, c2)] gl gh m [(lo, hi)] = 0 := by
    unfold kpN at hk
    split at hk
    · assumption
    · exact absurd (congrArg (·.2) hk) (by assumption)
  unfold kpN at hk
  rw [if_pos hal, Int.toNat_natCast] at hk
  have hke : (keN N D d ([(a1, a2), (c1, c2)] ++ List.replicate m (gl, gh)) lo hi m).2 = true := congrArg (·.1.2) hk
  have hkp := keN_all.1 hke
  obtain ⟨hs, hc, hv, _, hsa⟩ := alE_zero hz
  have hm : m ≤ 16 := by unfold saB at hsa; simp at hsa; omega
  obtain ⟨⟨d1, d2⟩, _, _⟩ := slB_get hs
  obtain ⟨hlen, hsp⟩ := inXB_iff.1 hin
  obtain ⟨_, hnb⟩ := la_in hz hin
  unfold numB at hnb
  simp only [Bool.and_eq_true] at hnb
  obtain ⟨hst, hwb⟩ := hnb
  have hst : staB s0 s1 = true := hst
  have hwb : wB (-100) 100 row = true := hwb
  have he : swE N D d s0 s1 row = 0 := by
    unfold swE
    rw [hs, if_pos rfl, if_neg (by omega), hst, if_pos rfl, hwb, if_pos rfl]
  have key : ∀ k, k ≤ m → (lo * powI d k ≤ (swK N D d s0 s1 row k).1 ∧ (swK N D d s0 s1 row k).1 ≤ hi * powI d k) ∧ BD (lowN (swK N D d s0 s1 row k).1 (powI d k)) := by
    intro k hkm
    have hz' := alE_less hz hkm
    have htk : (row.take k).length = k := by simp; omega
    have hsp' : inSp (s0 :: s1 :: row.take k) ([(a1, a2), (c1, c2)] ++ List.replicate k (gl, gh)) := by
      have := hsp.take (k + 2)
      rw [show ((a1, a2) :: (c1, c2) :: List.replicate m (gl, gh)).take (k + 2) = [(a1, a2), (c1, c2)] ++ List.replicate k (gl, gh) from take_rep (b := [(a1, a2), (c1, c2)]) rfl hkm] at this
      exact this
    have hin' : inXB a1 a2 c1 c2 gl gh k s0 s1 (row.take k) = true := inXB_iff.2 ⟨htk, hsp'⟩
    have hle : ([(a1, a2), (c1, c2)] ++ List.replicate k (gl, gh)).length = (efL N D d k).length := by rw [efL_len]; simp
    have hd := dot_wit _ _ (efL N D d k) hsp' hle
    have hsw := sw_dot N D d s0 s1 (row.take k)
    rw [htk, swK_take] at hsw
    have hp := hkp k hkm
    unfold kpB inF at hp
    rw [take_rep rfl hkm] at hp
    simp only [Bool.and_eq_true, decide_eq_true_eq] at hp
    have hb := dot_bd hs (x := s0 :: s1 :: row.take k) (k := k) (by simp; omega) (by omega) (la_in hz' hin').2
    rw [← hsw] at hd hb
    exact ⟨⟨by omega, by omega⟩, low_BD hb.1 hb.2 (powI_bd d1 d2 k).1 (Int.le_trans ((powI_bd d1 d2 k).2 (by omega)) (powI_4 (by omega)))⟩
  refine ⟨by unfold swA swN; rw [he, if_pos rfl], ?_, ?_, fun j hj => ?_⟩
  · have := (key 0 (by omega)).1.1
    rw [swK_zero, show powI d 0 = 1 from rfl, Int.mul_one] at this
    exact this
  · have := (key 0 (by omega)).1.2
    rw [swK_zero, show powI d 0 = 1 from rfl, Int.mul_one] at this
    exact this
  · obtain ⟨⟨k1, k2⟩, k3⟩ := key (j + 1) (by omega)
    have hden : (swK N D d s0 s1 row (j + 1)).2.2 = powI d (j + 1) := swK_den (by omega)
    refine ⟨lowN (swK N D d s0 s1 row (j + 1)).1 (powI d (j + 1)), ?_, k3, ?_, ?_⟩
    · unfold swRow
      rw [List.getElem?_map, List.getElem?_range hj]
      show some (lowN (swK N D d s0 s1 row (j + 1)).1 (swK N D d s0 s1 row (j + 1)).2.2) = _
      rw [hden]
    · rw [(low_less1 (powI_bd d1 d2 (j + 1)).1).1]; exact decide_eq_false (by omega)
    · rw [(low_less1 (powI_bd d1 d2 (j + 1)).1).2]; exact decide_eq_false (by omega)
end Go.Proofs.Ytnnmmojlgikdgaa

/- The law of the envelope. -/
namespace Go.Proofs.Ytnnmmojlgikdgaa
open Go.RowKit

theorem kp_zero {N D d gl gh nn lo hi : Int} {b : List (Int × Int)} (h : (kpN N D d b gl gh nn lo hi).2 = 0) : vS (lo, hi) = true := by
  have hal : alE N D d b gl gh nn [(lo, hi)] = 0 := by
    unfold kpN at h
    split at h
    · assumption
    · exact absurd h (by assumption)
  obtain ⟨_, _, _, h4, _⟩ := alE_zero hal
  simpa using h4
/-- What one way of the law shows. -/
structure EV (w : World) (N D d gl gh lo hi : Int) (A : Option Addr) (c tk : Nat) (high u v : Bool) (s0 s1 P0 P1 : Int) (row : List Int) : Prop where
  len : row.length = tk
  wi : ∀ W, Below w.heap.size w W → Calls Try.prog 25 #[.agg #[.int .i64 N, .int .i64 D, .int .i64 d], .slice A 2 c, .agg #[.int .i64 gl, .int .i64 gh], .int .i64 tk, .bool high] W (GivesWi W ((s0, s1), row, 0))
  la : ∀ (R9 : Option Addr) (c9 : Nat) (W : World), RI W W.heap.size R9 row → Calls Try.prog 43 #[.agg #[.int .i64 N, .int .i64 D, .int .i64 d], .agg #[.int .i64 s0, .int .i64 s1], .slice R9 tk c9] W fun e w' => e = .returned (.tuple #[.agg #[.int .i64 P0, .int .i64 P1], .bool true]) ∧ Below W.heap.size W w'
  lo : ∀ W, Calls Try.prog 44 #[.agg #[.int .i64 P0, .int .i64 P1], .agg #[.int .i64 lo, .int .i64 1]] W fun e w' => e = .returned (.bool u) ∧ Below W.heap.size W w'
  hi : ∀ W, Calls Try.prog 44 #[.agg #[.int .i64 hi, .int .i64 1], .agg #[.int .i64 P0, .int .i64 P1]] W fun e w' => e = .returned (.bool v) ∧ Below W.heap.size W w'
theorem EV.of {w : World} {N D d a1 a2 c1 c2 gl gh lo hi : Int} {A : Option Addr} {c tk : Nat} {high u v : Bool} {s0 s1 P0 P1 : Int} {row : List Int} (h : EO N D d a1 a2 c1 c2 gl gh lo hi tk high s0 s1 row (P0, P1) u v) (hv : vS (lo, hi) = true) (htk : tk ≤ 16) (hr : RS w w.heap.size A [(a1, a2), (c1, c2)]) : EV w N D d gl gh lo hi A c tk high u v s0 s1 P0 P1 row := by
  obtain ⟨hv1, hv2, hv3⟩ := vS_get hv
  refine ⟨h.len, fun W hW => ?_, fun R9 c9 W h3 => ?_, fun W => ?_, fun W => ?_⟩
  · have := witnessT_any N D d gl gh tk high A 2 c w.heap.size _ W rfl (le_maxLen (by omega)) hW.size (hr.below hW)
    rw [h.wi] at this
    exact this
  · have := last_any7 N D d s0 s1 R9 tk c9 W.heap.size row W h.len (le_maxLen (by omega)) (Nat.le_refl _) h3
    rw [h.la] at this
    exact this
  · have := jless_any P0 P1 lo 1 W h.bd.2.1 h.bd.2.2 h.bd.1.1 h.bd.1.2 (by omega) (by omega) (by omega) (by omega)
    rw [h.lo] at this
    exact this
  · have := jless_any hi 1 P0 P1 W (by omega) (by omega) (by omega) (by omega) h.bd.2.1 h.bd.2.2 h.bd.1.1 h.bd.1.2
    rw [h.hi] at this
    exact this

set_option maxRecDepth 100000 in
set_option maxHeartbeats 8000000 in
theorem law_envelope (wk : WK7) (w : World) (N D d : Int) (A : Option Addr) (n c : Nat) (gl gh lo hi m : Int) (b : List (Int × Int)) (hl : b.length = n) (hn : n ≤ maxLen) (hr : RS w w.heap.size A b) (ya yv : Int) (R : Option Addr) (k cr : Nat) (ym yl yh : Int) (G : List Int) (hgl : G.length = k) (hkn : k ≤ maxLen) (hgr : RI w w.heap.size R G) :
    Calls Try.prog 9 #[.agg #[.int .i64 N, .int .i64 D, .int .i64 d], .agg #[.slice A n c, .int .i64 gl, .int .i64 gh, .int .i64 lo, .int .i64 hi, .int .i64 m], .agg #[.int .i64 ya, .int .i64 yv, .slice R k cr, .int .i64 ym, .int .i64 yl, .int .i64 yh]] w fun e w' => e = .returned (.bool true) ∧ Below w.heap.size w w' := by
  have HWK := Lib.hid wk
  have HCS := Lib.hid (fun (W : World) (hW : Below w.heap.size w W) => checkSets_any N D d gl gh m A n c w.heap.size b W hl hn hW.size (hr.below hW))
  have HKP := Lib.hid (fun (W : World) (hW : Below w.heap.size w W) => keepsT_any N D d gl gh m lo hi A n c w.heap.size b W hl hn hW.size (hr.below hW))
  have HK := Lib.hid (KX.start (N := N) (D := D) (d := d) (gl := gl) (gh := gh) (lo := lo) (hi := hi) (m := m) (ya := ya) (yv := yv) (ym := ym) (yl := yl) (yh := yh) (A := A) (R := R) (n := n) (c := c) (k := k) (cr := cr) (w := w))
  obtain ⟨⟨⟨t, ki⟩, ke⟩, hkp⟩ : ∃ r, kpN N D d b gl gh m lo hi = r := ⟨_, rfl⟩
  rw [hkp] at HKP
  simp only at HKP
  by_cases hz : alE N D d b gl gh m [] = 0
  · rw [hz] at HCS
    by_cases hke : ke = 0
    · subst hke
      have hvl : vS (lo, hi) = true := kp_zero (by rw [hkp])
      obtain ⟨hs, hc, hv, _, hsa⟩ := alE_zero hz
      have hnn : 0 ≤ m ∧ m ≤ 16 := by unfold saB at hsa; simp at hsa; exact hsa.1.2
      have hb2 : b.length = 2 := by unfold saB at hsa; simp at hsa; exact hsa.1.1.1
      obtain ⟨⟨a1, a2⟩, ⟨c1, c2⟩, rfl⟩ := list_two hb2
      obtain rfl : n = 2 := hl.symm
      obtain ⟨mm, rfl⟩ : ∃ mm : Nat, m = (mm : Int) := ⟨m.toNat, by omega⟩
      cases ki with
      | false =>
        obtain ⟨tk, t0, t1, row, ⟨P0, P1⟩, u, v, t0', t1', row', ⟨P0', P1'⟩, u', v', rfl, htk, hE, hE', hout⟩ := env_no hz hkp
        have HE := Lib.hid (EV.of (A := A) (c := c) hE hvl (by omega) hr)
        have HE' := Lib.hid (EV.of (A := A) (c := c) hE' hvl (by omega) hr)
        have HU := Lib.hid (show u = true ∨ (u = false ∧ v = true) ∨ (u = false ∧ v = false) by cases u <;> cases v <;> simp)
        have HV := Lib.hid (show (u || v) = true ∨ ((u || v) = false ∧ u' = true) ∨ ((u || v) = false ∧ u' = false ∧ v' = true) by cases u <;> cases v <;> cases u' <;> cases v' <;> simp at hout ⊢)
        have n1 : ¬ ((tk : Int) < 0) := by omega
        have n2 : ¬ ((mm : Int) < (tk : Int)) := by omega
        have n3 : decide (mm < tk) = false := decide_eq_false (by omega)
        have n4 : decide ((tk : Int) < 0) = false := decide_eq_false (by omega)
        obtain ⟨oo, hoo⟩ : ∃ oo : Nat → Bool, oo 0 = false ∧ oo 1 = (u || v) ∧ oo 2 = true := ⟨fun k => if k = 0 then false else if k = 1 then (u || v) else true, rfl, rfl, rfl⟩
        have HOO := Lib.hid hoo
        clear wk hz hs hc hv hsa hb2 hl hr hgl hgr hkp hvl hnn hE hE' hout htk hoo
        go_enter Try.func9, Try.ntmps9
        go_upto_region 1 with (fail)
        generalize World.alloc _ _ = w1 at *
        have s0 := cellOf (o := 0) HK.out.s rfl
        have s1 := cellOf (o := 1) HK.out.s rfl
        have s2 := cellOf (o := 2) HK.out.s rfl
        have x0 := cellOf (o := 0) HK.out.x rfl
        have x1 := cellOf (o := 1) HK.out.x rfl
        have x2 := cellOf (o := 2) HK.out.x rfl
        have x3 := cellOf (o := 3) HK.out.x rfl
        have x4 := cellOf (o := 4) HK.out.x rfl
        have x5 := cellOf (o := 5) HK.out.x rfl
        have y0 := cellOf (o := 0) HK.out.y rfl
        have y1 := cellOf (o := 1) HK.out.y rfl
        have y2 := cellOf (o := 2) HK.out.y rfl
        have l0 := lt_of_block HK.out.s
        have l1 := lt_of_block HK.out.x
        have l2 := lt_of_block HK.out.y
        go_wp2_with (first
          | (go_at_call 40; refine Calls.mono (HCS.out _ HK.out.b) ?_; rintro e v1 ⟨rfl, hb1⟩; have HK := Lib.hid (HK.out.next hb1); clear hb1; clear s0 s1 s2 x0 x1 x2 x3 x4 x5 y0 y1 y2 l0 l1 l2; have s0 := cellOf (o := 0) HK.out.s rfl; have s1 := cellOf (o := 1) HK.out.s rfl; have s2 := cellOf (o := 2) HK.out.s rfl; have x0 := cellOf (o := 0) HK.out.x rfl; have x1 := cellOf (o := 1) HK.out.x rfl; have x2 := cellOf (o := 2) HK.out.x rfl; have x3 := cellOf (o := 3) HK.out.x rfl; have x4 := cellOf (o := 4) HK.out.x rfl; have x5 := cellOf (o := 5) HK.out.x rfl; have y0 := cellOf (o := 0) HK.out.y rfl; have y1 := cellOf (o := 1) HK.out.y rfl; have y2 := cellOf (o := 2) HK.out.y rfl; have l0 := lt_of_block HK.out.s; have l1 := lt_of_block HK.out.x; have l2 := lt_of_block HK.out.y)
          | (go_at_call 28; refine Calls.mono (HKP.out _ HK.out.b) ?_; rintro e v2 ⟨rfl, hb2⟩; have HK := Lib.hid (HK.out.next hb2); clear hb2; clear s0 s1 s2 x0 x1 x2 x3 x4 x5 y0 y1 y2 l0 l1 l2; have s0 := cellOf (o := 0) HK.out.s rfl; have s1 := cellOf (o := 1) HK.out.s rfl; have s2 := cellOf (o := 2) HK.out.s rfl; have x0 := cellOf (o := 0) HK.out.x rfl; have x1 := cellOf (o := 1) HK.out.x rfl; have x2 := cellOf (o := 2) HK.out.x rfl; have x3 := cellOf (o := 3) HK.out.x rfl; have x4 := cellOf (o := 4) HK.out.x rfl; have x5 := cellOf (o := 5) HK.out.x rfl; have y0 := cellOf (o := 0) HK.out.y rfl; have y1 := cellOf (o := 1) HK.out.y rfl; have y2 := cellOf (o := 2) HK.out.y rfl; have l0 := lt_of_block HK.out.s; have l1 := lt_of_block HK.out.x; have l2 := lt_of_block HK.out.y))
        clear s0 s1 s2 x0 x1 x2 x3 x4 x5 y0 y1 y2 l0 l1 l2
        clear n1 n2 n3 n4
        go_loopw [10, 11] (fun ow iw wr => ∃ kk : Nat, kk ≤ 2 ∧ iw = .int .i64 kk ∧ ow = .bool (oo kk) ∧ Below v2.heap.size v2 wr) (fun _ iw _ => 2 - (intOf iw).toNat)
        case atStart => exact ⟨0, by omega, rfl, by rw [HOO.out.1], Below.refl _ _⟩
        case round =>
          obtain ⟨kk, hkk, rfl, rfl, hbw⟩ := hrel
          have HBW := Lib.hid hbw
          have HK := Lib.hid (HK.out.next hbw)
          clear hbw
          by_cases hlt : kk < 2
          · obtain rfl | rfl : kk = 0 ∨ kk = 1 := by omega
            · rw [HOO.out.1]
              have s0 := cellOf (o := 0) HK.out.s rfl
              have s1 := cellOf (o := 1) HK.out.s rfl
              have s2 := cellOf (o := 2) HK.out.s rfl
              have x0 := cellOf (o := 0) HK.out.x rfl
              have x1 := cellOf (o := 1) HK.out.x rfl
              have x2 := cellOf (o := 2) HK.out.x rfl
              have x3 := cellOf (o := 3) HK.out.x rfl
              have x4 := cellOf (o := 4) HK.out.x rfl
              have x5 := cellOf (o := 5) HK.out.x rfl
              have y0 := cellOf (o := 0) HK.out.y rfl
              have y1 := cellOf (o := 1) HK.out.y rfl
              have y2 := cellOf (o := 2) HK.out.y rfl
              have l0 := lt_of_block HK.out.s
              have l1 := lt_of_block HK.out.x
              have l2 := lt_of_block HK.out.y
              go_upto_region 14 with (go_at_call 25; refine Calls.mono (HE.out.wi _ HK.out.b) ?_; rintro e v5 ⟨u5, rfl, hq5, hb5⟩; have HQ5 := Lib.hid (hq5.stay ((Below.refl _ _).alloc (Nat.le_refl _) (.cells #[.int .i64 t0, .int .i64 t1] 24))); have HBW := Lib.hid ((HBW.out.trans (hb5.mono HBW.out.size)).alloc (Nat.le_trans HBW.out.size hb5.size) (.cells #[.int .i64 t0, .int .i64 t1] 24)); have HK := Lib.hid ((HK.out.next hb5).alloc (.cells #[.int .i64 t0, .int .i64 t1] 24)); have BS := Lib.hid (blk_new v5 (.cells #[.int .i64 t0, .int .i64 t1] 24) _ rfl); clear hb5 hq5; clear s0 s1 s2 x0 x1 x2 x3 x4 x5 y0 y1 y2 l0 l1 l2)
              obtain ⟨q5, hq5⟩ : ∃ q, v5.heap.size = q := ⟨_, rfl⟩
              rw [hq5] at BS ⊢
              clear hq5
              generalize World.alloc v5 _ = w5 at *
              obtain ⟨R5, c5, e5, _, hr5⟩ := HQ5.out
              try simp only at e5 hr5
              rw [HE.out.len] at e5
              subst e5
              have HR5 := Lib.hid hr5
              clear hr5
              have s0 := cellOf (o := 0) HK.out.s rfl
              have s1 := cellOf (o := 1) HK.out.s rfl
              have s2 := cellOf (o := 2) HK.out.s rfl
              have x0 := cellOf (o := 0) HK.out.x rfl
              have x1 := cellOf (o := 1) HK.out.x rfl
              have x2 := cellOf (o := 2) HK.out.x rfl
              have x3 := cellOf (o := 3) HK.out.x rfl
              have x4 := cellOf (o := 4) HK.out.x rfl
              have x5 := cellOf (o := 5) HK.out.x rfl
              have y0 := cellOf (o := 0) HK.out.y rfl
              have y1 := cellOf (o := 1) HK.out.y rfl
              have y2 := cellOf (o := 2) HK.out.y rfl
              have l0 := lt_of_block HK.out.s
              have l1 := lt_of_block HK.out.x
              have l2 := lt_of_block HK.out.y
              have c30 := cellOf (o := 0) BS.out rfl
              have c31 := cellOf (o := 1) BS.out rfl
              have m3 := lt_of_block BS.out
              go_upto_region 17 with (go_at_call 43; refine Calls.mono (HE.out.la _ _ _ HR5.out) ?_; rintro e v7 ⟨rfl, hb7⟩; have HBW := Lib.hid ((HBW.out.trans (hb7.mono HBW.out.size)).alloc (Nat.le_trans HBW.out.size hb7.size) (.cells #[.int .i64 P0, .int .i64 P1] 24)); have HK := Lib.hid ((HK.out.next hb7).alloc (.cells #[.int .i64 P0, .int .i64 P1] 24)); have BE := Lib.hid (blk_new v7 (.cells #[.int .i64 P0, .int .i64 P1] 24) _ rfl); clear hb7; clear s0 s1 s2 x0 x1 x2 x3 x4 x5 y0 y1 y2 l0 l1 l2; clear c30 c31 m3)
              obtain ⟨q7, hq7⟩ : ∃ q, v7.heap.size = q := ⟨_, rfl⟩
              rw [hq7] at BE ⊢
              clear hq7
              generalize World.alloc v7 _ = w7 at *
              have s0 := cellOf (o := 0) HK.out.s rfl
              have s1 := cellOf (o := 1) HK.out.s rfl
              have s2 := cellOf (o := 2) HK.out.s rfl
              have x0 := cellOf (o := 0) HK.out.x rfl
              have x1 := cellOf (o := 1) HK.out.x rfl
              have x2 := cellOf (o := 2) HK.out.x rfl
              have x3 := cellOf (o := 3) HK.out.x rfl
              have x4 := cellOf (o := 4) HK.out.x rfl
              have x5 := cellOf (o := 5) HK.out.x rfl
              have y0 := cellOf (o := 0) HK.out.y rfl
              have y1 := cellOf (o := 1) HK.out.y rfl
              have y2 := cellOf (o := 2) HK.out.y rfl
              have l0 := lt_of_block HK.out.s
              have l1 := lt_of_block HK.out.x
              have l2 := lt_of_block HK.out.y
              have c40 := cellOf (o := 0) BE.out rfl
              have c41 := cellOf (o := 1) BE.out rfl
              have m4 := lt_of_block BE.out
              rcases HU.out with hu | ⟨hu, hv⟩ | ⟨hu, hv⟩
              · subst hu
                go_wp2_with (go_at_call 44; refine Calls.mono (HE.out.lo _) ?_; rintro e v8 ⟨rfl, hb8⟩; have HBW := Lib.hid (HBW.out.trans (hb8.mono HBW.out.size)); have HK := Lib.hid (HK.out.next hb8); have BE := Lib.hid ((hb8.block _ (lt_of_block BE.out)).trans BE.out); clear hb8; clear s0 s1 s2 x0 x1 x2 x3 x4 x5 y0 y1 y2 l0 l1 l2; clear c40 c41 m4; have s0 := cellOf (o := 0) HK.out.s rfl; have s1 := cellOf (o := 1) HK.out.s rfl; have s2 := cellOf (o := 2) HK.out.s rfl; have x0 := cellOf (o := 0) HK.out.x rfl; have x1 := cellOf (o := 1) HK.out.x rfl; have x2 := cellOf (o := 2) HK.out.x rfl; have x3 := cellOf (o := 3) HK.out.x rfl; have x4 := cellOf (o := 4) HK.out.x rfl; have x5 := cellOf (o := 5) HK.out.x rfl; have y0 := cellOf (o := 0) HK.out.y rfl; have y1 := cellOf (o := 1) HK.out.y rfl; have y2 := cellOf (o := 2) HK.out.y rfl; have l0 := lt_of_block HK.out.s; have l1 := lt_of_block HK.out.x; have l2 := lt_of_block HK.out.y; have c40 := cellOf (o := 0) BE.out rfl; have c41 := cellOf (o := 1) BE.out rfl; have m4 := lt_of_block BE.out)
                go_roundw
                case rel => exact ⟨1, by omega, rfl, by rw [HOO.out.2.1]; rfl, HBW.out⟩
                case measure => simp [intOf]
              · subst hu hv
                go_wp2_with (first
                  | (go_at_call_of 44 (Value.agg #[.int .i64 lo, .int .i64 1]); refine Calls.mono (HE.out.lo _) ?_; rintro e v8 ⟨rfl, hb8⟩; have HBW := Lib.hid (HBW.out.trans (hb8.mono HBW.out.size)); have HK := Lib.hid (HK.out.next hb8); have BE := Lib.hid ((hb8.block _ (lt_of_block BE.out)).trans BE.out); clear hb8; clear s0 s1 s2 x0 x1 x2 x3 x4 x5 y0 y1 y2 l0 l1 l2; clear c40 c41 m4; have s0 := cellOf (o := 0) HK.out.s rfl; have s1 := cellOf (o := 1) HK.out.s rfl; have s2 := cellOf (o := 2) HK.out.s rfl; have x0 := cellOf (o := 0) HK.out.x rfl; have x1 := cellOf (o := 1) HK.out.x rfl; have x2 := cellOf (o := 2) HK.out.x rfl; have x3 := cellOf (o := 3) HK.out.x rfl; have x4 := cellOf (o := 4) HK.out.x rfl; have x5 := cellOf (o := 5) HK.out.x rfl; have y0 := cellOf (o := 0) HK.out.y rfl; have y1 := cellOf (o := 1) HK.out.y rfl; have y2 := cellOf (o := 2) HK.out.y rfl; have l0 := lt_of_block HK.out.s; have l1 := lt_of_block HK.out.x; have l2 := lt_of_block HK.out.y; have c40 := cellOf (o := 0) BE.out rfl; have c41 := cellOf (o := 1) BE.out rfl; have m4 := lt_of_block BE.out)
                  | (go_at_call 44; refine Calls.mono (HE.out.hi _) ?_; rintro e v8 ⟨rfl, hb8⟩; have HBW := Lib.hid (HBW.out.trans (hb8.mono HBW.out.size)); have HK := Lib.hid (HK.out.next hb8); have BE := Lib.hid ((hb8.block _ (lt_of_block BE.out)).trans BE.out); clear hb8; clear s0 s1 s2 x0 x1 x2 x3 x4 x5 y0 y1 y2 l0 l1 l2; clear c40 c41 m4; have s0 := cellOf (o := 0) HK.out.s rfl; have s1 := cellOf (o := 1) HK.out.s rfl; have s2 := cellOf (o := 2) HK.out.s rfl; have x0 := cellOf (o := 0) HK.out.x rfl; have x1 := cellOf (o := 1) HK.out.x rfl; have x2 := cellOf (o := 2) HK.out.x rfl; have x3 := cellOf (o := 3) HK.out.x rfl; have x4 := cellOf (o := 4) HK.out.x rfl; have x5 := cellOf (o := 5) HK.out.x rfl; have y0 := cellOf (o := 0) HK.out.y rfl; have y1 := cellOf (o := 1) HK.out.y rfl; have y2 := cellOf (o := 2) HK.out.y rfl; have l0 := lt_of_block HK.out.s; have l1 := lt_of_block HK.out.x; have l2 := lt_of_block HK.out.y; have c40 := cellOf (o := 0) BE.out rfl; have c41 := cellOf (o := 1) BE.out rfl; have m4 := lt_of_block BE.out))
                go_roundw
                case rel => exact ⟨1, by omega, rfl, by rw [HOO.out.2.1]; rfl, HBW.out⟩
                case measure => simp [intOf]
              · subst hu hv
                go_wp2_with (first
                  | (go_at_call_of 44 (Value.agg #[.int .i64 lo, .int .i64 1]); refine Calls.mono (HE.out.lo _) ?_; rintro e v8 ⟨rfl, hb8⟩; have HBW := Lib.hid (HBW.out.trans (hb8.mono HBW.out.size)); have HK := Lib.hid (HK.out.next hb8); have BE := Lib.hid ((hb8.block _ (lt_of_block BE.out)).trans BE.out); clear hb8; clear s0 s1 s2 x0 x1 x2 x3 x4 x5 y0 y1 y2 l0 l1 l2; clear c40 c41 m4; have s0 := cellOf (o := 0) HK.out.s rfl; have s1 := cellOf (o := 1) HK.out.s rfl; have s2 := cellOf (o := 2) HK.out.s rfl; have x0 := cellOf (o := 0) HK.out.x rfl; have x1 := cellOf (o := 1) HK.out.x rfl; have x2 := cellOf (o := 2) HK.out.x rfl; have x3 := cellOf (o := 3) HK.out.x rfl; have x4 := cellOf (o := 4) HK.out.x rfl; have x5 := cellOf (o := 5) HK.out.x rfl; have y0 := cellOf (o := 0) HK.out.y rfl; have y1 := cellOf (o := 1) HK.out.y rfl; have y2 := cellOf (o := 2) HK.out.y rfl; have l0 := lt_of_block HK.out.s; have l1 := lt_of_block HK.out.x; have l2 := lt_of_block HK.out.y; have c40 := cellOf (o := 0) BE.out rfl; have c41 := cellOf (o := 1) BE.out rfl; have m4 := lt_of_block BE.out)
                  | (go_at_call 44; refine Calls.mono (HE.out.hi _) ?_; rintro e v8 ⟨rfl, hb8⟩; have HBW := Lib.hid (HBW.out.trans (hb8.mono HBW.out.size)); have HK := Lib.hid (HK.out.next hb8); have BE := Lib.hid ((hb8.block _ (lt_of_block BE.out)).trans BE.out); clear hb8; clear s0 s1 s2 x0 x1 x2 x3 x4 x5 y0 y1 y2 l0 l1 l2; clear c40 c41 m4; have s0 := cellOf (o := 0) HK.out.s rfl; have s1 := cellOf (o := 1) HK.out.s rfl; have s2 := cellOf (o := 2) HK.out.s rfl; have x0 := cellOf (o := 0) HK.out.x rfl; have x1 := cellOf (o := 1) HK.out.x rfl; have x2 := cellOf (o := 2) HK.out.x rfl; have x3 := cellOf (o := 3) HK.out.x rfl; have x4 := cellOf (o := 4) HK.out.x rfl; have x5 := cellOf (o := 5) HK.out.x rfl; have y0 := cellOf (o := 0) HK.out.y rfl; have y1 := cellOf (o := 1) HK.out.y rfl; have y2 := cellOf (o := 2) HK.out.y rfl; have l0 := lt_of_block HK.out.s; have l1 := lt_of_block HK.out.x; have l2 := lt_of_block HK.out.y; have c40 := cellOf (o := 0) BE.out rfl; have c41 := cellOf (o := 1) BE.out rfl; have m4 := lt_of_block BE.out))
                go_roundw
                case rel => exact ⟨1, by omega, rfl, by rw [HOO.out.2.1]; rfl, HBW.out⟩
                case measure => simp [intOf]
            · rw [HOO.out.2.1]
              have s0 := cellOf (o := 0) HK.out.s rfl
              have s1 := cellOf (o := 1) HK.out.s rfl
              have s2 := cellOf (o := 2) HK.out.s rfl
              have x0 := cellOf (o := 0) HK.out.x rfl
              have x1 := cellOf (o := 1) HK.out.x rfl
              have x2 := cellOf (o := 2) HK.out.x rfl
              have x3 := cellOf (o := 3) HK.out.x rfl
              have x4 := cellOf (o := 4) HK.out.x rfl
              have x5 := cellOf (o := 5) HK.out.x rfl
              have y0 := cellOf (o := 0) HK.out.y rfl
              have y1 := cellOf (o := 1) HK.out.y rfl
              have y2 := cellOf (o := 2) HK.out.y rfl
              have l0 := lt_of_block HK.out.s
              have l1 := lt_of_block HK.out.x
              have l2 := lt_of_block HK.out.y
              go_upto_region 14 with (go_at_call 25; refine Calls.mono (HE'.out.wi _ HK.out.b) ?_; rintro e v5 ⟨u5, rfl, hq5, hb5⟩; have HQ5 := Lib.hid (hq5.stay ((Below.refl _ _).alloc (Nat.le_refl _) (.cells #[.int .i64 t0', .int .i64 t1'] 24))); have HBW := Lib.hid ((HBW.out.trans (hb5.mono HBW.out.size)).alloc (Nat.le_trans HBW.out.size hb5.size) (.cells #[.int .i64 t0', .int .i64 t1'] 24)); have HK := Lib.hid ((HK.out.next hb5).alloc (.cells #[.int .i64 t0', .int .i64 t1'] 24)); have BS := Lib.hid (blk_new v5 (.cells #[.int .i64 t0', .int .i64 t1'] 24) _ rfl); clear hb5 hq5; clear s0 s1 s2 x0 x1 x2 x3 x4 x5 y0 y1 y2 l0 l1 l2)
              obtain ⟨q5, hq5⟩ : ∃ q, v5.heap.size = q := ⟨_, rfl⟩
              rw [hq5] at BS ⊢
              clear hq5
              generalize World.alloc v5 _ = w5 at *
              obtain ⟨R5, c5, e5, _, hr5⟩ := HQ5.out
              try simp only at e5 hr5
              rw [HE'.out.len] at e5
              subst e5
              have HR5 := Lib.hid hr5
              clear hr5
              have s0 := cellOf (o := 0) HK.out.s rfl
              have s1 := cellOf (o := 1) HK.out.s rfl
              have s2 := cellOf (o := 2) HK.out.s rfl
              have x0 := cellOf (o := 0) HK.out.x rfl
              have x1 := cellOf (o := 1) HK.out.x rfl
              have x2 := cellOf (o := 2) HK.out.x rfl
              have x3 := cellOf (o := 3) HK.out.x rfl
              have x4 := cellOf (o := 4) HK.out.x rfl
              have x5 := cellOf (o := 5) HK.out.x rfl
              have y0 := cellOf (o := 0) HK.out.y rfl
              have y1 := cellOf (o := 1) HK.out.y rfl
              have y2 := cellOf (o := 2) HK.out.y rfl
              have l0 := lt_of_block HK.out.s
              have l1 := lt_of_block HK.out.x
              have l2 := lt_of_block HK.out.y
              have c30 := cellOf (o := 0) BS.out rfl
              have c31 := cellOf (o := 1) BS.out rfl
              have m3 := lt_of_block BS.out
              go_upto_region 17 with (go_at_call 43; refine Calls.mono (HE'.out.la _ _ _ HR5.out) ?_; rintro e v7 ⟨rfl, hb7⟩; have HBW := Lib.hid ((HBW.out.trans (hb7.mono HBW.out.size)).alloc (Nat.le_trans HBW.out.size hb7.size) (.cells #[.int .i64 P0', .int .i64 P1'] 24)); have HK := Lib.hid ((HK.out.next hb7).alloc (.cells #[.int .i64 P0', .int .i64 P1'] 24)); have BE := Lib.hid (blk_new v7 (.cells #[.int .i64 P0', .int .i64 P1'] 24) _ rfl); clear hb7; clear s0 s1 s2 x0 x1 x2 x3 x4 x5 y0 y1 y2 l0 l1 l2; clear c30 c31 m3)
              obtain ⟨q7, hq7⟩ : ∃ q, v7.heap.size = q := ⟨_, rfl⟩
              rw [hq7] at BE ⊢
              clear hq7
              generalize World.alloc v7 _ = w7 at *
              have s0 := cellOf (o := 0) HK.out.s rfl
              have s1 := cellOf (o := 1) HK.out.s rfl
              have s2 := cellOf (o := 2) HK.out.s rfl
              have x0 := cellOf (o := 0) HK.out.x rfl
              have x1 := cellOf (o := 1) HK.out.x rfl
              have x2 := cellOf (o := 2) HK.out.x rfl
              have x3 := cellOf (o := 3) HK.out.x rfl
              have x4 := cellOf (o := 4) HK.out.x rfl
              have x5 := cellOf (o := 5) HK.out.x rfl
              have y0 := cellOf (o := 0) HK.out.y rfl
              have y1 := cellOf (o := 1) HK.out.y rfl
              have y2 := cellOf (o := 2) HK.out.y rfl
              have l0 := lt_of_block HK.out.s
              have l1 := lt_of_block HK.out.x
              have l2 := lt_of_block HK.out.y
              have c40 := cellOf (o := 0) BE.out rfl
              have c41 := cellOf (o := 1) BE.out rfl
              have m4 := lt_of_block BE.out
              rcases HV.out with hw | ⟨hw, hu⟩ | ⟨hw, hu, hv⟩
              · rw [hw]
                go_wp2
                go_roundw
                case rel => exact ⟨2, by omega, rfl, by rw [HOO.out.2.2], HBW.out⟩
                case measure => simp [intOf]
              · rw [hw]; subst hu
                go_wp2_with (go_at_call 44; refine Calls.mono (HE'.out.lo _) ?_; rintro e v8 ⟨rfl, hb8⟩; have HBW := Lib.hid (HBW.out.trans (hb8.mono HBW.out.size)); have HK := Lib.hid (HK.out.next hb8); have BE := Lib.hid ((hb8.block _ (lt_of_block BE.out)).trans BE.out); clear hb8; clear s0 s1 s2 x0 x1 x2 x3 x4 x5 y0 y1 y2 l0 l1 l2; clear c40 c41 m4; have s0 := cellOf (o := 0) HK.out.s rfl; have s1 := cellOf (o := 1) HK.out.s rfl; have s2 := cellOf (o := 2) HK.out.s rfl; have x0 := cellOf (o := 0) HK.out.x rfl; have x1 := cellOf (o := 1) HK.out.x rfl; have x2 := cellOf (o := 2) HK.out.x rfl; have x3 := cellOf (o := 3) HK.out.x rfl; have x4 := cellOf (o := 4) HK.out.x rfl; have x5 := cellOf (o := 5) HK.out.x rfl; have y0 := cellOf (o := 0) HK.out.y rfl; have y1 := cellOf (o := 1) HK.out.y rfl; have y2 := cellOf (o := 2) HK.out.y rfl; have l0 := lt_of_block HK.out.s; have l1 := lt_of_block HK.out.x; have l2 := lt_of_block HK.out.y; have c40 := cellOf (o := 0) BE.out rfl; have c41 := cellOf (o := 1) BE.out rfl; have m4 := lt_of_block BE.out)
                go_roundw
                case rel => exact ⟨2, by omega, rfl, by rw [HOO.out.2.2], HBW.out⟩
                case measure => simp [intOf]
              · rw [hw]; subst hu hv
                go_wp2_with (first
                  | (go_at_call_of 44 (Value.agg #[.int .i64 lo, .int .i64 1]); refine Calls.mono (HE'.out.lo _) ?_; rintro e v8 ⟨rfl, hb8⟩; have HBW := Lib.hid (HBW.out.trans (hb8.mono HBW.out.size)); have HK := Lib.hid (HK.out.next hb8); have BE := Lib.hid ((hb8.block _ (lt_of_block BE.out)).trans BE.out); clear hb8; clear s0 s1 s2 x0 x1 x2 x3 x4 x5 y0 y1 y2 l0 l1 l2; clear c40 c41 m4; have s0 := cellOf (o := 0) HK.out.s rfl; have s1 := cellOf (o := 1) HK.out.s rfl; have s2 := cellOf (o := 2) HK.out.s rfl; have x0 := cellOf (o := 0) HK.out.x rfl; have x1 := cellOf (o := 1) HK.out.x rfl; have x2 := cellOf (o := 2) HK.out.x rfl; have x3 := cellOf (o := 3) HK.out.x rfl; have x4 := cellOf (o := 4) HK.out.x rfl; have x5 := cellOf (o := 5) HK.out.x rfl; have y0 := cellOf (o := 0) HK.out.y rfl; have y1 := cellOf (o := 1) HK.out.y rfl; have y2 := cellOf (o := 2) HK.out.y rfl; have l0 := lt_of_block HK.out.s; have l1 := lt_of_block HK.out.x; have l2 := lt_of_block HK.out.y; have c40 := cellOf (o := 0) BE.out rfl; have c41 := cellOf (o := 1) BE.out rfl; have m4 := lt_of_block BE.out)
                  | (go_at_call 44; refine Calls.mono (HE'.out.hi _) ?_; rintro e v8 ⟨rfl, hb8⟩; have HBW := Lib.hid (HBW.out.trans (hb8.mono HBW.out.size)); have HK := Lib.hid (HK.out.next hb8); have BE := Lib.hid ((hb8.block _ (lt_of_block BE.out)).trans BE.out); clear hb8; clear s0 s1 s2 x0 x1 x2 x3 x4 x5 y0 y1 y2 l0 l1 l2; clear c40 c41 m4; have s0 := cellOf (o := 0) HK.out.s rfl; have s1 := cellOf (o := 1) HK.out.s rfl; have s2 := cellOf (o := 2) HK.out.s rfl; have x0 := cellOf (o := 0) HK.out.x rfl; have x1 := cellOf (o := 1) HK.out.x rfl; have x2 := cellOf (o := 2) HK.out.x rfl; have x3 := cellOf (o := 3) HK.out.x rfl; have x4 := cellOf (o := 4) HK.out.x rfl; have x5 := cellOf (o := 5) HK.out.x rfl; have y0 := cellOf (o := 0) HK.out.y rfl; have y1 := cellOf (o := 1) HK.out.y rfl; have y2 := cellOf (o := 2) HK.out.y rfl; have l0 := lt_of_block HK.out.s; have l1 := lt_of_block HK.out.x; have l2 := lt_of_block HK.out.y; have c40 := cellOf (o := 0) BE.out rfl; have c41 := cellOf (o := 1) BE.out rfl; have m4 := lt_of_block BE.out))
                go_roundw
                case rel => exact ⟨2, by omega, rfl, by rw [HOO.out.2.2], HBW.out⟩
                case measure => simp [intOf]
          · obtain rfl : kk = 2 := by omega
            rw [HOO.out.2.2]
            go_wp2_with (go_at_call 22; refine Calls.mono (HWK.out _) ?_; rintro e v9 ⟨rfl, hb9⟩; have HX9 := Lib.hid (HK.out.b.trans (hb9.mono HK.out.b.size)); clear hb9)
            go_ret
            exact ⟨rfl, HX9.out⟩
      | true =>
        have HGR := fun (W : World) (hW : Below w.heap.size w W) => (hgr.below hW).more hW.size
        have HIY := Lib.hid (fun (W : World) (hW : Below w.heap.size w W) => in_any a1 a2 c1 c2 gl gh lo hi mm ya yv A R c k cr w.heap.size W.heap.size G W hgl hkn hW.size (Nat.le_refl _) (hr.below hW) (HGR W hW))
        cases hi9 : inXB a1 a2 c1 c2 gl gh mm ya yv G with
        | false =>
          rw [hi9] at HIY
          clear wk hz hs hc hv hsa hb2 hl hr hgl hgr hkp hvl hnn HGR hi9
          go_enter Try.func9, Try.ntmps9
          go_upto_region 1 with (fail)
          generalize World.alloc _ _ = w1 at *
          have s0 := cellOf (o := 0) HK.out.s rfl
          have s1 := cellOf (o := 1) HK.out.s rfl
          have s2 := cellOf (o := 2) HK.out.s rfl
          have x0 := cellOf (o := 0) HK.out.x rfl
          have x1 := cellOf (o := 1) HK.out.x rfl
          have x2 := cellOf (o := 2) HK.out.x rfl
          have x3 := cellOf (o := 3) HK.out.x rfl
          have x4 := cellOf (o := 4) HK.out.x rfl
          have x5 := cellOf (o := 5) HK.out.x rfl
          have y0 := cellOf (o := 0) HK.out.y rfl
          have y1 := cellOf (o := 1) HK.out.y rfl
          have y2 := cellOf (o := 2) HK.out.y rfl
          have l0 := lt_of_block HK.out.s
          have l1 := lt_of_block HK.out.x
          have l2 := lt_of_block HK.out.y
          go_wp2_with (first
            | (go_at_call 40; refine Calls.mono (HCS.out _ HK.out.b) ?_; rintro e v1 ⟨rfl, hb1⟩; have HK := Lib.hid (HK.out.next hb1); clear hb1; clear s0 s1 s2 x0 x1 x2 x3 x4 x5 y0 y1 y2 l0 l1 l2; have s0 := cellOf (o := 0) HK.out.s rfl; have s1 := cellOf (o := 1) HK.out.s rfl; have s2 := cellOf (o := 2) HK.out.s rfl; have x0 := cellOf (o := 0) HK.out.x rfl; have x1 := cellOf (o := 1) HK.out.x rfl; have x2 := cellOf (o := 2) HK.out.x rfl; have x3 := cellOf (o := 3) HK.out.x rfl; have x4 := cellOf (o := 4) HK.out.x rfl; have x5 := cellOf (o := 5) HK.out.x rfl; have y0 := cellOf (o := 0) HK.out.y rfl; have y1 := cellOf (o := 1) HK.out.y rfl; have y2 := cellOf (o := 2) HK.out.y rfl; have l0 := lt_of_block HK.out.s; have l1 := lt_of_block HK.out.x; have l2 := lt_of_block HK.out.y)
            | (go_at_call 28; refine Calls.mono (HKP.out _ HK.out.b) ?_; rintro e v2 ⟨rfl, hb2⟩; have HK := Lib.hid (HK.out.next hb2); clear hb2; clear s0 s1 s2 x0 x1 x2 x3 x4 x5 y0 y1 y2 l0 l1 l2; have s0 := cellOf (o := 0) HK.out.s rfl; have s1 := cellOf (o := 1) HK.out.s rfl; have s2 := cellOf (o := 2) HK.out.s rfl; have x0 := cellOf (o := 0) HK.out.x rfl; have x1 := cellOf (o := 1) HK.out.x rfl; have x2 := cellOf (o := 2) HK.out.x rfl; have x3 := cellOf (o := 3) HK.out.x rfl; have x4 := cellOf (o := 4) HK.out.x rfl; have x5 := cellOf (o := 5) HK.out.x rfl; have y0 := cellOf (o := 0) HK.out.y rfl; have y1 := cellOf (o := 1) HK.out.y rfl; have y2 := cellOf (o := 2) HK.out.y rfl; have l0 := lt_of_block HK.out.s; have l1 := lt_of_block HK.out.x; have l2 := lt_of_block HK.out.y)
            | (go_at_call 42; refine Calls.mono (HIY.out _ HK.out.b) ?_; rintro e v6 ⟨rfl, hb6⟩; have HK := Lib.hid (HK.out.next hb6); clear hb6; clear s0 s1 s2 x0 x1 x2 x3 x4 x5 y0 y1 y2 l0 l1 l2; have s0 := cellOf (o := 0) HK.out.s rfl; have s1 := cellOf (o := 1) HK.out.s rfl; have s2 := cellOf (o := 2) HK.out.s rfl; have x0 := cellOf (o := 0) HK.out.x rfl; have x1 := cellOf (o := 1) HK.out.x rfl; have x2 := cellOf (o := 2) HK.out.x rfl; have x3 := cellOf (o := 3) HK.out.x rfl; have x4 := cellOf (o := 4) HK.out.x rfl; have x5 := cellOf (o := 5) HK.out.x rfl; have y0 := cellOf (o := 0) HK.out.y rfl; have y1 := cellOf (o := 1) HK.out.y rfl; have y2 := cellOf (o := 2) HK.out.y rfl; have l0 := lt_of_block HK.out.s; have l1 := lt_of_block HK.out.x; have l2 := lt_of_block HK.out.y)
            | (go_at_call 22; refine Calls.mono (HWK.out _) ?_; rintro e v9 ⟨rfl, hb9⟩; have HX9 := Lib.hid (HK.out.b.trans (hb9.mono HK.out.b.size)); clear hb9))
          go_ret
          exact ⟨rfl, HX9.out⟩
        | true =>
          rw [hi9] at HIY
          obtain ⟨hsw, hlo, hhi, hev⟩ := env_yes hz hkp hi9
          have HSW := Lib.hid (fun (W : World) (hW : Below w.heap.size w W) => by
            have := swingT_any N D d ya yv R k cr w.heap.size G W hgl hkn hW.size (hgr.below hW)
            rw [hsw] at this
            unfold GivesCe at this
            exact this)
          have hrl : (swRow N D d ya yv G).length = k := by simp [swRow, hgl]
          obtain ⟨hv1, hv2, hv3⟩ := vS_get hvl
          have HEV := Lib.hid (fun (j : Nat) (hj : j < k) => show ∃ P0 P1 : Int, (swRow N D d ya yv G)[j]? = some (P0, P1) ∧ (∀ W, Calls Try.prog 41 #[.agg #[.int .i64 P0, .int .i64 P1]] W fun e w' => e = .returned (.bool true) ∧ Below W.heap.size W w') ∧ (∀ W, Calls Try.prog 44 #[.agg #[.int .i64 P0, .int .i64 P1], .agg #[.int .i64 lo, .int .i64 1]] W fun e w' => e = .returned (.bool false) ∧ Below W.heap.size W w') ∧ (∀ W, Calls Try.prog 44 #[.agg #[.int .i64 hi, .int .i64 1], .agg #[.int .i64 P0, .int .i64 P1]] W fun e w' => e = .returned (.bool false) ∧ Below W.heap.size W w') from by
            obtain ⟨⟨P0, P1⟩, k1, k2, k3, k4⟩ := hev j (by omega)
            refine ⟨P0, P1, k1, fun W => ?_, fun W => ?_, fun W => ?_⟩
            · have := jfraction_any P0 P1 W
              rw [decide_eq_true (show 0 < P1 from by have := k2.2.1; simp only at this; omega)] at this
              exact this
            · have := jless_any P0 P1 lo 1 W k2.2.1 k2.2.2 k2.1.1 k2.1.2 (by omega) (by omega) (by omega) (by omega)
              rw [k3] at this
              exact this
            · have := jless_any hi 1 P0 P1 W (by omega) (by omega) (by omega) (by omega) k2.2.1 k2.2.2 k2.1.1 k2.1.2
              rw [k4] at this
              exact this)
          have n1 : ¬ ya < lo := by omega
          have n2 : ¬ hi < ya := by omega
          generalize swRow N D d ya yv G = S at *
          have HRL := Lib.hid hrl
          have hkb : k ≤ 1000000000 := by
            have : k = mm := by
              have := (inXB_iff.1 hi9).1
              omega
            omega
          clear wk hz hs hc hv hsa hb2 hl hr hgl hgr hkp hvl hnn HGR hi9 hsw hlo hhi hev hrl hv1 hv2 hv3
          go_enter Try.func9, Try.ntmps9
          go_upto_region 1 with (fail)
          generalize World.alloc _ _ = w1 at *
          have s0 := cellOf (o := 0) HK.out.s rfl
          have s1 := cellOf (o := 1) HK.out.s rfl
          have s2 := cellOf (o := 2) HK.out.s rfl
          have x0 := cellOf (o := 0) HK.out.x rfl
          have x1 := cellOf (o := 1) HK.out.x rfl
          have x2 := cellOf (o := 2) HK.out.x rfl
          have x3 := cellOf (o := 3) HK.out.x rfl
          have x4 := cellOf (o := 4) HK.out.x rfl
          have x5 := cellOf (o := 5) HK.out.x rfl
          have y0 := cellOf (o := 0) HK.out.y rfl
          have y1 := cellOf (o := 1) HK.out.y rfl
          have y2 := cellOf (o := 2) HK.out.y rfl
          have l0 := lt_of_block HK.out.s
          have l1 := lt_of_block HK.out.x
          have l2 := lt_of_block HK.out.y
          go_upto_region 22 with (first
            | (go_at_call 40; refine Calls.mono (HCS.out _ HK.out.b) ?_; rintro e v1 ⟨rfl, hb1⟩; have HK := Lib.hid (HK.out.next hb1); clear hb1; clear s0 s1 s2 x0 x1 x2 x3 x4 x5 y0 y1 y2 l0 l1 l2; have s0 := cellOf (o := 0) HK.out.s rfl; have s1 := cellOf (o := 1) HK.out.s rfl; have s2 := cellOf (o := 2) HK.out.s rfl; have x0 := cellOf (o := 0) HK.out.x rfl; have x1 := cellOf (o := 1) HK.out.x rfl; have x2 := cellOf (o := 2) HK.out.x rfl; have x3 := cellOf (o := 3) HK.out.x rfl; have x4 := cellOf (o := 4) HK.out.x rfl; have x5 := cellOf (o := 5) HK.out.x rfl; have y0 := cellOf (o := 0) HK.out.y rfl; have y1 := cellOf (o := 1) HK.out.y rfl; have y2 := cellOf (o := 2) HK.out.y rfl; have l0 := lt_of_block HK.out.s; have l1 := lt_of_block HK.out.x; have l2 := lt_of_block HK.out.y)
            | (go_at_call 28; refine Calls.mono (HKP.out _ HK.out.b) ?_; rintro e v2 ⟨rfl, hb2⟩; have HK := Lib.hid (HK.out.next hb2); clear hb2; clear s0 s1 s2 x0 x1 x2 x3 x4 x5 y0 y1 y2 l0 l1 l2; have s0 := cellOf (o := 0) HK.out.s rfl; have s1 := cellOf (o := 1) HK.out.s rfl; have s2 := cellOf (o := 2) HK.out.s rfl; have x0 := cellOf (o := 0) HK.out.x rfl; have x1 := cellOf (o := 1) HK.out.x rfl; have x2 := cellOf (o := 2) HK.out.x rfl; have x3 := cellOf (o := 3) HK.out.x rfl; have x4 := cellOf (o := 4) HK.out.x rfl; have x5 := cellOf (o := 5) HK.out.x rfl; have y0 := cellOf (o := 0) HK.out.y rfl; have y1 := cellOf (o := 1) HK.out.y rfl; have y2 := cellOf (o := 2) HK.out.y rfl; have l0 := lt_of_block HK.out.s; have l1 := lt_of_block HK.out.x; have l2 := lt_of_block HK.out.y)
            | (go_at_call 42; refine Calls.mono (HIY.out _ HK.out.b) ?_; rintro e v6 ⟨rfl, hb6⟩; have HK := Lib.hid (HK.out.next hb6); clear hb6; clear s0 s1 s2 x0 x1 x2 x3 x4 x5 y0 y1 y2 l0 l1 l2; have s0 := cellOf (o := 0) HK.out.s rfl; have s1 := cellOf (o := 1) HK.out.s rfl; have s2 := cellOf (o := 2) HK.out.s rfl; have x0 := cellOf (o := 0) HK.out.x rfl; have x1 := cellOf (o := 1) HK.out.x rfl; have x2 := cellOf (o := 2) HK.out.x rfl; have x3 := cellOf (o := 3) HK.out.x rfl; have x4 := cellOf (o := 4) HK.out.x rfl; have x5 := cellOf (o := 5) HK.out.x rfl; have y0 := cellOf (o := 0) HK.out.y rfl; have y1 := cellOf (o := 1) HK.out.y rfl; have y2 := cellOf (o := 2) HK.out.y rfl; have l0 := lt_of_block HK.out.s; have l1 := lt_of_block HK.out.x; have l2 := lt_of_block HK.out.y)
            | (go_at_call 17; refine Calls.mono (HSW.out _ HK.out.b) ?_; rintro e v7 ⟨u7, rfl, hq7, hb7⟩; have HK := Lib.hid (HK.out.next hb7); clear hb7; clear s0 s1 s2 x0 x1 x2 x3 x4 x5 y0 y1 y2 l0 l1 l2; have s0 := cellOf (o := 0) HK.out.s rfl; have s1 := cellOf (o := 1) HK.out.s rfl; have s2 := cellOf (o := 2) HK.out.s rfl; have x0 := cellOf (o := 0) HK.out.x rfl; have x1 := cellOf (o := 1) HK.out.x rfl; have x2 := cellOf (o := 2) HK.out.x rfl; have x3 := cellOf (o := 3) HK.out.x rfl; have x4 := cellOf (o := 4) HK.out.x rfl; have x5 := cellOf (o := 5) HK.out.x rfl; have y0 := cellOf (o := 0) HK.out.y rfl; have y1 := cellOf (o := 1) HK.out.y rfl; have y2 := cellOf (o := 2) HK.out.y rfl; have l0 := lt_of_block HK.out.s; have l1 := lt_of_block HK.out.x; have l2 := lt_of_block HK.out.y; obtain ⟨A9, c9, rfl, hr9⟩ := hq7; have HR9 := Lib.hid hr9; clear hr9))
          have hrl := HRL.out
          try simp only
          rw [hrl]
          clear hrl
          go_wp2
          clear s0 s1 s2 x0 x1 x2 x3 x4 x5 y0 y1 y2 l0 l1 l2
          go_loopw [18] (fun iw wr => ∃ j : Nat, j ≤ k ∧ iw = .int .i64 j ∧ Below v7.heap.size v7 wr) (fun iw _ => k - (intOf iw).toNat)
          case atStart => exact ⟨0, by omega, rfl, Below.refl _ _⟩
          case round =>
            obtain ⟨j, hj, rfl, hbw⟩ := hrel
            have HBW := Lib.hid hbw
            have HK := Lib.hid (HK.out.next hbw)
            clear hbw
            by_cases hlt : j < k
            · obtain ⟨P0, P1, hp, hF, hL1, hL2⟩ := HEV.out j hlt
              obtain ⟨be, oe, pp, rfl, hbe, hpx, hc0, hc1⟩ := (HR9.out.below HBW.out).at_ (k := j) (by rw [HRL.out]; exact hlt)
              rw [hp] at hpx
              cases hpx
              simp only at hc0 hc1
              have HF := Lib.hid hF
              have HL1 := Lib.hid hL1
              have HL2 := Lib.hid hL2
              have i1 : (0 : Int) ≤ (j : Int) := by omega
              have i2 : (j : Int) < (k : Int) := by omega
              have i3 : IntKind.i64.wrap ((j : Int) + 1) = (j : Int) + 1 := IntWalk.i64_in _ (by omega)
              have le := World.block_lt_of_cell? _ _ hc0
              have x3 := cellOf (o := 3) HK.out.x rfl
              have x4 := cellOf (o := 4) HK.out.x rfl
              have l1 := lt_of_block HK.out.x
              clear hp hF hL1 hL2 hbe
              go_upto_region 27 with (fail)
              obtain ⟨Q, hQ⟩ : ∃ q9 : Nat → Value → World → Prop, q9 = QG [some (.slice (some ⟨be, oe, none⟩) k c9), some (.int .i64 ((j : Int))), some (.pointer (some ⟨be, oe + j * 2, none⟩)), some (.agg #[.int .i64 P0, .int .i64 P1]), some (.bool true), some (.bool false), some (.bool false), some (.slice (some ⟨be, oe, none⟩) k c9), some (.int .i64 ((j : Int))), some (.pointer (some ⟨be, oe + j * 2, none⟩)), some (.agg #[.int .i64 P0, .int .i64 P1]), some (.pointer (some ⟨w.heap.size + 1, 3, none⟩)), some (.pointer (some ⟨w.heap.size + 1, 3, none⟩)), some (.int .i64 lo), some (.agg #[.int .i64 lo, .int .i64 1]), some (.bool false), some (.bool false), some (.bool false), some (.pointer (some ⟨w.heap.size + 1, 3, none⟩)), some (.pointer (some ⟨w.heap.size + 1, 4, none⟩)), some (.int .i64 hi), some (.agg #[.int .i64 hi, .int .i64 1]), some (.slice (some ⟨be, oe, none⟩) k c9), some (.int .i64 ((j : Int))), some (.pointer (some ⟨be, oe + j * 2, none⟩)), some (.agg #[.int .i64 P0, .int .i64 P1]), some (.bool false), some (.bool false)] (fun _ _ _ => True) := ⟨_, rfl⟩
              have hst : Stays Q := by rw [hQ]; exact QG.stays (fun _ _ _ _ _ _ => trivial)
              have HQ := Lib.hid hQ
              clear hQ
              refine wpIn_wide.1 (region_inv2 (n := 9) (by kernel_rfl) (RQ Q wr) (by kernel_rfl) rfl (RQ.start _ _ _) ?hstep ?hend)
              case hstep =>
                intro i' o ho val L b' x hF hR hpre hl
                match i', ho with
                | 0, ho =>
                  simp at ho; subst ho; refine step_plain rfl ?_; have e17 := hF.was 17 (by kernel_rfl) rfl; have hgoal := hR.go hst HQ 0 rfl; clear hF hpre hl hR; go_simp; exact ⟨_, rfl, hgoal _ _ (Below.refl _ _) rfl⟩
                | 1, ho =>
                  simp at ho; subst ho; refine step_plain rfl ?_; have e18 := hF.was 18 (by kernel_rfl) rfl; have hgoal := hR.go hst HQ 1 rfl; clear hF hpre hl hR; go_simp; exact ⟨_, rfl, hgoal _ _ (Below.refl _ _) rfl⟩
                | 2, ho =>
                  simp at ho; subst ho; refine step_plain rfl ?_; have e164 := hF.gv hR.2 HQ 0 rfl (hpre ⟨0, .data⟩ (by simp) rfl) rfl; have e165 := hF.gv hR.2 HQ 1 rfl (hpre ⟨1, .data⟩ (by simp) rfl) rfl; have hgoal := hR.go hst HQ 2 rfl; clear hF hpre hl hR; go_simp; exact ⟨_, rfl, hgoal _ _ (Below.refl _ _) rfl⟩
                | 3, ho =>
                  simp at ho; subst ho; refine step_plain rfl ?_; have e166 := hF.gv hR.2 HQ 2 rfl (hpre ⟨2, .data⟩ (by simp) rfl) rfl; have hgoal := hR.go hst HQ 3 rfl; have q0 := cell_keep hR.1 hc0; have q1 := cell_keep hR.1 hc1; clear hF hpre hl hR; go_simp; exact ⟨_, rfl, hgoal _ _ (Below.refl _ _) rfl⟩
                | 4, ho =>
                  simp at ho; subst ho; refine step_plain rfl ?_; have e167 := hF.gv hR.2 HQ 3 rfl (hpre ⟨3, .data⟩ (by simp) rfl) rfl; have hgoal := hR.go hst HQ 4 rfl
                  have hM := Lib.hid hR.1
                  clear hF hpre hl hR; go_simp
                  refine ⟨trivial, ?_⟩
                  refine CallsIn.mono (callsIn_wide.2 (HF.out _)) ?_
                  rintro e w9 ⟨rfl, hb9⟩
                  exact ⟨_, rfl, hgoal _ _ hb9 rfl⟩
                | 5, ho =>
                  simp at ho; subst ho; refine step_plain rfl ?_; have e168 := hF.gv hR.2 HQ 4 rfl (hpre ⟨4, .data⟩ (by simp) rfl) rfl; have hgoal := hR.go hst HQ 5 rfl; clear hF hpre hl hR; go_simp; exact ⟨_, rfl, hgoal _ _ (Below.refl _ _) rfl⟩
                | 6, ho =>
                  simp at ho; subst ho; refine step_plain rfl ?_; have e169 := hF.gv hR.2 HQ 5 rfl (hpre ⟨5, .data⟩ (by simp) rfl) rfl; have hgoal := hR.go hst HQ 6 rfl; clear hF hpre hl hR; go_simp; exact ⟨_, rfl, hgoal _ _ (Below.refl _ _) rfl⟩
                | 7, ho =>
                  simp at ho; subst ho; refine step_gd hF hR.2 HQ (j := 6) (b := false) rfl rfl (by kernel_rfl) (hpre ⟨6, .guard⟩ (by simp) rfl) rfl ?_; have e17 := hF.was 17 (by kernel_rfl) rfl; have hgoal := hR.go hst HQ 7 rfl; clear hF hpre hl hR; go_simp; exact ⟨_, rfl, hgoal _ _ (Below.refl _ _) rfl⟩
                | 8, ho =>
                  simp at ho; subst ho; refine step_gd hF hR.2 HQ (j := 6) (b := false) rfl rfl (by kernel_rfl) (hpre ⟨6, .guard⟩ (by simp) rfl) rfl ?_; have e18 := hF.was 18 (by kernel_rfl) rfl; have hgoal := hR.go hst HQ 8 rfl; clear hF hpre hl hR; go_simp; exact ⟨_, rfl, hgoal _ _ (Below.refl _ _) rfl⟩
                | 9, ho =>
                  simp at ho; subst ho; refine step_gd hF hR.2 HQ (j := 6) (b := false) rfl rfl (by kernel_rfl) (hpre ⟨6, .guard⟩ (by simp) rfl) rfl ?_; have e171 := hF.gv hR.2 HQ 7 rfl (hpre ⟨7, .data⟩ (by simp) rfl) rfl; have e172 := hF.gv hR.2 HQ 8 rfl (hpre ⟨8, .data⟩ (by simp) rfl) rfl; have hgoal := hR.go hst HQ 9 rfl; clear hF hpre hl hR; go_simp; exact ⟨_, rfl, hgoal _ _ (Below.refl _ _) rfl⟩
                | 10, ho =>
                  simp at ho; subst ho; refine step_gd hF hR.2 HQ (j := 6) (b := false) rfl rfl (by kernel_rfl) (hpre ⟨6, .guard⟩ (by simp) rfl) rfl ?_; have e173 := hF.gv hR.2 HQ 9 rfl (hpre ⟨9, .data⟩ (by simp) rfl) rfl; have hgoal := hR.go hst HQ 10 rfl; have q0 := cell_keep hR.1 hc0; have q1 := cell_keep hR.1 hc1; clear hF hpre hl hR; go_simp; exact ⟨_, rfl, hgoal _ _ (Below.refl _ _) rfl⟩
                | 11, ho =>
                  simp at ho; subst ho; refine step_gd hF hR.2 HQ (j := 6) (b := false) rfl rfl (by kernel_rfl) (hpre ⟨6, .guard⟩ (by simp) rfl) rfl ?_; have e4 := hF.was 4 (by kernel_rfl) rfl; have hgoal := hR.go hst HQ 11 rfl; clear hF hpre hl hR; go_simp; exact ⟨_, rfl, hgoal _ _ (Below.refl _ _) rfl⟩
                | 12, ho =>
                  simp at ho; subst ho; refine step_gd hF hR.2 HQ (j := 6) (b := false) rfl rfl (by kernel_rfl) (hpre ⟨6, .guard⟩ (by simp) rfl) rfl ?_; have e175 := hF.gv hR.2 HQ 11 rfl (hpre ⟨11, .data⟩ (by simp) rfl) rfl; have hgoal := hR.go hst HQ 12 rfl; clear hF hpre hl hR; go_simp; exact ⟨_, rfl, hgoal _ _ (Below.refl _ _) rfl⟩
                | 13, ho =>
                  simp at ho; subst ho; refine step_gd hF hR.2 HQ (j := 6) (b := false) rfl rfl (by kernel_rfl) (hpre ⟨6, .guard⟩ (by simp) rfl) rfl ?_; have e176 := hF.gv hR.2 HQ 12 rfl (hpre ⟨12, .data⟩ (by simp) rfl) rfl; have hgoal := hR.go hst HQ 13 rfl; have q0 := cell_keep hR.1 x3; clear hF hpre hl hR; go_simp; exact ⟨_, rfl, hgoal _ _ (Below.refl _ _) rfl⟩
                | 14, ho =>
                  simp at ho; subst ho; refine step_gd hF hR.2 HQ (j := 6) (b := false) rfl rfl (by kernel_rfl) (hpre ⟨6, .guard⟩ (by simp) rfl) rfl ?_; have e177 := hF.gv hR.2 HQ 13 rfl (hpre ⟨13, .data⟩ (by simp) rfl) rfl; have hgoal := hR.go hst HQ 14 rfl; clear hF hpre hl hR; go_simp; exact ⟨_, rfl, hgoal _ _ (Below.refl _ _) rfl⟩
                | 15, ho =>
                  simp at ho; subst ho; refine step_gd hF hR.2 HQ (j := 6) (b := false) rfl rfl (by kernel_rfl) (hpre ⟨6, .guard⟩ (by simp) rfl) rfl ?_; have e174 := hF.gv hR.2 HQ 10 rfl (hpre ⟨10, .data⟩ (by simp) rfl) rfl; have e178 := hF.gv hR.2 HQ 14 rfl (hpre ⟨14, .data⟩ (by simp) rfl) rfl; have hgoal := hR.go hst HQ 15 rfl
                  have hM := Lib.hid hR.1
                  clear hF hpre hl hR; go_simp
                  refine ⟨trivial, ?_⟩
                  refine CallsIn.mono (callsIn_wide.2 (HL1.out _)) ?_
                  rintro e w9 ⟨rfl, hb9⟩
                  exact ⟨_, rfl, hgoal _ _ hb9 rfl⟩
                | 16, ho =>
                  simp at ho; subst ho; refine step_plain rfl ?_; have e170 := hF.gv hR.2 HQ 6 rfl (hpre ⟨6, .data⟩ (by simp) rfl) rfl; have e179 := hF.gv hR.2 HQ 15 rfl (hpre ⟨15, .data⟩ (by simp) rfl) rfl; have hgoal := hR.go hst HQ 16 rfl; clear hF hpre hl hR; go_simp; exact ⟨_, rfl, hgoal _ _ (Below.refl _ _) rfl⟩
                | 17, ho =>
                  simp at ho; subst ho; refine step_plain rfl ?_; have e180 := hF.gv hR.2 HQ 16 rfl (hpre ⟨16, .data⟩ (by simp) rfl) rfl; have hgoal := hR.go hst HQ 17 rfl; clear hF hpre hl hR; go_simp; exact ⟨_, rfl, hgoal _ _ (Below.refl _ _) rfl⟩
                | 18, ho =>
                  simp at ho; subst ho; refine step_gd hF hR.2 HQ (j := 17) (b := false) rfl rfl (by kernel_rfl) (hpre ⟨17, .guard⟩ (by simp) rfl) rfl ?_; have e4 := hF.was 4 (by kernel_rfl) rfl; have hgoal := hR.go hst HQ 18 rfl; clear hF hpre hl hR; go_simp; exact ⟨_, rfl, hgoal _ _ (Below.refl _ _) rfl⟩
                | 19, ho =>
                  simp at ho; subst ho; refine step_gd hF hR.2 HQ (j := 17) (b := false) rfl rfl (by kernel_rfl) (hpre ⟨17, .guard⟩ (by simp) rfl) rfl ?_; have e182 := hF.gv hR.2 HQ 18 rfl (hpre ⟨18, .data⟩ (by simp) rfl) rfl; have hgoal := hR.go hst HQ 19 rfl; clear hF hpre hl hR; go_simp; exact ⟨_, rfl, hgoal _ _ (Below.refl _ _) rfl⟩
                | 20, ho =>
                  simp at ho; subst ho; refine step_gd hF hR.2 HQ (j := 17) (b := false) rfl rfl (by kernel_rfl) (hpre ⟨17, .guard⟩ (by simp) rfl) rfl ?_; have e183 := hF.gv hR.2 HQ 19 rfl (hpre ⟨19, .data⟩ (by simp) rfl) rfl; have hgoal := hR.go hst HQ 20 rfl; have q0 := cell_keep hR.1 x4; clear hF hpre hl hR; go_simp; exact ⟨_, rfl, hgoal _ _ (Below.refl _ _) rfl⟩
                | 21, ho =>
                  simp at ho; subst ho; refine step_gd hF hR.2 HQ (j := 17) (b := false) rfl rfl (by kernel_rfl) (hpre ⟨17, .guard⟩ (by simp) rfl) rfl ?_; have e184 := hF.gv hR.2 HQ 20 rfl (hpre ⟨20, .data⟩ (by simp) rfl) rfl; have hgoal := hR.go hst HQ 21 rfl; clear hF hpre hl hR; go_simp; exact ⟨_, rfl, hgoal _ _ (Below.refl _ _) rfl⟩
                | 22, ho =>
                  simp at ho; subst ho; refine step_gd hF hR.2 HQ (j := 17) (b := false) rfl rfl (by kernel_rfl) (hpre ⟨17, .guard⟩ (by simp) rfl) rfl ?_; have e17 := hF.was 17 (by kernel_rfl) rfl; have hgoal := hR.go hst HQ 22 rfl; clear hF hpre hl hR; go_simp; exact ⟨_, rfl, hgoal _ _ (Below.refl _ _) rfl⟩
                | 23, ho =>
                  simp at ho; subst ho; refine step_gd hF hR.2 HQ (j := 17) (b := false) rfl rfl (by kernel_rfl) (hpre ⟨17, .guard⟩ (by simp) rfl) rfl ?_; have e18 := hF.was 18 (by kernel_rfl) rfl; have hgoal := hR.go hst HQ 23 rfl; clear hF hpre hl hR; go_simp; exact ⟨_, rfl, hgoal _ _ (Below.refl _ _) rfl⟩
                | 24, ho =>
                  simp at ho; subst ho; refine step_gd hF hR.2 HQ (j := 17) (b := false) rfl rfl (by kernel_rfl) (hpre ⟨17, .guard⟩ (by simp) rfl) rfl ?_; have e186 := hF.gv hR.2 HQ 22 rfl (hpre ⟨22, .data⟩ (by simp) rfl) rfl; have e187 := hF.gv hR.2 HQ 23 rfl (hpre ⟨23, .data⟩ (by simp) rfl) rfl; have hgoal := hR.go hst HQ 24 rfl; clear hF hpre hl hR; go_simp; exact ⟨_, rfl, hgoal _ _ (Below.refl _ _) rfl⟩
                | 25, ho =>
                  simp at ho; subst ho; refine step_gd hF hR.2 HQ (j := 17) (b := false) rfl rfl (by kernel_rfl) (hpre ⟨17, .guard⟩ (by simp) rfl) rfl ?_; have e188 := hF.gv hR.2 HQ 24 rfl (hpre ⟨24, .data⟩ (by simp) rfl) rfl; have hgoal := hR.go hst HQ 25 rfl; have q0 := cell_keep hR.1 hc0; have q1 := cell_keep hR.1 hc1; clear hF hpre hl hR; go_simp; exact ⟨_, rfl, hgoal _ _ (Below.refl _ _) rfl⟩
                | 26, ho =>
                  simp at ho; subst ho; refine step_gd hF hR.2 HQ (j := 17) (b := false) rfl rfl (by kernel_rfl) (hpre ⟨17, .guard⟩ (by simp) rfl) rfl ?_; have e185 := hF.gv hR.2 HQ 21 rfl (hpre ⟨21, .data⟩ (by simp) rfl) rfl; have e189 := hF.gv hR.2 HQ 25 rfl (hpre ⟨25, .data⟩ (by simp) rfl) rfl; have hgoal := hR.go hst HQ 26 rfl
                  have hM := Lib.hid hR.1
                  clear hF hpre hl hR; go_simp
                  refine ⟨trivial, ?_⟩
                  refine CallsIn.mono (callsIn_wide.2 (HL2.out _)) ?_
                  rintro e w9 ⟨rfl, hb9⟩
                  exact ⟨_, rfl, hgoal _ _ hb9 rfl⟩
                | 27, ho =>
                  simp at ho; subst ho; refine step_plain rfl ?_; have e181 := hF.gv hR.2 HQ 17 rfl (hpre ⟨17, .data⟩ (by simp) rfl) rfl; have e190 := hF.gv hR.2 HQ 26 rfl (hpre ⟨26, .data⟩ (by simp) rfl) rfl; have hgoal := hR.go hst HQ 27 rfl; clear hF hpre hl hR; go_simp; exact ⟨_, rfl, hgoal _ _ (Below.refl _ _) rfl⟩
                | i + 28, ho => simp at ho
              case hend =>
                intro val L b' x hF hall hR
                have e := hF.all (by kernel_rfl) hall
                have k27 := QG.val HQ rfl (hR.2 27 (hall 27 (by decide)))
                have hB := Lib.hid hR.1
                clear hF hall hR hst HQ 
                subst e
                simp [final, dstOf, List.range, List.range.loop]
                rw [k27]
                have HB9 := Lib.hid (HBW.out.trans (hB.out.mono HBW.out.size))
                clear hc0 hc1 x3 x4 l1 le hB
                go_wp2
                go_roundw
                case rel => exact ⟨j + 1, by omega, by go_num, HB9.out⟩
                case measure => simp [intOf] <;> omega
            · obtain rfl : j = k := by omega
              go_wp2_with (go_at_call 22; refine Calls.mono (HWK.out _) ?_; rintro e v9 ⟨rfl, hb9⟩; have HX9 := Lib.hid (HK.out.b.trans (hb9.mono HK.out.b.size)); clear hb9)
              go_ret
              exact ⟨rfl, HX9.out⟩
    · have hE0 : (ke != 0) = true := by rw [bne_iff_ne]; exact hke
      clear wk hz hr hl hgr hgl hkp hke
      go_enter Try.func9, Try.ntmps9
      go_upto_region 1 with (fail)
      generalize World.alloc _ _ = w1 at *
      have s0 := cellOf (o := 0) HK.out.s rfl
      have s1 := cellOf (o := 1) HK.out.s rfl
      have s2 := cellOf (o := 2) HK.out.s rfl
      have x0 := cellOf (o := 0) HK.out.x rfl
      have x1 := cellOf (o := 1) HK.out.x rfl
      have x2 := cellOf (o := 2) HK.out.x rfl
      have x3 := cellOf (o := 3) HK.out.x rfl
      have x4 := cellOf (o := 4) HK.out.x rfl
      have x5 := cellOf (o := 5) HK.out.x rfl
      have y0 := cellOf (o := 0) HK.out.y rfl
      have y1 := cellOf (o := 1) HK.out.y rfl
      have y2 := cellOf (o := 2) HK.out.y rfl
      have l0 := lt_of_block HK.out.s
      have l1 := lt_of_block HK.out.x
      have l2 := lt_of_block HK.out.y
      go_wp2_with (first
        | (go_at_call 40; refine Calls.mono (HCS.out _ HK.out.b) ?_; rintro e v1 ⟨rfl, hb1⟩; have HK := Lib.hid (HK.out.next hb1); clear hb1; clear s0 s1 s2 x0 x1 x2 x3 x4 x5 y0 y1 y2 l0 l1 l2; have s0 := cellOf (o := 0) HK.out.s rfl; have s1 := cellOf (o := 1) HK.out.s rfl; have s2 := cellOf (o := 2) HK.out.s rfl; have x0 := cellOf (o := 0) HK.out.x rfl; have x1 := cellOf (o := 1) HK.out.x rfl; have x2 := cellOf (o := 2) HK.out.x rfl; have x3 := cellOf (o := 3) HK.out.x rfl; have x4 := cellOf (o := 4) HK.out.x rfl; have x5 := cellOf (o := 5) HK.out.x rfl; have y0 := cellOf (o := 0) HK.out.y rfl; have y1 := cellOf (o := 1) HK.out.y rfl; have y2 := cellOf (o := 2) HK.out.y rfl; have l0 := lt_of_block HK.out.s; have l1 := lt_of_block HK.out.x; have l2 := lt_of_block HK.out.y)
        | (go_at_call 28; refine Calls.mono (HKP.out _ HK.out.b) ?_; rintro e v2 ⟨rfl, hb2⟩; have HK := Lib.hid (HK.out.next hb2); clear hb2; clear s0 s1 s2 x0 x1 x2 x3 x4 x5 y0 y1 y2 l0 l1 l2; have s0 := cellOf (o := 0) HK.out.s rfl; have s1 := cellOf (o := 1) HK.out.s rfl; have s2 := cellOf (o := 2) HK.out.s rfl; have x0 := cellOf (o := 0) HK.out.x rfl; have x1 := cellOf (o := 1) HK.out.x rfl; have x2 := cellOf (o := 2) HK.out.x rfl; have x3 := cellOf (o := 3) HK.out.x rfl; have x4 := cellOf (o := 4) HK.out.x rfl; have x5 := cellOf (o := 5) HK.out.x rfl; have y0 := cellOf (o := 0) HK.out.y rfl; have y1 := cellOf (o := 1) HK.out.y rfl; have y2 := cellOf (o := 2) HK.out.y rfl; have l0 := lt_of_block HK.out.s; have l1 := lt_of_block HK.out.x; have l2 := lt_of_block HK.out.y)
        | (go_at_call 22; refine Calls.mono (HWK.out _) ?_; rintro e v9 ⟨rfl, hb9⟩; have HX9 := Lib.hid (HK.out.b.trans (hb9.mono HK.out.b.size)); clear hb9))
      go_ret
      exact ⟨rfl, HX9.out⟩
  · have hE0 : (alE N D d b gl gh m [] != 0) = true := by rw [bne_iff_ne]; exact hz
    generalize alE N D d b gl gh m [] = E at *
    clear wk hz hr hl hgr hgl hkp
    go_enter Try.func9, Try.ntmps9
    go_upto_region 1 with (fail)
    generalize World.alloc _ _ = w1 at *
    have s0 := cellOf (o := 0) HK.out.s rfl
    have s1 := cellOf (o := 1) HK.out.s rfl
    have s2 := cellOf (o := 2) HK.out.s rfl
    have x0 := cellOf (o := 0) HK.out.x rfl
    have x1 := cellOf (o := 1) HK.out.x rfl
    have x2 := cellOf (o := 2) HK.out.x rfl
    have x3 := cellOf (o := 3) HK.out.x rfl
    have x4 := cellOf (o := 4) HK.out.x rfl
    have x5 := cellOf (o := 5) HK.out.x rfl
    have y0 := cellOf (o := 0) HK.out.y rfl
    have y1 := cellOf (o := 1) HK.out.y rfl
    have y2 := cellOf (o := 2) HK.out.y rfl
    have l0 := lt_of_block HK.out.s
    have l1 := lt_of_block HK.out.x
    have l2 := lt_of_block HK.out.y
    go_wp2_with (first
      | (go_at_call 40; refine Calls.mono (HCS.out _ HK.out.b) ?_; rintro e v1 ⟨rfl, hb1⟩; have HK := Lib.hid (HK.out.next hb1); clear hb1; clear s0 s1 s2 x0 x1 x2 x3 x4 x5 y0 y1 y2 l0 l1 l2; have s0 := cellOf (o := 0) HK.out.s rfl; have s1 := cellOf (o := 1) HK.out.s rfl; have s2 := cellOf (o := 2) HK.out.s rfl; have x0 := cellOf (o := 0) HK.out.x rfl; have x1 := cellOf (o := 1) HK.out.x rfl; have x2 := cellOf (o := 2) HK.out.x rfl; have x3 := cellOf (o := 3) HK.out.x rfl; have x4 := cellOf (o := 4) HK.out.x rfl; have x5 := cellOf (o := 5) HK.out.x rfl; have y0 := cellOf (o := 0) HK.out.y rfl; have y1 := cellOf (o := 1) HK.out.y rfl; have y2 := cellOf (o := 2) HK.out.y rfl; have l0 := lt_of_block HK.out.s; have l1 := lt_of_block HK.out.x; have l2 := lt_of_block HK.out.y)
      | (go_at_call 22; refine Calls.mono (HWK.out _) ?_; rintro e v9 ⟨rfl, hb9⟩; have HX9 := Lib.hid (HK.out.b.trans (hb9.mono HK.out.b.size)); clear hb9))
    go_ret
    exact ⟨rfl, HX9.out⟩
end Go.Proofs.Ytnnmmojlgikdgaa

/- swashplatelaw07.SlingEnvelope returns true at every input, and the input reads as it did: no condition. -/
namespace Go.Proofs.Ytnnmmojlgikdgaa
open Go.RowKit Go.WideShapes Go.ChangeShapes Go.ChangeAt Go.Joins

set_option maxRecDepth 100000 in
theorem envelope_lifted (os : Os) (started : os.Started) (H : Type) (enc : TypeId × Value → H) :
    ReturnsInHanded {} Try.checked os 9 .any (Rows.slingEnvelopeSpec.pre6 enc Try.prog Try.f9 Rows.slingEnvelopeRow.domain false) (Rows.slingEnvelopeSpec.post enc Try.prog Try.f9 false true false false) := by
  refine returnsInHanded_of_change (C := Try.checked) own started (by kernel_rfl) Try.func9
    (ChangeSpec.witness6 (enc := enc) (C := Try.checked) false ⟨#[], #[.agg #[.int .i64 0, .int .i64 0, .int .i64 0], .agg #[.slice none 0 0, .int .i64 0, .int .i64 0, .int .i64 0, .int .i64 0, .int .i64 0], .agg #[.int .i64 0, .int .i64 0, .slice none 0 0, .int .i64 0, .int .i64 0, .int .i64 0]], []⟩ 8 (by kernel_rfl) (by kernel_rfl) (by kernel_rfl) (by kernel_rfl)) ?_
  intro W base args ds gs before hval0 hW hcnd _
  have hval : ∀ (j : Nat) t v, Try.f9.params[j]? = some t → args[j]? = some v → Value.okWide Try.prog W .any base t v := hval0
  have hW' := hW
  obtain ⟨p, q, hA0, hV, rfl, hfz, hnd⟩ := hW
  have hA : DataW.TrodAll enc Try.prog W 0 (fun _ => true) true Try.f9.params.toList args.toList ds p := hA0
  rw [Try.params9] at hA hval
  obtain ⟨v0, v1, v2, d0, d1, d2, p0, p1, p2, rfl, rfl, rfl, h0, h1, h2⟩ := trodAll_three hA
  obtain ⟨rfl, rfl⟩ := trodVars_none hV
  obtain ⟨a0, b0, c0, rfl⟩ := sling_open (hval 0 23 v0 rfl rfl) h0
  obtain ⟨A1, n1, c1, g1, k1, lo1, hi1, m1, l1, rfl, hl1, hn1, hr1⟩ := sets_open (hval 1 43 v1 rfl rfl) h1
  obtain ⟨a2, b2, A2, n2, c2, m2, lo2, hi2, G2, rfl, hl2, hn2, hr2⟩ := swung_open (hval 2 29 v2 rfl rfl) h2
  clear hA0 hval0
  simp only [List.append_nil] at hW'
  have hlt : ∀ x ∈ p0 ++ p1 ++ p2, x.block < W.heap.size := fun x hx => hW'.lt x hx
  refine (law_envelope works7_any W a0 b0 c0 A1 n1 c1 g1 k1 lo1 hi1 m1 l1 hl1 hn1 hr1 a2 b2 A2 n2 c2 m2 lo2 hi2 G2 hl2 hn2 hr2).mono fun e W' ⟨he, hb⟩ => ?_
  subst he
  exact ⟨_, rfl, law_post hW' (by kernel_rfl) Try.underlying4 rfl rfl (fun sp hsp => (by simp only [List.append_assoc]; exact trodAll_mk3 (again (by kernel_rfl) (of_decide_eq_true (by kernel_rfl)) h0 hb (fun x hx => hlt x (List.mem_append_left _ (List.mem_append_left _ hx))) (fun x hx => hsp x (List.mem_append_left _ (List.mem_append_left _ hx)))) (again (by kernel_rfl) (of_decide_eq_true (by kernel_rfl)) h1 hb (fun x hx => hlt x (List.mem_append_left _ (List.mem_append_right _ hx))) (fun x hx => hsp x (List.mem_append_left _ (List.mem_append_right _ hx)))) (again (by kernel_rfl) (of_decide_eq_true (by kernel_rfl)) h2 hb (fun x hx => hlt x (List.mem_append_right _ hx)) (fun x hx => hsp x (List.mem_append_right _ hx))))) hb⟩

theorem envelope_holds : Rows.SlingEnvelopeSaid :=
  OpenClaim.holds_of_wide 9 Try.f9 rfl rfl rfl rfl rfl rfl rfl ⟨rfl, rfl, rfl, rfl, rfl⟩ rfl rfl rfl rfl rfl (by kernel_rfl) Try.func9 (by kernel_rfl)
    (of_decide_eq_true (by kernel_rfl)) (by unfold Func.isWrapper; first | (rw [if_pos (by decide +kernel)]; kernel_rfl) | (rw [if_neg (by decide +kernel)]; exact ⟨rfl, rfl⟩))
    (fun os started H enc _ => envelope_lifted os started H enc)
#print axioms envelope_holds

end Go.Proofs.Ytnnmmojlgikdgaa

/- swashplatelaw07.SlingReaches returns true at every input, and the input reads as it did: no condition. -/
import Derived.Test.YtnnmmojlgikdgaaM7
import Derived.Test.YtnnmmojlgikdgaaM9
import Derived.Test.YtnnmmojlgikdgaaM8
import Derived.Test.YtnnmmojlgikdgaaM4
import Derived.Test.YtnnmmojlgikdgaaM10

/- A drawn region whose last operations fill two boxes that were there, one behind the other. -/
namespace Go.Proofs.Ytnnmmojlgikdgaa
open Go.RowKit

def RT2 (Q : Nat → Value → World → Prop) (W0 : World) (s1 s2 : Nat) (f1 f2 : World → World) (val : Nat → Value) (L : Array Bool) (W : World) : Prop :=
  (∀ j, L.getD j false = true → Q j (val j) W) ∧ (L.getD s1 false = false → Below W0.heap.size W0 W) ∧
    (L.getD s1 false = true → (L.getD s2 false = false → ∃ y, Below W0.heap.size W0 y ∧ W = f1 y) ∧ (L.getD s2 false = true → ∃ y, Below W0.heap.size W0 y ∧ W = f2 (f1 y)))
section
variable {Q : Nat → Value → World → Prop} {W0 W W' : World} {s1 s2 i : Nat} {f1 f2 : World → World} {v : Value} {val : Nat → Value} {L : Array Bool}
theorem RT2.start (Q : Nat → Value → World → Prop) (W0 : World) (s1 s2 : Nat) (f1 f2 : World → World) (n : Nat) : RT2 Q W0 s1 s2 f1 f2 (fun _ => undef) (Array.replicate n false) W0.drew :=
  ⟨fun j h => (by rw [getD_replicate_no] at h; cases h), fun _ => (Below.refl _ _).drew, fun h => (by rw [getD_replicate_no] at h; cases h)⟩
theorem RT2.vals (h : RT2 Q W0 s1 s2 f1 f2 val L W) (hQ : Still Q) (hq : Q i v W') : ∀ j, (L.setIfInBounds i true).getD j false = true → Q j (upd val i v j) W' := fun j hj => by
  by_cases e : j = i
  · subst e; rw [upd_same]; exact hq
  · rw [upd_other e]
    rw [getD_set_other (fun h => e h.symm)] at hj
    exact hQ _ _ _ _ (h.1 j hj)
theorem RT2.step (h : RT2 Q W0 s1 s2 f1 f2 val L W) (hQ : Still Q) (hb : Below W.heap.size W W') (hq : Q i v W') (hs : i ≠ s1) (hN : L.getD s1 false = false) : RT2 Q W0 s1 s2 f1 f2 (upd val i v) (L.setIfInBounds i true) W' := by
  refine ⟨h.vals hQ hq, fun _ => (h.2.1 hN).trans (hb.mono (h.2.1 hN).size), fun hl => ?_⟩
  rw [getD_set_other hs, hN] at hl; cases hl
theorem RT2.store1 (h : RT2 Q W0 s1 s2 f1 f2 val L W) (hQ : Still Q) (hq : Q s1 v (f1 W)) (hne : s1 ≠ s2) (hls : s1 < L.size) (hN : L.getD s1 false = false) (hN2 : L.getD s2 false = false) : RT2 Q W0 s1 s2 f1 f2 (upd val s1 v) (L.setIfInBounds s1 true) (f1 W) := by
  refine ⟨h.vals hQ hq, fun hl => ?_, fun _ => ⟨fun _ => ⟨W, h.2.1 hN, rfl⟩, fun hl => ?_⟩⟩
  · rw [getD_set_eq hls] at hl; cases hl
  · rw [getD_set_other hne, hN2] at hl; cases hl
theorem RT2.store2 (h : RT2 Q W0 s1 s2 f1 f2 val L W) (hQ : Still Q) (hq : Q s2 v (f2 W)) (hne : s1 ≠ s2) (hls : s2 < L.size) (hl1 : L.getD s1 false = true) (hN2 : L.getD s2 false = false) : RT2 Q W0 s1 s2 f1 f2 (upd val s2 v) (L.setIfInBounds s2 true) (f2 W) := by
  obtain ⟨y, hy, e⟩ := (h.2.2 hl1).1 hN2
  refine ⟨h.vals hQ hq, fun hl => ?_, fun _ => ⟨fun hl => ?_, fun _ => ⟨y, hy, by rw [e]⟩⟩⟩
  · rw [getD_set_other (fun e => hne e.symm), hl1] at hl; cases hl
  · rw [getD_set_eq hls] at hl; cases hl
theorem RT2.aft (h : RT2 Q W0 s1 s2 f1 f2 val L W) (hQ : Still Q) (hq : Q i v W) (h1 : i ≠ s1) (h2 : i ≠ s2) : RT2 Q W0 s1 s2 f1 f2 (upd val i v) (L.setIfInBounds i true) W := by
  refine ⟨h.vals hQ hq, fun hl => h.2.1 (by rw [getD_set_other h1] at hl; exact hl), fun hl => ?_⟩
  rw [getD_set_other h1] at hl
  rw [getD_set_other h2]
  exact h.2.2 hl
variable {vals : List (Option Value)} {ex : Nat → Value → World → Prop}
theorem RT2.go (h : RT2 Q W0 s1 s2 f1 f2 val L W) (hQ : Still Q) (HQ : Hid (Q = QG vals ex)) (i : Nat) {x : Value} (hx : vals[i]? = some (some x)) (hs : i ≠ s1) (hN : L.getD s1 false = false) : ∀ v W', Below W.heap.size W W' → v = x → RT2 Q W0 s1 s2 f1 f2 (upd val i v) (L.setIfInBounds i true) W' :=
  fun _ _ hb e => h.step hQ hb (QG.put HQ hx e) hs hN
theorem RT2.goT (h : RT2 Q W0 s1 s2 f1 f2 val L W) (hQ : Still Q) {i : Nat} (hn : ∀ v W, Q i v W) (hs : i ≠ s1) (hN : L.getD s1 false = false) : ∀ v W', Below W.heap.size W W' → True → RT2 Q W0 s1 s2 f1 f2 (upd val i v) (L.setIfInBounds i true) W' :=
  fun v W' hb _ => h.step hQ hb (hn v W') hs hN
theorem RT2.goA (h : RT2 Q W0 s1 s2 f1 f2 val L W) (hQ : Still Q) (HQ : Hid (Q = QG vals ex)) (i : Nat) {x : Value} (hx : vals[i]? = some (some x)) (h1 : i ≠ s1) (h2 : i ≠ s2) : ∀ v, v = x → RT2 Q W0 s1 s2 f1 f2 (upd val i v) (L.setIfInBounds i true) W :=
  fun _ e => h.aft hQ (QG.put HQ hx e) h1 h2
end
theorem block_other {W : World} {q g o : Nat} {v : Value} {x : Obj} (h : W.heap[q]? = some x) (hn : q ≠ g) : (W.setCell ⟨g, o, none⟩ v).heap[q]? = some x :=
  (Below.heap_setCell _ _ _ _ hn).trans h
end Go.Proofs.Ytnnmmojlgikdgaa

/- Reach of sling. -/
namespace Go.Proofs.Ytnnmmojlgikdgaa
open Go.RowKit

/-- The boxes of Reach. -/
structure EW (N D d gl gh : Int) (w W : World) : Prop where
  s : W.heap[w.heap.size]? = some (.cells #[.int .i64 N, .int .i64 D, .int .i64 d] 23 (0, 0))
  g : W.heap[w.heap.size + 1]? = some (.cells #[.int .i64 gl, .int .i64 gh] 27 (0, 0))
  r1 : W.heap[w.heap.size + 1 + 1]? = some (.cells #[.int .i64 0, .int .i64 0] 24 (0, 0))
  r2 : W.heap[w.heap.size + 1 + 1 + 1]? = some (.cells #[.int .i64 0, .int .i64 0] 24 (0, 0))
  b : Below w.heap.size w W
section
variable {N D d gl gh : Int} {w W W' : World}
theorem EW.next (h : EW N D d gl gh w W) (hb : Below W.heap.size W W') : EW N D d gl gh w W' :=
  ⟨(hb.block _ (lt_of_block h.s)).trans h.s, (hb.block _ (lt_of_block h.g)).trans h.g, (hb.block _ (lt_of_block h.r1)).trans h.r1, (hb.block _ (lt_of_block h.r2)).trans h.r2, h.b.trans (hb.mono h.b.size)⟩
theorem EW.alloc (h : EW N D d gl gh w W) (o : Obj) : EW N D d gl gh w (W.alloc o) := h.next ((Below.refl _ _).alloc (Nat.le_refl _) _)
theorem EW.start : EW N D d gl gh w ((((w.alloc (.cells #[.int .i64 N, .int .i64 D, .int .i64 d] 23)).alloc (.cells #[.int .i64 gl, .int .i64 gh] 27)).alloc (.cells #[.int .i64 0, .int .i64 0] 24)).alloc (.cells #[.int .i64 0, .int .i64 0] 24)) :=
  ⟨blk_old _ (blk_old _ (blk_old _ (blk_new _ _ _ rfl))), blk_old _ (blk_old _ (blk_new _ _ _ (by simp))), blk_old _ (blk_new _ _ _ (by simp)), blk_new _ _ _ (by simp), by go_grown⟩
theorem EW.put (h : EW N D d gl gh w W) (a b c e : Value) : ∀ y, (((W.setCell ⟨w.heap.size + 1 + 1, 0, none⟩ a).setCell ⟨w.heap.size + 1 + 1, 1, none⟩ b).setCell ⟨w.heap.size + 1 + 1 + 1, 0, none⟩ c).setCell ⟨w.heap.size + 1 + 1 + 1, 1, none⟩ e = y →
    y.heap[w.heap.size + 1 + 1]? = some (.cells #[a, b] 24 (0, 0)) ∧ y.heap[w.heap.size + 1 + 1 + 1]? = some (.cells #[c, e] 24 (0, 0)) ∧ Below w.heap.size w y := fun y hy => by
  refine ⟨?_, ?_, ?_⟩
  · rw [← hy]; exact block_other (block_other (block_setCell (o := 1) b (block_setCell (o := 0) a h.r1)) (by omega)) (by omega)
  · rw [← hy]; exact block_setCell (o := 1) e (block_setCell (o := 0) c (block_other (block_other h.r2 (by omega)) (by omega)))
  · rw [← hy]; exact (((h.b.setCell (p := ⟨w.heap.size + 1 + 1, 0, none⟩) (show w.heap.size ≤ w.heap.size + 1 + 1 by omega) _).setCell (p := ⟨w.heap.size + 1 + 1, 1, none⟩) (show w.heap.size ≤ w.heap.size + 1 + 1 by omega) _).setCell (p := ⟨w.heap.size + 1 + 1 + 1, 0, none⟩) (show w.heap.size ≤ w.heap.size + 1 + 1 + 1 by omega) _).setCell (p := ⟨w.heap.size + 1 + 1 + 1, 1, none⟩) (show w.heap.size ≤ w.heap.size + 1 + 1 + 1 by omega) _
end
/-- Reach. -/
def reN (N D d : Int) (b : List (Int × Int)) (gl gh nn : Int) : (Int × Int) × (Int × Int) × Int :=
  if alE N D d b gl gh nn [] = 0 then (lowN (endN false (b ++ List.replicate nn.toNat (gl, gh)) (efL N D d nn.toNat)) (powI d nn.toNat), lowN (endN true (b ++ List.replicate nn.toNat (gl, gh)) (efL N D d nn.toNat)) (powI d nn.toNat), 0) else ((0, 0), (0, 0), alE N D d b gl gh nn [])

set_option maxRecDepth 100000 in
set_option maxHeartbeats 2000000 in
theorem reachT_any (N D d gl gh nn : Int) (Ab : Option Addr) (nb cb B : Nat) (b : List (Int × Int)) (w : World) (hb : b.length = nb) (hnb : nb ≤ maxLen) (hB : B ≤ w.heap.size) (hr : RS w B Ab b) :
    Calls Try.prog 23 #[.agg #[.int .i64 N, .int .i64 D, .int .i64 d], .slice Ab nb cb, .agg #[.int .i64 gl, .int .i64 gh], .int .i64 nn] w fun e w' => e = .returned (.tuple #[.agg #[.int .i64 (reN N D d b gl gh nn).1.1, .int .i64 (reN N D d b gl gh nn).1.2], .agg #[.int .i64 (reN N D d b gl gh nn).2.1.1, .int .i64 (reN N D d b gl gh nn).2.1.2], .int .i64 (reN N D d b gl gh nn).2.2]) ∧ Below w.heap.size w w' := by
  have HA0 := Lib.hid (EW.start (N := N) (D := D) (d := d) (gl := gl) (gh := gh) (w := w))
  unfold reN
  by_cases h0 : alE N D d b gl gh nn [] = 0
  · rw [if_pos h0]
    obtain ⟨hs, hc, hv, hll, hsa⟩ := alE_zero h0
    have hnn : 0 ≤ nn ∧ nn ≤ 16 := by unfold saB at hsa; simp at hsa; exact hsa.1.2
    have hb2 : b.length = 2 := by unfold saB at hsa; simp at hsa; exact hsa.1.1.1
    have HAL := Lib.hid (fun (W : World) (hW : Below w.heap.size w W) => allow_ok N D d gl gh nn Ab none nb cb 0 0 W.heap.size b [] W hb hnb rfl (le_maxLen (by omega)) (Nat.le_refl _) (((hr.below (hW.mono hB)).more (Nat.le_trans hB hW.size))) (fun h => absurd h (by simp)) hs hc hv hll hsa)
    obtain ⟨m, rfl⟩ : ∃ m : Nat, nn = (m : Int) := ⟨nn.toNat, by omega⟩
    rw [Int.toNat_natCast]
    simp only [Int.toNat_natCast] at HAL
    have hm : m ≤ 16 := by omega
    obtain ⟨⟨d1, d2⟩, _, _⟩ := slB_get hs
    have hSB := sb_of hsa m
    have hlen : (b ++ List.replicate m (gl, gh)).length = m + 2 := by simp; omega
    have hpb := And.intro (powI_bd d1 d2 m).1 (Int.le_trans ((powI_bd d1 d2 m).2 hm) (powI_4 hm))
    have hE1 := end_bd hs hSB hlen hm false
    have hE2 := end_bd hs hSB hlen hm true
    have HEN1 := Lib.hid (fun (A : Option Addr) (c : Nat) (W : World) (h : RS W W.heap.size A (b ++ List.replicate m (gl, gh))) => end_any N D d A m (m + 2) c W.heap.size _ false W hs rfl hm hlen hSB (Nat.le_refl _) h)
    have HEN2 := Lib.hid (fun (A : Option Addr) (c : Nat) (W : World) (h : RS W W.heap.size A (b ++ List.replicate m (gl, gh))) => end_any N D d A m (m + 2) c W.heap.size _ true W hs rfl hm hlen hSB (Nat.le_refl _) h)
    generalize b ++ List.replicate m (gl, gh) = S at *
    generalize endN false S (efL N D d m) = el at *
    generalize endN true S (efL N D d m) = eh at *
    generalize powI d m = pw at *
    have HF1 := Lib.hid (fun (W : World) => fraction_any el pw W (by omega) (by omega) hpb.1 (by omega))
    have HF2 := Lib.hid (fun (W : World) => fraction_any eh pw W (by omega) (by omega) hpb.1 (by omega))
    generalize lowN el pw = la at *
    generalize lowN eh pw = lb at *
    obtain ⟨la0, la1⟩ := la
    obtain ⟨lb0, lb1⟩ := lb
    simp only at HF1 HF2 ⊢
    clear h0 hs hc hv hll hsa hnn hb2 hr hb hSB hlen hpb hE1 hE2 d1 d2
    go_enter Try.func23, Try.ntmps23
    go_upto_region 1 with (fail)
    generalize World.alloc _ _ = w1 at *
    have s0 := cellOf (o := 0) HA0.out.s rfl
    have s1 := cellOf (o := 1) HA0.out.s rfl
    have s2 := cellOf (o := 2) HA0.out.s rfl
    have g0 := cellOf (o := 0) HA0.out.g rfl
    have g1 := cellOf (o := 1) HA0.out.g rfl
    have l0 := lt_of_block HA0.out.s
    have l1 := lt_of_block HA0.out.g
    go_upto_region 4 with (go_at_call 63; refine Calls.mono (HAL.out _ HA0.out.b) ?_; rintro e w3 ⟨A, c, rfl, hcc, hq3, hb3⟩; have HA3 := Lib.hid ((HA0.out.next hb3).alloc (.cells #[.int .i64 N, .int .i64 D, .int .i64 d, .slice A (m + 2) c] 101)); have HQ3 := Lib.hid hq3; clear hb3 hq3 hcc s0 s1 s2 g0 g1 l0 l1)
    have bq := blk_new w3 (.cells #[.int .i64 N, .int .i64 D, .int .i64 d, .slice A (m + 2) c] 101) _ rfl
    have HQ4 := Lib.hid ((HQ3.out.below ((Below.refl w3.heap.size w3).alloc (Nat.le_refl _) (.cells #[.int .i64 N, .int .i64 D, .int .i64 d, .slice A (m + 2) c] 101))).more (by simp : w3.heap.size ≤ (w3.alloc (.cells #[.int .i64 N, .int .i64 D, .int .i64 d, .slice A (m + 2) c] 101)).heap.size))
    obtain ⟨q, hq⟩ : ∃ q, w3.heap.size = q := ⟨_, rfl⟩
    rw [hq] at bq ⊢
    clear hq
    generalize World.alloc w3 _ = w4 at *
    have k0 := cellOf (o := 0) bq rfl
    have k1 := cellOf (o := 1) bq rfl
    have k2 := cellOf (o := 2) bq rfl
    have k3 := cellOf (o := 3) bq rfl
    obtain ⟨Q, hQ⟩ : ∃ q9 : Nat → Value → World → Prop, q9 = QG [some (.agg #[.int .i64 N, .int .i64 D, .int .i64 d, .slice A (m + 2) c]), some (.tuple #[.int .i64 el, .int .i64 pw]), some (.int .i64 el), some (.int .i64 pw), some (.agg #[.int .i64 la0, .int .i64 la1]), some (.agg #[.int .i64 N, .int .i64 D, .int .i64 d, .slice A (m + 2) c]), some (.tuple #[.int .i64 eh, .int .i64 pw]), some (.int .i64 eh), some (.int .i64 pw), some (.agg #[.int .i64 lb0, .int .i64 lb1]), none, none, some (.int .i64 0)] (fun _ _ _ => True) := ⟨_, rfl⟩
    have hSt : Still Q := by rw [hQ]; exact QG.still
    have HQ := Lib.hid hQ
    clear hQ
    obtain ⟨fX1, hfX1⟩ : ∃ f9 : World → World, f9 = (fun y => ((y.setCell ⟨w.heap.size + 1 + 1, 0, none⟩ (.int .i64 la0)).setCell ⟨w.heap.size + 1 + 1, 1, none⟩ (.int .i64 la1))) := ⟨_, rfl⟩
    have HfX1 := Lib.hid hfX1
    clear hfX1
    obtain ⟨fX2, hfX2⟩ : ∃ f9 : World → World, f9 = (fun y => ((y.setCell ⟨w.heap.size + 1 + 1 + 1, 0, none⟩ (.int .i64 lb0)).setCell ⟨w.heap.size + 1 + 1 + 1, 1, none⟩ (.int .i64 lb1))) := ⟨_, rfl⟩
    have HfX2 := Lib.hid hfX2
    clear hfX2
    refine wpIn_wide.1 (region_inv2 (n := 9) (by kernel_rfl) (RT2 Q w4 10 11 fX1 fX2) (by kernel_rfl) rfl (RT2.start _ _ _ _ _ _ _) ?hstep ?hend)
    case hstep =>
      intro i' o ho val L b' x hF hR hpre hl
      match i', ho with
      | 0, ho =>
        simp at ho; subst ho; refine step_plain rfl ?_; have hN := hF.later hl 10 rfl (e := ⟨0, .phase⟩) (by simp) rfl rfl
        have hM0 := hR.2.1 hN
        have e11 := hF.was 11 (by kernel_rfl) rfl; have hgoal := RT2.go hR hSt HQ 0 rfl (by decide) hN; have q0 := cell_keep hM0 k0; have q1 := cell_keep hM0 k1; have q2 := cell_keep hM0 k2; have q3 := cell_keep hM0 k3; clear hF hpre hl hR hN hM0; go_simp; exact ⟨_, rfl, hgoal _ _ (Below.refl _ _) rfl⟩
      | 1, ho =>
        simp at ho; subst ho; refine step_plain rfl ?_; have hN := hF.later hl 10 rfl (e := ⟨1, .phase⟩) (by simp) rfl rfl
        have hM0 := hR.2.1 hN
        have e25 := hF.gv hR.1 HQ 0 rfl (hpre ⟨0, .data⟩ (by simp) rfl) rfl; have hgoal := RT2.go hR hSt HQ 1 rfl (by decide) hN
        have hM := Lib.hid hM0
        clear hF hpre hl hR hN hM0; go_simp
        refine ⟨trivial, ?_⟩
        refine CallsIn.mono (callsIn_wide.2 (HEN1.out A c _ ((HQ4.out.below hM.out).more hM.out.size))) ?_
        rintro e w9 ⟨rfl, hb9⟩
        exact ⟨_, rfl, hgoal _ _ hb9 rfl⟩
      | 2, ho =>
        simp at ho; subst ho; refine step_plain rfl ?_; have hN := hF.later hl 10 rfl (e := ⟨2, .phase⟩) (by simp) rfl rfl
        have hM0 := hR.2.1 hN
        have e26 := hF.gv hR.1 HQ 1 rfl (hpre ⟨1, .data⟩ (by simp) rfl) rfl; have hgoal := RT2.go hR hSt HQ 2 rfl (by decide) hN; clear hF hpre hl hR hN hM0; go_simp; exact ⟨_, rfl, hgoal _ _ (Below.refl _ _) rfl⟩
      | 3, ho =>
        simp at ho; subst ho; refine step_plain rfl ?_; have hN := hF.later hl 10 rfl (e := ⟨3, .phase⟩) (by simp) rfl rfl
        have hM0 := hR.2.1 hN
        have e26 := hF.gv hR.1 HQ 1 rfl (hpre ⟨1, .data⟩ (by simp) rfl) rfl; have hgoal := RT2.go hR hSt HQ 3 rfl (by decide) hN; clear hF hpre hl hR hN hM0; go_simp; exact ⟨_, rfl, hgoal _ _ (Below.refl _ _) rfl⟩
      | 4, ho =>
        simp at ho; subst ho; refine step_plain rfl ?_; have hN := hF.later hl 10 rfl (e := ⟨4, .phase⟩) (by simp) rfl rfl
        have hM0 := hR.2.1 hN
        have e27 := hF.gv hR.1 HQ 2 rfl (hpre ⟨2, .data⟩ (by simp) rfl) rfl; have e28 := hF.gv hR.1 HQ 3 rfl (hpre ⟨3, .data⟩ (by simp) rfl) rfl; have hgoal := RT2.go hR hSt HQ 4 rfl (by decide) hN
        have hM := Lib.hid hM0
        clear hF hpre hl hR hN hM0; go_simp
        refine ⟨trivial, ?_⟩
        refine CallsIn.mono (callsIn_wide.2 (HF1.out _)) ?_
        rintro e w9 ⟨rfl, hb9⟩
        exact ⟨_, rfl, hgoal _ _ hb9 rfl⟩
      | 5, ho =>
        simp at ho; subst ho; refine step_plain rfl ?_
        have hl6 := hF.later hl 6 rfl (e := ⟨5, .data⟩) (by simp) rfl rfl
        have hl7 := hF.back hl6 7 rfl (by decide) (e := ⟨6, .data⟩) (by simp) rfl rfl
        clear hl6
        have hl9 := hF.back hl7 9 rfl (by decide) (e := ⟨7, .data⟩) (by simp) rfl rfl
        clear hl7
        have hN := hF.back hl9 10 rfl (by decide) (e := ⟨9, .chain⟩) (by simp) rfl rfl
        clear hl9
        have hM0 := hR.2.1 hN
        have e11 := hF.was 11 (by kernel_rfl) rfl; have hgoal := RT2.go hR hSt HQ 5 rfl (by decide) hN; have q0 := cell_keep hM0 k0; have q1 := cell_keep hM0 k1; have q2 := cell_keep hM0 k2; have q3 := cell_keep hM0 k3; clear hF hpre hl hR hN hM0; go_simp; exact ⟨_, rfl, hgoal _ _ (Below.refl _ _) rfl⟩
      | 6, ho =>
        simp at ho; subst ho; refine step_plain rfl ?_
        have hl7 := hF.later hl 7 rfl (e := ⟨6, .data⟩) (by simp) rfl rfl
        have hl9 := hF.back hl7 9 rfl (by decide) (e := ⟨7, .data⟩) (by simp) rfl rfl
        clear hl7
        have hN := hF.back hl9 10 rfl (by decide) (e := ⟨9, .chain⟩) (by simp) rfl rfl
        clear hl9
        have hM0 := hR.2.1 hN
        have e30 := hF.gv hR.1 HQ 5 rfl (hpre ⟨5, .data⟩ (by simp) rfl) rfl; have hgoal := RT2.go hR hSt HQ 6 rfl (by decide) hN
        have hM := Lib.hid hM0
        clear hF hpre hl hR hN hM0; go_simp
        refine ⟨trivial, ?_⟩
        refine CallsIn.mono (callsIn_wide.2 (HEN2.out A c _ ((HQ4.out.below hM.out).more hM.out.size))) ?_
        rintro e w9 ⟨rfl, hb9⟩
        exact ⟨_, rfl, hgoal _ _ hb9 rfl⟩
      | 7, ho =>
        simp at ho; subst ho; refine step_plain rfl ?_
        have hl9 := hF.later hl 9 rfl (e := ⟨7, .data⟩) (by simp) rfl rfl
        have hN := hF.back hl9 10 rfl (by decide) (e := ⟨9, .chain⟩) (by simp) rfl rfl
        clear hl9
        have hM0 := hR.2.1 hN
        have e31 := hF.gv hR.1 HQ 6 rfl (hpre ⟨6, .data⟩ (by simp) rfl) rfl; have hgoal := RT2.go hR hSt HQ 7 rfl (by decide) hN; clear hF hpre hl hR hN hM0; go_simp; exact ⟨_, rfl, hgoal _ _ (Below.refl _ _) rfl⟩
      | 8, ho =>
        simp at ho; subst ho; refine step_plain rfl ?_
        have hl9 := hF.later hl 9 rfl (e := ⟨8, .data⟩) (by simp) rfl rfl
        have hN := hF.back hl9 10 rfl (by decide) (e := ⟨9, .chain⟩) (by simp) rfl rfl
        clear hl9
        have hM0 := hR.2.1 hN
        have e31 := hF.gv hR.1 HQ 6 rfl (hpre ⟨6, .data⟩ (by simp) rfl) rfl; have hgoal := RT2.go hR hSt HQ 8 rfl (by decide) hN; clear hF hpre hl hR hN hM0; go_simp; exact ⟨_, rfl, hgoal _ _ (Below.refl _ _) rfl⟩
      | 9, ho =>
        simp at ho; subst ho; refine step_plain rfl ?_; have hN := hF.later hl 10 rfl (e := ⟨9, .chain⟩) (by simp) rfl rfl
        have hM0 := hR.2.1 hN
        have e32 := hF.gv hR.1 HQ 7 rfl (hpre ⟨7, .data⟩ (by simp) rfl) rfl; have e33 := hF.gv hR.1 HQ 8 rfl (hpre ⟨8, .data⟩ (by simp) rfl) rfl; have hgoal := RT2.go hR hSt HQ 9 rfl (by decide) hN
        have hM := Lib.hid hM0
        clear hF hpre hl hR hN hM0; go_simp
        refine ⟨trivial, ?_⟩
        refine CallsIn.mono (callsIn_wide.2 (HF2.out _)) ?_
        rintro e w9 ⟨rfl, hb9⟩
        exact ⟨_, rfl, hgoal _ _ hb9 rfl⟩
      | 10, ho =>
        simp at ho; subst ho; refine step_plain rfl ?_; have e8 := hF.was 8 (by kernel_rfl) rfl; have e29 := hF.gv hR.1 HQ 4 rfl (hpre ⟨4, .data⟩ (by simp) rfl) rfl; have hN := hF.none2 hl (by decide)
        have hls : 10 < L.size := by rw [hF.lsize]; decide
        have hN2 := hF.later hl 11 rfl (e := ⟨10, .chain⟩) (by simp) rfl rfl
        have qb := ((hR.2.1 hN).block (w.heap.size + 1 + 1) (lt_of_block HA3.out.r1)).trans HA3.out.r1
        have g0 := cellOf (o := 0) qb rfl; have f0 := freeOf (o := 0) qb; have g1 := cellOf (o := 1) qb rfl; have f1 := freeOf (o := 1) qb; have hgoal := RT2.store1 (v := undef) hR hSt (QG.none HQ 10 rfl (fun _ _ => trivial) _ _) (by decide) hls hN hN2
        have hq := lt_of_block qb
        have HG := Lib.hid hgoal
        clear hF hpre hl hR hls hN hN2 qb hgoal; go_simp
        exact ⟨undef, by have h9 := HG.out; rw [HfX1.out] at h9 ⊢; exact h9⟩
      | 11, ho =>
        simp at ho; subst ho; refine step_plain rfl ?_; have e9 := hF.was 9 (by kernel_rfl) rfl; have e34 := hF.gv hR.1 HQ 9 rfl (hpre ⟨9, .data⟩ (by simp) rfl) rfl
        have hN2 := hF.none2 hl (by decide)
        have hls : 11 < L.size := by rw [hF.lsize]; decide
        have hl1 := hpre ⟨10, .chain⟩ (by simp) rfl
        obtain ⟨y, hy, ey⟩ := (hR.2.2 hl1).1 hN2
        rw [HfX1.out] at ey; dsimp only at ey
        have qb := (block_other (q := w.heap.size + 1 + 1 + 1) (g := w.heap.size + 1 + 1) (o := 1) (v := (.int .i64 la1)) (block_other (q := w.heap.size + 1 + 1 + 1) (g := w.heap.size + 1 + 1) (o := 0) (v := (.int .i64 la0)) ((hy.block (w.heap.size + 1 + 1 + 1) (lt_of_block HA3.out.r2)).trans HA3.out.r2) (by omega)) (by omega))
        rw [← ey] at qb
        clear hy ey
        have g0 := cellOf (o := 0) qb rfl; have f0 := freeOf (o := 0) qb; have g1 := cellOf (o := 1) qb rfl; have f1 := freeOf (o := 1) qb; have hgoal := RT2.store2 (v := undef) hR hSt (QG.none HQ 11 rfl (fun _ _ => trivial) _ _) (by decide) hls hl1 hN2
        have hq := lt_of_block qb
        have HG := Lib.hid hgoal
        clear hF hpre hl hR hls hl1 hN2 qb hgoal; go_simp
        exact ⟨undef, by have h9 := HG.out; rw [HfX2.out] at h9 ⊢; exact h9⟩
      | 12, ho =>
        simp at ho; subst ho; refine step_plain rfl ?_; have hgoal := RT2.goA hR hSt HQ 12 rfl (by decide) (by decide); clear hF hpre hl hR; go_simp; exact ⟨_, rfl, hgoal _ rfl⟩
      | i + 13, ho => simp at ho
    case hend =>
      intro val L b' x hF hall hR
      have e := hF.all (by kernel_rfl) hall
      obtain ⟨y, hy, ey⟩ := (hR.2.2 (hall 10 (by decide))).2 (hall 11 (by decide))
      rw [HfX1.out, HfX2.out] at ey; dsimp only at ey
      have k12 := QG.val HQ rfl (hR.1 12 (hall 12 (by decide)))
      have bk1 := (block_other (q := w.heap.size + 1 + 1) (g := w.heap.size + 1 + 1 + 1) (o := 1) (v := (.int .i64 lb1)) (block_other (q := w.heap.size + 1 + 1) (g := w.heap.size + 1 + 1 + 1) (o := 0) (v := (.int .i64 lb0)) (block_setCell (o := 1) (.int .i64 la1) (block_setCell (o := 0) (.int .i64 la0) ((hy.block (w.heap.size + 1 + 1) (lt_of_block HA3.out.r1)).trans HA3.out.r1))) (by omega)) (by omega))
      have bk2 := (block_setCell (o := 1) (.int .i64 lb1) (block_setCell (o := 0) (.int .i64 lb0) (block_other (q := w.heap.size + 1 + 1 + 1) (g := w.heap.size + 1 + 1) (o := 1) (v := (.int .i64 la1)) (block_other (q := w.heap.size + 1 + 1 + 1) (g := w.heap.size + 1 + 1) (o := 0) (v := (.int .i64 la0)) ((hy.block (w.heap.size + 1 + 1 + 1) (lt_of_block HA3.out.r2)).trans HA3.out.r2) (by omega)) (by omega))))
      rw [← ey] at bk1 bk2
      have hB := Lib.hid (show ∀ (B9 : Nat) (W9 : World), Below B9 W9 w4 → B9 ≤ w4.heap.size → B9 ≤ w.heap.size + 1 + 1 → B9 ≤ w.heap.size + 1 + 1 + 1 → Below B9 W9 x from fun B9 W9 h9 hB9 h1 h2 => by rw [ey]; exact (((((h9.trans (hy.mono hB9)).setCell (p := ⟨w.heap.size + 1 + 1, 0, none⟩) h1 (.int .i64 la0)).setCell (p := ⟨w.heap.size + 1 + 1, 1, none⟩) h1 (.int .i64 la1)).setCell (p := ⟨w.heap.size + 1 + 1 + 1, 0, none⟩) h2 (.int .i64 lb0)).setCell (p := ⟨w.heap.size + 1 + 1 + 1, 1, none⟩) h2 (.int .i64 lb1)))
      clear hF hall hR hSt HQ HfX1 HfX2 ey hy
      subst e
      simp [final, dstOf, List.range, List.range.loop]
      rw [k12]
      have HBF := Lib.hid (hB.out _ _ HA3.out.b HA3.out.b.size (by omega) (by omega))
      have d0 := cellOf (o := 0) bk1 rfl
      have d1 := cellOf (o := 1) bk1 rfl
      have d2 := cellOf (o := 0) bk2 rfl
      have d3 := cellOf (o := 1) bk2 rfl
      clear bk1 bk2 hB k0 k1 k2 k3 bq
      go_wp2
      exact bodyPost_ret (v := .tuple #[.agg #[.int .i64 la0, .int .i64 la1], .agg #[.int .i64 lb0, .int .i64 lb1], .int .i64 0]) (by simp [results, Try.results23, go_sem, d0, d1, d2, d3]) rfl ⟨rfl, HBF.out⟩
  · rw [if_neg h0]
    have HAL := Lib.hid (fun (W : World) (hW : Below w.heap.size w W) => allow_no N D d gl gh nn Ab none nb cb 0 0 W.heap.size b [] W hb hnb rfl (le_maxLen (by omega)) (Nat.le_refl _) (((hr.below (hW.mono hB)).more (Nat.le_trans hB hW.size))) (fun h => absurd h (by simp)) _ rfl h0)
    have h0' : (alE N D d b gl gh nn [] != 0) = true := by rw [bne_iff_ne]; exact h0
    generalize alE N D d b gl gh nn [] = E at *
    clear h0 hr hb
    go_enter Try.func23, Try.ntmps23
    go_upto_region 1 with (fail)
    generalize World.alloc _ _ = w1 at *
    have s0 := cellOf (o := 0) HA0.out.s rfl
    have s1 := cellOf (o := 1) HA0.out.s rfl
    have s2 := cellOf (o := 2) HA0.out.s rfl
    have g0 := cellOf (o := 0) HA0.out.g rfl
    have g1 := cellOf (o := 1) HA0.out.g rfl
    have l0 := lt_of_block HA0.out.s
    have l1 := lt_of_block HA0.out.g
    go_upto_region 3 with (go_at_call 63; refine Calls.mono (HAL.out _ HA0.out.b) ?_; rintro e w3 ⟨rfl, hb3⟩; have HA3 := Lib.hid ((HA0.out.next hb3).alloc (.cells #[.int .i64 0, .int .i64 0, .int .i64 0, .slice none 0 0] 101)); clear hb3 s0 s1 s2 g0 g1 l0 l1)
    generalize World.alloc w3 _ = w4 at *
    have k0 := cellOf (o := 0) HA3.out.r1 rfl
    have k1 := cellOf (o := 1) HA3.out.r1 rfl
    have k2 := cellOf (o := 0) HA3.out.r2 rfl
    have k3 := cellOf (o := 1) HA3.out.r2 rfl
    have f0 := freeOf (o := 0) HA3.out.r1
    have f1 := freeOf (o := 1) HA3.out.r1
    have f2 := freeOf (o := 0) HA3.out.r2
    have f3 := freeOf (o := 1) HA3.out.r2
    have l0 := lt_of_block HA3.out.r1
    have l1 := lt_of_block HA3.out.r2
    go_wp2
    have hput := HA3.out.put (.int .i64 0) (.int .i64 0) (.int .i64 0) (.int .i64 0) _ rfl
    clear k0 k1 k2 k3 f0 f1 f2 f3 l0 l1
    generalize (((World.setCell w4 _ _).setCell _ _).setCell _ _).setCell _ _ = w9 at *
    obtain ⟨bk1, bk2, hb9⟩ := hput
    have d0 := cellOf (o := 0) bk1 rfl
    have d1 := cellOf (o := 1) bk1 rfl
    have d2 := cellOf (o := 0) bk2 rfl
    have d3 := cellOf (o := 1) bk2 rfl
    exact bodyPost_ret (v := .tuple #[.agg #[.int .i64 0, .int .i64 0], .agg #[.int .i64 0, .int .i64 0], .int .i64 E]) (by simp [results, Try.results23, go_sem, d0, d1, d2, d3]) rfl ⟨rfl, hb9⟩
end Go.Proofs.Ytnnmmojlgikdgaa

/- Reach of the reference. -/
namespace Go.Proofs.Ytnnmmojlgikdgaa
open Go.RowKit

set_option maxRecDepth 100000 in
set_option maxHeartbeats 2000000 in
theorem rreachT_any (N D d gl gh nn : Int) (Ab : Option Addr) (nb cb B : Nat) (b : List (Int × Int)) (w : World) (hb : b.length = nb) (hnb : nb ≤ maxLen) (hB : B ≤ w.heap.size) (hr : RS w B Ab b) :
    Calls Try.prog 24 #[.agg #[.int .i64 N, .int .i64 D, .int .i64 d], .slice Ab nb cb, .agg #[.int .i64 gl, .int .i64 gh], .int .i64 nn] w fun e w' => e = .returned (.tuple #[.agg #[.int .i64 (reN N D d b gl gh nn).1.1, .int .i64 (reN N D d b gl gh nn).1.2], .agg #[.int .i64 (reN N D d b gl gh nn).2.1.1, .int .i64 (reN N D d b gl gh nn).2.1.2], .int .i64 (reN N D d b gl gh nn).2.2]) ∧ Below w.heap.size w w' := by
  have HA0 := Lib.hid (EW.start (N := N) (D := D) (d := d) (gl := gl) (gh := gh) (w := w))
  have HCS := Lib.hid (fun (W : World) (hW : Below w.heap.size w W) => checkSets_any N D d gl gh nn Ab nb cb w.heap.size b W hb hnb hW.size ((hr.more hB).below hW))
  unfold reN
  by_cases h0 : alE N D d b gl gh nn [] = 0
  · rw [if_pos h0]
    rw [h0] at HCS
    obtain ⟨hs, hc, hv, hll, hsa⟩ := alE_zero h0
    have hnn : 0 ≤ nn ∧ nn ≤ 16 := by unfold saB at hsa; simp at hsa; exact hsa.1.2
    have hb2 : b.length = 2 := by unfold saB at hsa; simp at hsa; exact hsa.1.1.1
    obtain ⟨m, rfl⟩ : ∃ m : Nat, nn = (m : Int) := ⟨nn.toNat, by omega⟩
    rw [Int.toNat_natCast]
    have hm : m ≤ 16 := by omega
    obtain ⟨⟨d1, d2⟩, _, _⟩ := slB_get hs
    have hSB := sb_of hsa m
    have hlen : (b ++ List.replicate m (gl, gh)).length = m + 2 := by simp; omega
    have hpb := And.intro (powI_bd d1 d2 m).1 (Int.le_trans ((powI_bd d1 d2 m).2 hm) (powI_4 hm))
    have hE1 := end_bd hs hSB hlen hm false
    have hE2 := end_bd hs hSB hlen hm true
    have HEN := fun (high : Bool) (W : World) (hW : Below w.heap.size w W) => rends7_any N D d gl gh Ab nb cb m w.heap.size b high W hs hm hb (hb.symm.trans hb2) hSB hW.size ((hr.more hB).below hW)
    have HEN1 := Lib.hid (fun (W : World) (hW : Below w.heap.size w W) => HEN false W hW)
    have HEN2 := Lib.hid (fun (W : World) (hW : Below w.heap.size w W) => HEN true W hW)
    have HPW := Lib.hid (fun (W : World) => power_any d m W d1 d2 hm)
    clear HEN
    generalize b ++ List.replicate m (gl, gh) = S at *
    generalize endN false S (efL N D d m) = el at *
    generalize endN true S (efL N D d m) = eh at *
    generalize powI d m = pw at *
    have HF1 := Lib.hid (fun (W : World) => rlowest7_any el pw W (by omega) (by omega) hpb.1 (by omega))
    have HF2 := Lib.hid (fun (W : World) => rlowest7_any eh pw W (by omega) (by omega) hpb.1 (by omega))
    generalize lowN el pw = la at *
    generalize lowN eh pw = lb at *
    obtain ⟨la0, la1⟩ := la
    obtain ⟨lb0, lb1⟩ := lb
    simp only at HF1 HF2 ⊢
    clear h0 hs hc hv hll hsa hnn hb2 hr hb hSB hlen hpb hE1 hE2 d1 d2
    go_enter Try.func24, Try.ntmps24
    go_upto_region 1 with (fail)
    generalize World.alloc _ _ = w1 at *
    have s0 := cellOf (o := 0) HA0.out.s rfl
    have s1 := cellOf (o := 1) HA0.out.s rfl
    have s2 := cellOf (o := 2) HA0.out.s rfl
    have g0 := cellOf (o := 0) HA0.out.g rfl
    have g1 := cellOf (o := 1) HA0.out.g rfl
    have l0 := lt_of_block HA0.out.s
    have l1 := lt_of_block HA0.out.g
    go_upto_region 7 with (first
      | (go_at_call 40; refine Calls.mono (HCS.out _ HA0.out.b) ?_; rintro e w2 ⟨rfl, hb2⟩; have HA2 := Lib.hid (HA0.out.next hb2); clear hb2 s0 s1 s2 g0 g1 l0 l1; have s0 := cellOf (o := 0) HA2.out.s rfl; have s1 := cellOf (o := 1) HA2.out.s rfl; have s2 := cellOf (o := 2) HA2.out.s rfl; have g0 := cellOf (o := 0) HA2.out.g rfl; have g1 := cellOf (o := 1) HA2.out.g rfl; have l0 := lt_of_block HA2.out.s; have l1 := lt_of_block HA2.out.g)
      | (go_at_call_of 66 (Value.bool false); refine Calls.mono (HEN1.out _ HA2.out.b) ?_; rintro e w3 ⟨u3, rfl, hq3, hb3⟩; have HA3 := Lib.hid (HA2.out.next hb3); clear hq3 hb3 s0 s1 s2 g0 g1 l0 l1; have s0 := cellOf (o := 0) HA3.out.s rfl; have s1 := cellOf (o := 1) HA3.out.s rfl; have s2 := cellOf (o := 2) HA3.out.s rfl; have g0 := cellOf (o := 0) HA3.out.g rfl; have g1 := cellOf (o := 1) HA3.out.g rfl; have l0 := lt_of_block HA3.out.s; have l1 := lt_of_block HA3.out.g)
      | (go_at_call_of 66 (Value.bool true); refine Calls.mono (HEN2.out _ HA3.out.b) ?_; rintro e w4 ⟨u4, rfl, hq4, hb4⟩; have HA4 := Lib.hid (HA3.out.next hb4); clear hq4 hb4 s0 s1 s2 g0 g1 l0 l1; have s0 := cellOf (o := 0) HA4.out.s rfl; have s1 := cellOf (o := 1) HA4.out.s rfl; have s2 := cellOf (o := 2) HA4.out.s rfl; have g0 := cellOf (o := 0) HA4.out.g rfl; have g1 := cellOf (o := 1) HA4.out.g rfl; have l0 := lt_of_block HA4.out.s; have l1 := lt_of_block HA4.out.g)
      | (go_at_call 58; refine Calls.mono (HPW.out _) ?_; rintro e w5 ⟨rfl, rfl⟩))
    clear s0 s1 s2 g0 g1 l0 l1
    go_wp2_with (first
      | (go_at_call_of 57 (Value.int .i64 el); refine Calls.mono (HF1.out _) ?_; rintro e w6 ⟨rfl, hb6⟩; have HA6 := Lib.hid (HA4.out.next hb6); clear hb6)
      | (go_at_call 57; refine Calls.mono (HF2.out _) ?_; rintro e w7 ⟨rfl, hb7⟩; have HA7 := Lib.hid (HA6.out.next hb7); clear hb7; have k0 := cellOf (o := 0) HA7.out.r1 rfl; have k1 := cellOf (o := 1) HA7.out.r1 rfl; have k2 := cellOf (o := 0) HA7.out.r2 rfl; have k3 := cellOf (o := 1) HA7.out.r2 rfl; have f0 := freeOf (o := 0) HA7.out.r1; have f1 := freeOf (o := 1) HA7.out.r1; have f2 := freeOf (o := 0) HA7.out.r2; have f3 := freeOf (o := 1) HA7.out.r2; have m0 := lt_of_block HA7.out.r1; have m1 := lt_of_block HA7.out.r2))
    have hput := HA7.out.put (.int .i64 la0) (.int .i64 la1) (.int .i64 lb0) (.int .i64 lb1) _ rfl
    clear k0 k1 k2 k3 f0 f1 f2 f3 m0 m1
    generalize (((World.setCell w7 _ _).setCell _ _).setCell _ _).setCell _ _ = w9 at *
    obtain ⟨bk1, bk2, hb9⟩ := hput
    have d0 := cellOf (o := 0) bk1 rfl
    have d1 := cellOf (o := 1) bk1 rfl
    have d2 := cellOf (o := 0) bk2 rfl
    have d3 := cellOf (o := 1) bk2 rfl
    exact bodyPost_ret (v := .tuple #[.agg #[.int .i64 la0, .int .i64 la1], .agg #[.int .i64 lb0, .int .i64 lb1], .int .i64 0]) (by simp [results, Try.results24, go_sem, d0, d1, d2, d3]) rfl ⟨rfl, hb9⟩
  · rw [if_neg h0]
    have h0' : (alE N D d b gl gh nn [] != 0) = true := by rw [bne_iff_ne]; exact h0
    generalize alE N D d b gl gh nn [] = E at *
    clear h0 hr hb
    go_enter Try.func24, Try.ntmps24
    go_upto_region 1 with (fail)
    generalize World.alloc _ _ = w1 at *
    have s0 := cellOf (o := 0) HA0.out.s rfl
    have s1 := cellOf (o := 1) HA0.out.s rfl
    have s2 := cellOf (o := 2) HA0.out.s rfl
    have g0 := cellOf (o := 0) HA0.out.g rfl
    have g1 := cellOf (o := 1) HA0.out.g rfl
    have l0 := lt_of_block HA0.out.s
    have l1 := lt_of_block HA0.out.g
    go_upto_region 3 with (go_at_call 40; refine Calls.mono (HCS.out _ HA0.out.b) ?_; rintro e w4 ⟨rfl, hb2⟩; have HA3 := Lib.hid (HA0.out.next hb2); clear hb2 s0 s1 s2 g0 g1 l0 l1)
    have k0 := cellOf (o := 0) HA3.out.r1 rfl
    have k1 := cellOf (o := 1) HA3.out.r1 rfl
    have k2 := cellOf (o := 0) HA3.out.r2 rfl
    have k3 := cellOf (o := 1) HA3.out.r2 rfl
    have f0 := freeOf (o := 0) HA3.out.r1
    have f1 := freeOf (o := 1) HA3.out.r1
    have f2 := freeOf (o := 0) HA3.out.r2
    have f3 := freeOf (o := 1) HA3.out.r2
    have m0 := lt_of_block HA3.out.r1
    have m1 := lt_of_block HA3.out.r2
    go_wp2
    have hput := HA3.out.put (.int .i64 0) (.int .i64 0) (.int .i64 0) (.int .i64 0) _ rfl
    clear k0 k1 k2 k3 f0 f1 f2 f3 m0 m1
    generalize (((World.setCell w4 _ _).setCell _ _).setCell _ _).setCell _ _ = w9 at *
    obtain ⟨bk1, bk2, hb9⟩ := hput
    have d0 := cellOf (o := 0) bk1 rfl
    have d1 := cellOf (o := 1) bk1 rfl
    have d2 := cellOf (o := 0) bk2 rfl
    have d3 := cellOf (o := 1) bk2 rfl
    exact bodyPost_ret (v := .tuple #[.agg #[.int .i64 0, .int .i64 0], .agg #[.int .i64 0, .int .i64 0], .int .i64 E]) (by simp [results, Try.results24, go_sem, d0, d1, d2, d3]) rfl ⟨rfl, hb9⟩
end Go.Proofs.Ytnnmmojlgikdgaa

/- A drawn region with one store into a box that was there; its reads come before; what touches no memory comes whenever. -/
namespace Go.Proofs.Ytnnmmojlgikdgaa
open Go.RowKit

def RT1 (Q : Nat → Value → World → Prop) (W0 : World) (s : Nat) (f : World → World) (val : Nat → Value) (L : Array Bool) (W : World) : Prop :=
  (∀ j, L.getD j false = true → Q j (val j) W) ∧ (L.getD s false = false → Below W0.heap.size W0 W) ∧ (L.getD s false = true → ∃ y, Below W0.heap.size W0 y ∧ W = f y)
section
variable {Q : Nat → Value → World → Prop} {W0 W W' : World} {s i : Nat} {f : World → World} {v : Value} {val : Nat → Value} {L : Array Bool}
theorem RT1.start (Q : Nat → Value → World → Prop) (W0 : World) (s : Nat) (f : World → World) (n : Nat) : RT1 Q W0 s f (fun _ => undef) (Array.replicate n false) W0.drew :=
  ⟨fun j h => (by rw [getD_replicate_no] at h; cases h), fun _ => (Below.refl _ _).drew, fun h => (by rw [getD_replicate_no] at h; cases h)⟩
theorem RT1.vals (h : RT1 Q W0 s f val L W) (hQ : Still Q) (hq : Q i v W') : ∀ j, (L.setIfInBounds i true).getD j false = true → Q j (upd val i v j) W' := fun j hj => by
  by_cases e : j = i
  · subst e; rw [upd_same]; exact hq
  · rw [upd_other e]
    rw [getD_set_other (fun h => e h.symm)] at hj
    exact hQ _ _ _ _ (h.1 j hj)
theorem RT1.step (h : RT1 Q W0 s f val L W) (hQ : Still Q) (hb : Below W.heap.size W W') (hq : Q i v W') (hs : i ≠ s) (hN : L.getD s false = false) : RT1 Q W0 s f (upd val i v) (L.setIfInBounds i true) W' := by
  refine ⟨h.vals hQ hq, fun _ => (h.2.1 hN).trans (hb.mono (h.2.1 hN).size), fun hl => ?_⟩
  rw [getD_set_other hs, hN] at hl; cases hl
theorem RT1.store (h : RT1 Q W0 s f val L W) (hQ : Still Q) (hq : Q s v (f W)) (hls : s < L.size) (hN : L.getD s false = false) : RT1 Q W0 s f (upd val s v) (L.setIfInBounds s true) (f W) := by
  refine ⟨h.vals hQ hq, fun hl => ?_, fun _ => ⟨W, h.2.1 hN, rfl⟩⟩
  rw [getD_set_eq hls] at hl; cases hl
theorem RT1.aft (h : RT1 Q W0 s f val L W) (hQ : Still Q) (hq : Q i v W) (h1 : i ≠ s) : RT1 Q W0 s f (upd val i v) (L.setIfInBounds i true) W := by
  refine ⟨h.vals hQ hq, fun hl => h.2.1 (by rw [getD_set_other h1] at hl; exact hl), fun hl => ?_⟩
  rw [getD_set_other h1] at hl
  exact h.2.2 hl
variable {vals : List (Option Value)} {ex : Nat → Value → World → Prop}
theorem RT1.go (h : RT1 Q W0 s f val L W) (hQ : Still Q) (HQ : Hid (Q = QG vals ex)) (i : Nat) {x : Value} (hx : vals[i]? = some (some x)) (hs : i ≠ s) (hN : L.getD s false = false) : ∀ v W', Below W.heap.size W W' → v = x → RT1 Q W0 s f (upd val i v) (L.setIfInBounds i true) W' :=
  fun _ _ hb e => h.step hQ hb (QG.put HQ hx e) hs hN
theorem RT1.goA (h : RT1 Q W0 s f val L W) (hQ : Still Q) (HQ : Hid (Q = QG vals ex)) (i : Nat) {x : Value} (hx : vals[i]? = some (some x)) (h1 : i ≠ s) : ∀ v, v = x → RT1 Q W0 s f (upd val i v) (L.setIfInBounds i true) W :=
  fun _ e => h.aft hQ (QG.put HQ hx e) h1
end
end Go.Proofs.Ytnnmmojlgikdgaa

/- Witness of sling. -/
namespace Go.Proofs.Ytnnmmojlgikdgaa
open Go.RowKit

/-- The boxes of Witness. -/
structure FW (N D d gl gh : Int) (w W : World) : Prop where
  s : W.heap[w.heap.size]? = some (.cells #[.int .i64 N, .int .i64 D, .int .i64 d] 23 (0, 0))
  g : W.heap[w.heap.size + 1]? = some (.cells #[.int .i64 gl, .int .i64 gh] 27 (0, 0))
  r1 : W.heap[w.heap.size + 1 + 1]? = some (.cells #[.int .i64 0, .int .i64 0] 24 (0, 0))
  b : Below w.heap.size w W
section
variable {N D d gl gh : Int} {w W W' : World}
theorem FW.next (h : FW N D d gl gh w W) (hb : Below W.heap.size W W') : FW N D d gl gh w W' :=
  ⟨(hb.block _ (lt_of_block h.s)).trans h.s, (hb.block _ (lt_of_block h.g)).trans h.g, (hb.block _ (lt_of_block h.r1)).trans h.r1, h.b.trans (hb.mono h.b.size)⟩
theorem FW.alloc (h : FW N D d gl gh w W) (o : Obj) : FW N D d gl gh w (W.alloc o) := h.next ((Below.refl _ _).alloc (Nat.le_refl _) _)
theorem FW.start : FW N D d gl gh w (((w.alloc (.cells #[.int .i64 N, .int .i64 D, .int .i64 d] 23)).alloc (.cells #[.int .i64 gl, .int .i64 gh] 27)).alloc (.cells #[.int .i64 0, .int .i64 0] 24)) :=
  ⟨blk_old _ (blk_old _ (blk_new _ _ _ rfl)), blk_old _ (blk_new _ _ _ (by simp)), blk_new _ _ _ (by simp), by go_grown⟩
theorem FW.put (h : FW N D d gl gh w W) (a b : Value) : ∀ y, (W.setCell ⟨w.heap.size + 1 + 1, 0, none⟩ a).setCell ⟨w.heap.size + 1 + 1, 1, none⟩ b = y →
    y.heap[w.heap.size + 1 + 1]? = some (.cells #[a, b] 24 (0, 0)) ∧ Below w.heap.size w y := fun y hy => by
  refine ⟨?_, ?_⟩
  · rw [← hy]; exact block_setCell (o := 1) b (block_setCell (o := 0) a h.r1)
  · rw [← hy]; exact (h.b.setCell (p := ⟨w.heap.size + 1 + 1, 0, none⟩) (show w.heap.size ≤ w.heap.size + 1 + 1 by omega) _).setCell (p := ⟨w.heap.size + 1 + 1, 1, none⟩) (show w.heap.size ≤ w.heap.size + 1 + 1 by omega) _
end
/-- The rest of a row. -/
theorem RI.drop2 {W W' : World} {B B' : Nat} {bb off : Nat} {x0 x1 : Int} {l : List Int} (h : RI W B (some ⟨bb, off, none⟩) (x0 :: x1 :: l)) (hk : ∀ o v, 2 ≤ o → W.cell? ⟨bb, o, none⟩ = some v → W'.cell? ⟨bb, o, none⟩ = some v) (hB : B ≤ B') : RI W' B' (some ⟨bb, off + 2, none⟩) l := fun _ => by
  obtain ⟨b9, o9, e, hb, hc⟩ := h (by simp)
  cases e
  refine ⟨bb, off + 2, rfl, Nat.lt_of_lt_of_le hb hB, fun j u hu => ?_⟩
  have := hk _ _ (by omega) (hc (j + 2) u (by simpa using hu))
  rw [show off + 2 + j = off + (j + 2) by omega]
  exact this
/-- Witness. -/
def wiN (N D d : Int) (b : List (Int × Int)) (gl gh nn : Int) (high : Bool) : (Int × Int) × List Int × Int :=
  if alE N D d b gl gh nn [] = 0 then ((gz (witL high (b ++ List.replicate nn.toNat (gl, gh)) (efL N D d nn.toNat)) 0, gz (witL high (b ++ List.replicate nn.toNat (gl, gh)) (efL N D d nn.toNat)) 1), (witL high (b ++ List.replicate nn.toNat (gl, gh)) (efL N D d nn.toNat)).drop 2, 0) else ((0, 0), [], alE N D d b gl gh nn [])
def GivesWi (w : World) (r : (Int × Int) × List Int × Int) (e : Ending) (w' : World) : Prop := ∃ u, e = .returned (.tuple #[.agg #[.int .i64 r.1.1, .int .i64 r.1.2], u, .int .i64 r.2.2]) ∧ QI r.2.1 u w' ∧ Below w.heap.size w w'

set_option maxRecDepth 100000 in
set_option maxHeartbeats 2000000 in
theorem witnessT_any (N D d gl gh nn : Int) (high : Bool) (Ab : Option Addr) (nb cb B : Nat) (b : List (Int × Int)) (w : World) (hb : b.length = nb) (hnb : nb ≤ maxLen) (hB : B ≤ w.heap.size) (hr : RS w B Ab b) :
    Calls Try.prog 25 #[.agg #[.int .i64 N, .int .i64 D, .int .i64 d], .slice Ab nb cb, .agg #[.int .i64 gl, .int .i64 gh], .int .i64 nn, .bool high] w (GivesWi w (wiN N D d b gl gh nn high)) := by
  have HA0 := Lib.hid (FW.start (N := N) (D := D) (d := d) (gl := gl) (gh := gh) (w := w))
  unfold GivesWi wiN
  by_cases h0 : alE N D d b gl gh nn [] = 0
  · rw [if_pos h0]
    obtain ⟨hs, hc, hv, hll, hsa⟩ := alE_zero h0
    have hnn : 0 ≤ nn ∧ nn ≤ 16 := by unfold saB at hsa; simp at hsa; exact hsa.1.2
    have hb2 : b.length = 2 := by unfold saB at hsa; simp at hsa; exact hsa.1.1.1
    have HAL := Lib.hid (fun (W : World) (hW : Below w.heap.size w W) => allow_ok N D d gl gh nn Ab none nb cb 0 0 W.heap.size b [] W hb hnb rfl (le_maxLen (by omega)) (Nat.le_refl _) (((hr.below (hW.mono hB)).more (Nat.le_trans hB hW.size))) (fun h => absurd h (by simp)) hs hc hv hll hsa)
    obtain ⟨m, rfl⟩ : ∃ m : Nat, nn = (m : Int) := ⟨nn.toNat, by omega⟩
    rw [Int.toNat_natCast]
    simp only [Int.toNat_natCast] at HAL
    have hm : m ≤ 16 := by omega
    have hlen : (b ++ List.replicate m (gl, gh)).length = m + 2 := by simp; omega
    have HWI := Lib.hid (fun (A : Option Addr) (c : Nat) (W : World) (h : RS W W.heap.size A (b ++ List.replicate m (gl, gh))) => witness_any N D d A m (m + 2) c W.heap.size _ high W hs rfl hm hlen (Nat.le_refl _) h)
    have hxl : (witL high (b ++ List.replicate m (gl, gh)) (efL N D d m)).length = m + 2 := by rw [witL_len high (by rw [efL_len]; exact hlen)]; exact hlen
    generalize witL high (b ++ List.replicate m (gl, gh)) (efL N D d m) = X at *
    obtain ⟨x0, x1, l, rfl⟩ : ∃ x0 x1 l, X = x0 :: x1 :: l := by
      match X, hxl with
      | x0 :: x1 :: l, _ => exact ⟨x0, x1, l, rfl⟩
    have hll9 : l.length = m := by simpa using hxl
    generalize b ++ List.replicate m (gl, gh) = S at *
    clear h0 hs hc hv hll hsa hnn hb2 hr hb hlen hxl
    show Calls _ _ _ _ (fun e w' => ∃ u, e = .returned (.tuple #[.agg #[.int .i64 x0, .int .i64 x1], u, .int .i64 0]) ∧ QI l u w' ∧ Below w.heap.size w w')
    go_enter Try.func25, Try.ntmps25
    go_upto_region 1 with (fail)
    generalize World.alloc _ _ = w1 at *
    have s0 := cellOf (o := 0) HA0.out.s rfl
    have s1 := cellOf (o := 1) HA0.out.s rfl
    have s2 := cellOf (o := 2) HA0.out.s rfl
    have g0 := cellOf (o := 0) HA0.out.g rfl
    have g1 := cellOf (o := 1) HA0.out.g rfl
    have l0 := lt_of_block HA0.out.s
    have l1 := lt_of_block HA0.out.g
    go_upto_region 4 with (go_at_call 63; refine Calls.mono (HAL.out _ HA0.out.b) ?_; rintro e w3 ⟨A, c, rfl, hcc, hq3, hb3⟩; have HA3 := Lib.hid ((HA0.out.next hb3).alloc (.cells #[.int .i64 N, .int .i64 D, .int .i64 d, .slice A (m + 2) c] 101)); have HQ3 := Lib.hid hq3; clear hb3 hq3 hcc s0 s1 s2 g0 g1 l0 l1)
    have bq := blk_new w3 (.cells #[.int .i64 N, .int .i64 D, .int .i64 d, .slice A (m + 2) c] 101) _ rfl
    have HQ4 := Lib.hid ((HQ3.out.below ((Below.refl w3.heap.size w3).alloc (Nat.le_refl _) (.cells #[.int .i64 N, .int .i64 D, .int .i64 d, .slice A (m + 2) c] 101))).more (by simp : w3.heap.size ≤ (w3.alloc (.cells #[.int .i64 N, .int .i64 D, .int .i64 d, .slice A (m + 2) c] 101)).heap.size))
    obtain ⟨q, hq⟩ : ∃ q, w3.heap.size = q := ⟨_, rfl⟩
    rw [hq] at bq ⊢
    clear hq
    generalize World.alloc w3 _ = w4 at *
    have k0 := cellOf (o := 0) bq rfl
    have k1 := cellOf (o := 1) bq rfl
    have k2 := cellOf (o := 2) bq rfl
    have k3 := cellOf (o := 3) bq rfl
    have lq := lt_of_block bq
    go_upto_region 5 with (go_at_call 67; refine Calls.mono (HWI.out A c _ HQ4.out) ?_; rintro e w5 ⟨u5, rfl, hq5, hb5⟩; have HA5 := Lib.hid (HA3.out.next hb5); clear hb5 k0 k1 k2 k3 lq bq; obtain ⟨A9, c9, rfl, hc9, hr9⟩ := hq5)
    obtain ⟨bb, off, rfl, hbb, hcell⟩ := hr9 (by simp)
    have p0 := hcell 0 (.int .i64 x0) rfl
    have p1 := hcell 1 (.int .i64 x1) rfl
    rw [Nat.add_zero] at p0
    have hr5 : RI w5 w5.heap.size (some ⟨bb, off, none⟩) (x0 :: x1 :: l) := fun _ => ⟨bb, off, rfl, hbb, hcell⟩
    have HR5 := Lib.hid hr5
    have HLL := Lib.hid hll9
    simp only [List.length_cons] at hc9
    rw [hll9] at hc9
    have lb : bb < w5.heap.size := hbb
    have hc9i : (2 : Int) ≤ (c9 : Int) := by omega
    clear hcell hbb hr5 hll9
    obtain ⟨A2, hA2⟩ : ∃ A2 : Option Addr, (if c9 = 2 then some ⟨bb, off, none⟩ else some ⟨bb, off + 2, none⟩) = A2 := ⟨_, rfl⟩
    have hm2i : (2 : Int) ≤ (m : Int) + 1 + 1 := by omega
    have HA2 := Lib.hid hA2
    clear hA2
    obtain ⟨Q, hQ⟩ : ∃ q9 : Nat → Value → World → Prop, q9 = QG [some (.slice (some ⟨bb, off, none⟩) (m + 1 + 1) c9), some (.slice (some ⟨bb, off, none⟩) 2 c9), some (.pointer (some ⟨bb, off, none⟩)), some (.agg #[.int .i64 x0, .int .i64 x1]), some (.slice (some ⟨bb, off, none⟩) (m + 1 + 1) c9), some (.slice A2 m (c9 - 2)), none, some (.slice A2 m (c9 - 2)), some (.int .i64 0)] (fun _ _ _ => True) := ⟨_, rfl⟩
    have hSt : Still Q := by rw [hQ]; exact QG.still
    have HQ := Lib.hid hQ
    clear hQ
    obtain ⟨fX, hfX⟩ : ∃ f9 : World → World, f9 = (fun y => ((y.setCell ⟨w.heap.size + 1 + 1, 0, none⟩ (.int .i64 x0)).setCell ⟨w.heap.size + 1 + 1, 1, none⟩ (.int .i64 x1))) := ⟨_, rfl⟩
    have HfX := Lib.hid hfX
    clear hfX
    refine wpIn_wide.1 (region_inv2 (n := 9) (by kernel_rfl) (RT1 Q w5 6 fX) (by kernel_rfl) rfl (RT1.start _ _ _ _ _) ?hstep ?hend)
    case hstep =>
      intro i' o ho val L b' x hF hR hpre hl
      match i', ho with
      | 0, ho =>
        simp at ho; subst ho; refine step_plain rfl ?_; have e14 := hF.was 14 (by kernel_rfl) rfl; have hgoal := RT1.goA hR hSt HQ 0 rfl (by decide); clear hF hpre hl hR; go_simp; exact ⟨_, rfl, hgoal _ rfl⟩
      | 1, ho =>
        simp at ho; subst ho; refine step_plain rfl ?_; have e30 := hF.gv hR.1 HQ 0 rfl (hpre ⟨0, .data⟩ (by simp) rfl) rfl; have hgoal := RT1.goA hR hSt HQ 1 rfl (by decide); clear hF hpre hl hR; go_simp; exact ⟨_, rfl, hgoal _ (by simp)⟩
      | 2, ho =>
        simp at ho; subst ho; refine step_plain rfl ?_; have e31 := hF.gv hR.1 HQ 1 rfl (hpre ⟨1, .data⟩ (by simp) rfl) rfl; have hgoal := RT1.goA hR hSt HQ 2 rfl (by decide); clear hF hpre hl hR; go_simp; exact ⟨_, rfl, hgoal _ rfl⟩
      | 3, ho =>
        simp at ho; subst ho; refine step_plain rfl ?_; have hN := hF.later hl 6 rfl (e := ⟨3, .data⟩) (by simp) rfl rfl
        have hM0 := hR.2.1 hN
        have e32 := hF.gv hR.1 HQ 2 rfl (hpre ⟨2, .data⟩ (by simp) rfl) rfl; have hgoal := RT1.go hR hSt HQ 3 rfl (by decide) hN; have q0 := cell_keep hM0 p0; have q1 := cell_keep hM0 p1; clear hF hpre hl hR hN hM0; go_simp; exact ⟨_, rfl, hgoal _ _ (Below.refl _ _) rfl⟩
      | 4, ho =>
        simp at ho; subst ho; refine step_plain rfl ?_; have e14 := hF.was 14 (by kernel_rfl) rfl; have hgoal := RT1.goA hR hSt HQ 4 rfl (by decide); clear hF hpre hl hR; go_simp; exact ⟨_, rfl, hgoal _ rfl⟩
      | 5, ho =>
        simp at ho; subst ho; refine step_plain rfl ?_; have e34 := hF.gv hR.1 HQ 4 rfl (hpre ⟨4, .data⟩ (by simp) rfl) rfl; have hgoal := RT1.goA hR hSt HQ 5 rfl (by decide); clear hF hpre hl hR; go_simp; exact ⟨_, rfl, hgoal _ (by rw [← HA2.out])⟩
      | 6, ho =>
        simp at ho; subst ho; refine step_plain rfl ?_; have e10 := hF.was 10 (by kernel_rfl) rfl; have e33 := hF.gv hR.1 HQ 3 rfl (hpre ⟨3, .data⟩ (by simp) rfl) rfl; have hN := hF.none2 hl (by decide)
        have hls : 6 < L.size := by rw [hF.lsize]; decide
        have qb := ((hR.2.1 hN).block (w.heap.size + 1 + 1) (lt_of_block HA5.out.r1)).trans HA5.out.r1
        have g0 := cellOf (o := 0) qb rfl; have f0 := freeOf (o := 0) qb; have g1 := cellOf (o := 1) qb rfl; have f1 := freeOf (o := 1) qb; have hgoal := RT1.store (v := undef) hR hSt (QG.none HQ 6 rfl (fun _ _ => trivial) _ _) hls hN
        have hq := lt_of_block qb
        have HG := Lib.hid hgoal
        clear hF hpre hl hR hls hN qb hgoal; go_simp
        exact ⟨undef, by have h9 := HG.out; rw [HfX.out] at h9 ⊢; exact h9⟩
      | 7, ho =>
        simp at ho; subst ho; refine step_plain rfl ?_; have e35 := hF.gv hR.1 HQ 5 rfl (hpre ⟨5, .data⟩ (by simp) rfl) rfl; have hgoal := RT1.goA hR hSt HQ 7 rfl (by decide); clear hF hpre hl hR; go_simp; exact ⟨_, rfl, hgoal _ rfl⟩
      | 8, ho =>
        simp at ho; subst ho; refine step_plain rfl ?_; have hgoal := RT1.goA hR hSt HQ 8 rfl (by decide); clear hF hpre hl hR; go_simp; exact ⟨_, rfl, hgoal _ rfl⟩
      | i + 9, ho => simp at ho
    case hend =>
      intro val L b' x hF hall hR
      have e := hF.all (by kernel_rfl) hall
      obtain ⟨y, hy, ey⟩ := hR.2.2 (hall 6 (by decide))
      rw [HfX.out] at ey; dsimp only at ey
      have k7 := QG.val HQ rfl (hR.1 7 (hall 7 (by decide)))
      have k8 := QG.val HQ rfl (hR.1 8 (hall 8 (by decide)))
      have bk := (block_setCell (o := 1) (.int .i64 x1) (block_setCell (o := 0) (.int .i64 x0) ((hy.block (w.heap.size + 1 + 1) (lt_of_block HA5.out.r1)).trans HA5.out.r1)))
      rw [← ey] at bk
      have hB := Lib.hid (show ∀ (B9 : Nat) (W9 : World), Below B9 W9 w5 → B9 ≤ w5.heap.size → B9 ≤ w.heap.size + 1 + 1 → Below B9 W9 x from fun B9 W9 h9 hB9 h1 => by rw [ey]; exact (((h9.trans (hy.mono hB9)).setCell (p := ⟨w.heap.size + 1 + 1, 0, none⟩) h1 (.int .i64 x0)).setCell (p := ⟨w.heap.size + 1 + 1, 1, none⟩) h1 (.int .i64 x1)))
      have hX : ∀ o v, 2 ≤ o → w5.cell? ⟨bb, o, none⟩ = some v → x.cell? ⟨bb, o, none⟩ = some v := fun o v ho h => by
        rw [ey, World.cell?_setCell_other (a := ⟨w.heap.size + 1 + 1, 1, none⟩) (b := ⟨bb, o, none⟩) _ _ (by intro e; have := congrArg (·.off) e; simp at this; omega), World.cell?_setCell_other (a := ⟨w.heap.size + 1 + 1, 0, none⟩) (b := ⟨bb, o, none⟩) _ _ (by intro e; have := congrArg (·.off) e; simp at this; omega)]
        exact cell_keep hy h
      have HX := Lib.hid hX
      clear hX
      clear hF hall hR hSt HQ HfX ey hy
      subst e
      simp [final, dstOf, List.range, List.range.loop]
      rw [k7]
      rw [k8]
      have HBF := Lib.hid (hB.out _ _ HA5.out.b HA5.out.b.size (by omega))
      have d0 := cellOf (o := 0) bk rfl
      have d1 := cellOf (o := 1) bk rfl
      clear bk
      have hri : RI x x.heap.size A2 l := by
        intro hp
        have hc2 : ¬ c9 = 2 := by have : 0 < l.length := by simpa using hp
                                  have := HLL.out; omega
        rw [← HA2.out, if_neg hc2]
        exact RI.drop2 HR5.out HX.out (hB.out w.heap.size w5 (Below.refl _ _ |>.mono HA5.out.b.size) HA5.out.b.size (by omega)).size hp
      have HRI := Lib.hid hri
      clear hri hB p0 p1
      go_wp2
      exact bodyPost_ret (v := .tuple #[.agg #[.int .i64 x0, .int .i64 x1], .slice A2 m (c9 - 2), .int .i64 0]) (by simp [results, Try.results25, go_sem, d0, d1]) rfl ⟨_, rfl, ⟨A2, c9 - 2, by rw [HLL.out], by rw [HLL.out]; omega, HRI.out⟩, HBF.out⟩
  · rw [if_neg h0]
    have HAL := Lib.hid (fun (W : World) (hW : Below w.heap.size w W) => allow_no N D d gl gh nn Ab none nb cb 0 0 W.heap.size b [] W hb hnb rfl (le_maxLen (by omega)) (Nat.le_refl _) (((hr.below (hW.mono hB)).more (Nat.le_trans hB hW.size))) (fun h => absurd h (by simp)) _ rfl h0)
    have h0' : (alE N D d b gl gh nn [] != 0) = true := by rw [bne_iff_ne]; exact h0
    generalize alE N D d b gl gh nn [] = E at *
    clear h0 hr hb
    show Calls _ _ _ _ (fun e w' => ∃ u, e = .returned (.tuple #[.agg #[.int .i64 0, .int .i64 0], u, .int .i64 E]) ∧ QI [] u w' ∧ Below w.heap.size w w')
    go_enter Try.func25, Try.ntmps25
    go_upto_region 1 with (fail)
    generalize World.alloc _ _ = w1 at *
    have s0 := cellOf (o := 0) HA0.out.s rfl
    have s1 := cellOf (o := 1) HA0.out.s rfl
    have s2 := cellOf (o := 2) HA0.out.s rfl
    have g0 := cellOf (o := 0) HA0.out.g rfl
    have g1 := cellOf (o := 1) HA0.out.g rfl
    have l0 := lt_of_block HA0.out.s
    have l1 := lt_of_block HA0.out.g
    go_upto_region 3 with (go_at_call 63; refine Calls.mono (HAL.out _ HA0.out.b) ?_; rintro e w3 ⟨rfl, hb3⟩; have HA3 := Lib.hid ((HA0.out.next hb3).alloc (.cells #[.int .i64 0, .int .i64 0, .int .i64 0, .slice none 0 0] 101)); clear hb3 s0 s1 s2 g0 g1 l0 l1)
    generalize World.alloc w3 _ = w4 at *
    have k0 := cellOf (o := 0) HA3.out.r1 rfl
    have k1 := cellOf (o := 1) HA3.out.r1 rfl
    have f0 := freeOf (o := 0) HA3.out.r1
    have f1 := freeOf (o := 1) HA3.out.r1
    have l0 := lt_of_block HA3.out.r1
    go_wp2
    have hput := HA3.out.put (.int .i64 0) (.int .i64 0) _ rfl
    clear k0 k1 f0 f1 l0
    generalize (World.setCell w4 _ _).setCell _ _ = w9 at *
    obtain ⟨bk1, hb9⟩ := hput
    have d0 := cellOf (o := 0) bk1 rfl
    have d1 := cellOf (o := 1) bk1 rfl
    exact bodyPost_ret (v := .tuple #[.agg #[.int .i64 0, .int .i64 0], .slice none 0 0, .int .i64 E]) (by simp [results, Try.results25, go_sem, d0, d1]) rfl ⟨_, rfl, QI.nil, hb9⟩
end Go.Proofs.Ytnnmmojlgikdgaa

/- Witness of the reference. -/
namespace Go.Proofs.Ytnnmmojlgikdgaa
open Go.RowKit

set_option maxRecDepth 100000 in
set_option maxHeartbeats 2000000 in
theorem rwitnessT_any (N D d gl gh nn : Int) (high : Bool) (Ab : Option Addr) (nb cb B : Nat) (b : List (Int × Int)) (w : World) (hb : b.length = nb) (hnb : nb ≤ maxLen) (hB : B ≤ w.heap.size) (hr : RS w B Ab b) :
    Calls Try.prog 26 #[.agg #[.int .i64 N, .int .i64 D, .int .i64 d], .slice Ab nb cb, .agg #[.int .i64 gl, .int .i64 gh], .int .i64 nn, .bool high] w (GivesWi w (wiN N D d b gl gh nn high)) := by
  have HA0 := Lib.hid (FW.start (N := N) (D := D) (d := d) (gl := gl) (gh := gh) (w := w))
  have HCS := Lib.hid (fun (W : World) (hW : Below w.heap.size w W) => checkSets_any N D d gl gh nn Ab nb cb w.heap.size b W hb hnb hW.size ((hr.more hB).below hW))
  unfold GivesWi wiN
  by_cases h0 : alE N D d b gl gh nn [] = 0
  · rw [if_pos h0]
    rw [h0] at HCS
    obtain ⟨hs, hc, hv, hll, hsa⟩ := alE_zero h0
    have hnn : 0 ≤ nn ∧ nn ≤ 16 := by unfold saB at hsa; simp at hsa; exact hsa.1.2
    have hb2 : b.length = 2 := by unfold saB at hsa; simp at hsa; exact hsa.1.1.1
    obtain ⟨m, rfl⟩ : ∃ m : Nat, nn = (m : Int) := ⟨nn.toNat, by omega⟩
    rw [Int.toNat_natCast]
    have hm : m ≤ 16 := by omega
    have hlen : (b ++ List.replicate m (gl, gh)).length = m + 2 := by simp; omega
    have hSB := sb_of hsa m
    have HEN := Lib.hid (fun (W : World) (hW : Below w.heap.size w W) => rends7_any N D d gl gh Ab nb cb m w.heap.size b high W hs hm hb (hb.symm.trans hb2) hSB hW.size ((hr.more hB).below hW))
    have hxl : (witL high (b ++ List.replicate m (gl, gh)) (efL N D d m)).length = m + 2 := by rw [witL_len high (by rw [efL_len]; exact hlen)]; exact hlen
    generalize witL high (b ++ List.replicate m (gl, gh)) (efL N D d m) = X at *
    obtain ⟨x0, x1, l, rfl⟩ : ∃ x0 x1 l, X = x0 :: x1 :: l := by
      match X, hxl with
      | x0 :: x1 :: l, _ => exact ⟨x0, x1, l, rfl⟩
    have hll9 : l.length = m := by simpa using hxl
    generalize endN high (b ++ List.replicate m (gl, gh)) (efL N D d m) = en at *
    clear h0 hs hc hv hll hsa hnn hb2 hr hb hlen hxl hSB
    show Calls _ _ _ _ (fun e w' => ∃ u, e = .returned (.tuple #[.agg #[.int .i64 x0, .int .i64 x1], u, .int .i64 0]) ∧ QI l u w' ∧ Below w.heap.size w w')
    go_enter Try.func26, Try.ntmps26
    go_upto_region 1 with (fail)
    generalize World.alloc _ _ = w1 at *
    have s0 := cellOf (o := 0) HA0.out.s rfl
    have s1 := cellOf (o := 1) HA0.out.s rfl
    have s2 := cellOf (o := 2) HA0.out.s rfl
    have g0 := cellOf (o := 0) HA0.out.g rfl
    have g1 := cellOf (o := 1) HA0.out.g rfl
    have l0 := lt_of_block HA0.out.s
    have l1 := lt_of_block HA0.out.g
    go_upto_region 5 with (first
      | (go_at_call 40; refine Calls.mono (HCS.out _ HA0.out.b) ?_; rintro e w3 ⟨rfl, hb3⟩; have HA3 := Lib.hid (HA0.out.next hb3); clear hb3 s0 s1 s2 g0 g1 l0 l1; have s0 := cellOf (o := 0) HA3.out.s rfl; have s1 := cellOf (o := 1) HA3.out.s rfl; have s2 := cellOf (o := 2) HA3.out.s rfl; have g0 := cellOf (o := 0) HA3.out.g rfl; have g1 := cellOf (o := 1) HA3.out.g rfl; have l0 := lt_of_block HA3.out.s; have l1 := lt_of_block HA3.out.g)
      | (go_at_call 66; refine Calls.mono (HEN.out _ HA3.out.b) ?_; rintro e w5 ⟨u5, rfl, hq5, hb5⟩; have HA5 := Lib.hid (HA3.out.next hb5); clear hb5 s0 s1 s2 g0 g1 l0 l1; obtain ⟨A9, c9, rfl, hc9, hr9⟩ := hq5))
    obtain ⟨bb, off, rfl, hbb, hcell⟩ := hr9 (by simp)
    have p0 := hcell 0 (.int .i64 x0) rfl
    have p1 := hcell 1 (.int .i64 x1) rfl
    rw [Nat.add_zero] at p0
    have hr5 : RI w5 w5.heap.size (some ⟨bb, off, none⟩) (x0 :: x1 :: l) := fun _ => ⟨bb, off, rfl, hbb, hcell⟩
    have HR5 := Lib.hid hr5
    have HLL := Lib.hid hll9
    simp only [List.length_cons] at hc9
    rw [hll9] at hc9
    have lb : bb < w5.heap.size := hbb
    have hc9i : (2 : Int) ≤ (c9 : Int) := by omega
    clear hcell hbb hr5 hll9
    obtain ⟨A2, hA2⟩ : ∃ A2 : Option Addr, (if c9 = 2 then some ⟨bb, off, none⟩ else some ⟨bb, off + 2, none⟩) = A2 := ⟨_, rfl⟩
    have hm2i : (2 : Int) ≤ (m : Int) + 1 + 1 := by omega
    have hm0i : (0 : Int) < (m : Int) + 1 + 1 := by omega
    have hm1i : (1 : Int) < (m : Int) + 1 + 1 := by omega
    have HA2 := Lib.hid hA2
    clear hA2
    obtain ⟨Q, hQ⟩ : ∃ q9 : Nat → Value → World → Prop, q9 = QG [some (.slice (some ⟨bb, off, none⟩) (m + 1 + 1) c9), some (.pointer (some ⟨bb, off, none⟩)), some (.int .i64 x0), some (.slice (some ⟨bb, off, none⟩) (m + 1 + 1) c9), some (.pointer (some ⟨bb, off + 1, none⟩)), some (.int .i64 x1), some (.agg #[.int .i64 x0, .int .i64 x1]), some (.slice (some ⟨bb, off, none⟩) (m + 1 + 1) c9), some (.slice A2 m (c9 - 2)), none, some (.slice A2 m (c9 - 2)), some (.int .i64 0)] (fun _ _ _ => True) := ⟨_, rfl⟩
    have hSt : Still Q := by rw [hQ]; exact QG.still
    have HQ := Lib.hid hQ
    clear hQ
    obtain ⟨fX, hfX⟩ : ∃ f9 : World → World, f9 = (fun y => ((y.setCell ⟨w.heap.size + 1 + 1, 0, none⟩ (.int .i64 x0)).setCell ⟨w.heap.size + 1 + 1, 1, none⟩ (.int .i64 x1))) := ⟨_, rfl⟩
    have HfX := Lib.hid hfX
    clear hfX
    refine wpIn_wide.1 (region_inv2 (n := 9) (by kernel_rfl) (RT1 Q w5 9 fX) (by kernel_rfl) rfl (RT1.start _ _ _ _ _) ?hstep ?hend)
    case hstep =>
      intro i' o ho val L b' x hF hR hpre hl
      match i', ho with
      | 0, ho =>
        simp at ho; subst ho; refine step_plain rfl ?_; have e14 := hF.was 14 (by kernel_rfl) rfl; have hgoal := RT1.goA hR hSt HQ 0 rfl (by decide); clear hF hpre hl hR; go_simp; exact ⟨_, rfl, hgoal _ rfl⟩
      | 1, ho =>
        simp at ho; subst ho; refine step_plain rfl ?_; have e34 := hF.gv hR.1 HQ 0 rfl (hpre ⟨0, .data⟩ (by simp) rfl) rfl; have hgoal := RT1.goA hR hSt HQ 1 rfl (by decide); clear hF hpre hl hR; go_simp; exact ⟨_, rfl, hgoal _ rfl⟩
      | 2, ho =>
        simp at ho; subst ho; refine step_plain rfl ?_
        have hl6 := hF.later hl 6 rfl (e := ⟨2, .data⟩) (by simp) rfl rfl
        have hN := hF.back hl6 9 rfl (by decide) (e := ⟨6, .data⟩) (by simp) rfl rfl
        clear hl6
        have hM0 := hR.2.1 hN
        have e35 := hF.gv hR.1 HQ 1 rfl (hpre ⟨1, .data⟩ (by simp) rfl) rfl; have hgoal := RT1.go hR hSt HQ 2 rfl (by decide) hN; have q0 := cell_keep hM0 p0; clear hF hpre hl hR hN hM0; go_simp; exact ⟨_, rfl, hgoal _ _ (Below.refl _ _) rfl⟩
      | 3, ho =>
        simp at ho; subst ho; refine step_plain rfl ?_; have e14 := hF.was 14 (by kernel_rfl) rfl; have hgoal := RT1.goA hR hSt HQ 3 rfl (by decide); clear hF hpre hl hR; go_simp; exact ⟨_, rfl, hgoal _ rfl⟩
      | 4, ho =>
        simp at ho; subst ho; refine step_plain rfl ?_; have e37 := hF.gv hR.1 HQ 3 rfl (hpre ⟨3, .data⟩ (by simp) rfl) rfl; have hgoal := RT1.goA hR hSt HQ 4 rfl (by decide); clear hF hpre hl hR; go_simp; exact ⟨_, rfl, hgoal _ rfl⟩
      | 5, ho =>
        simp at ho; subst ho; refine step_plain rfl ?_
        have hl6 := hF.later hl 6 rfl (e := ⟨5, .data⟩) (by simp) rfl rfl
        have hN := hF.back hl6 9 rfl (by decide) (e := ⟨6, .data⟩) (by simp) rfl rfl
        clear hl6
        have hM0 := hR.2.1 hN
        have e38 := hF.gv hR.1 HQ 4 rfl (hpre ⟨4, .data⟩ (by simp) rfl) rfl; have hgoal := RT1.go hR hSt HQ 5 rfl (by decide) hN; have q0 := cell_keep hM0 p1; clear hF hpre hl hR hN hM0; go_simp; exact ⟨_, rfl, hgoal _ _ (Below.refl _ _) rfl⟩
      | 6, ho =>
        simp at ho; subst ho; refine step_plain rfl ?_; have e36 := hF.gv hR.1 HQ 2 rfl (hpre ⟨2, .data⟩ (by simp) rfl) rfl; have e39 := hF.gv hR.1 HQ 5 rfl (hpre ⟨5, .data⟩ (by simp) rfl) rfl; have hgoal := RT1.goA hR hSt HQ 6 rfl (by decide); clear hF hpre hl hR; go_simp; exact ⟨_, rfl, hgoal _ rfl⟩
      | 7, ho =>
        simp at ho; subst ho; refine step_plain rfl ?_; have e14 := hF.was 14 (by kernel_rfl) rfl; have hgoal := RT1.goA hR hSt HQ 7 rfl (by decide); clear hF hpre hl hR; go_simp; exact ⟨_, rfl, hgoal _ rfl⟩
      | 8, ho =>
        simp at ho; subst ho; refine step_plain rfl ?_; have e41 := hF.gv hR.1 HQ 7 rfl (hpre ⟨7, .data⟩ (by simp) rfl) rfl; have hgoal := RT1.goA hR hSt HQ 8 rfl (by decide); clear hF hpre hl hR; go_simp; exact ⟨_, rfl, hgoal _ (by rw [← HA2.out])⟩
      | 9, ho =>
        simp at ho; subst ho; refine step_plain rfl ?_; have e10 := hF.was 10 (by kernel_rfl) rfl; have e40 := hF.gv hR.1 HQ 6 rfl (hpre ⟨6, .data⟩ (by simp) rfl) rfl; have hN := hF.none2 hl (by decide)
        have hls : 9 < L.size := by rw [hF.lsize]; decide
        have qb := ((hR.2.1 hN).block (w.heap.size + 1 + 1) (lt_of_block HA5.out.r1)).trans HA5.out.r1
        have g0 := cellOf (o := 0) qb rfl; have f0 := freeOf (o := 0) qb; have g1 := cellOf (o := 1) qb rfl; have f1 := freeOf (o := 1) qb; have hgoal := RT1.store (v := undef) hR hSt (QG.none HQ 9 rfl (fun _ _ => trivial) _ _) hls hN
        have hq := lt_of_block qb
        have HG := Lib.hid hgoal
        clear hF hpre hl hR hls hN qb hgoal; go_simp
        exact ⟨undef, by have h9 := HG.out; rw [HfX.out] at h9 ⊢; exact h9⟩
      | 10, ho =>
        simp at ho; subst ho; refine step_plain rfl ?_; have e42 := hF.gv hR.1 HQ 8 rfl (hpre ⟨8, .data⟩ (by simp) rfl) rfl; have hgoal := RT1.goA hR hSt HQ 10 rfl (by decide); clear hF hpre hl hR; go_simp; exact ⟨_, rfl, hgoal _ rfl⟩
      | 11, ho =>
        simp at ho; subst ho; refine step_plain rfl ?_; have hgoal := RT1.goA hR hSt HQ 11 rfl (by decide); clear hF hpre hl hR; go_simp; exact ⟨_, rfl, hgoal _ rfl⟩
      | i + 12, ho => simp at ho
    case hend =>
      intro val L b' x hF hall hR
      have e := hF.all (by kernel_rfl) hall
      obtain ⟨y, hy, ey⟩ := hR.2.2 (hall 9 (by decide))
      rw [HfX.out] at ey; dsimp only at ey
      have k10 := QG.val HQ rfl (hR.1 10 (hall 10 (by decide)))
      have k11 := QG.val HQ rfl (hR.1 11 (hall 11 (by decide)))
      have bk := (block_setCell (o := 1) (.int .i64 x1) (block_setCell (o := 0) (.int .i64 x0) ((hy.block (w.heap.size + 1 + 1) (lt_of_block HA5.out.r1)).trans HA5.out.r1)))
      rw [← ey] at bk
      have hB := Lib.hid (show ∀ (B9 : Nat) (W9 : World), Below B9 W9 w5 → B9 ≤ w5.heap.size → B9 ≤ w.heap.size + 1 + 1 → Below B9 W9 x from fun B9 W9 h9 hB9 h1 => by rw [ey]; exact (((h9.trans (hy.mono hB9)).setCell (p := ⟨w.heap.size + 1 + 1, 0, none⟩) h1 (.int .i64 x0)).setCell (p := ⟨w.heap.size + 1 + 1, 1, none⟩) h1 (.int .i64 x1)))
      have hX : ∀ o v, 2 ≤ o → w5.cell? ⟨bb, o, none⟩ = some v → x.cell? ⟨bb, o, none⟩ = some v := fun o v ho h => by
        rw [ey, World.cell?_setCell_other (a := ⟨w.heap.size + 1 + 1, 1, none⟩) (b := ⟨bb, o, none⟩) _ _ (by intro e; have := congrArg (·.off) e; simp at this; omega), World.cell?_setCell_other (a := ⟨w.heap.size + 1 + 1, 0, none⟩) (b := ⟨bb, o, none⟩) _ _ (by intro e; have := congrArg (·.off) e; simp at this; omega)]
        exact cell_keep hy h
      have HX := Lib.hid hX
      clear hX
      clear hF hall hR hSt HQ HfX ey hy
      subst e
      simp [final, dstOf, List.range, List.range.loop]
      rw [k10]
      rw [k11]
      have HBF := Lib.hid (hB.out _ _ HA5.out.b HA5.out.b.size (by omega))
      have d0 := cellOf (o := 0) bk rfl
      have d1 := cellOf (o := 1) bk rfl
      clear bk
      have hri : RI x x.heap.size A2 l := by
        intro hp
        have hc2 : ¬ c9 = 2 := by have : 0 < l.length := by simpa using hp
                                  have := HLL.out; omega
        rw [← HA2.out, if_neg hc2]
        exact RI.drop2 HR5.out HX.out (hB.out w.heap.size w5 (Below.refl _ _ |>.mono HA5.out.b.size) HA5.out.b.size (by omega)).size hp
      have HRI := Lib.hid hri
      clear hri hB p0 p1
      go_wp2
      exact bodyPost_ret (v := .tuple #[.agg #[.int .i64 x0, .int .i64 x1], .slice A2 m (c9 - 2), .int .i64 0]) (by simp [results, Try.results26, go_sem, d0, d1]) rfl ⟨_, rfl, ⟨A2, c9 - 2, by rw [HLL.out], by rw [HLL.out]; omega, HRI.out⟩, HBF.out⟩
  · rw [if_neg h0]
    have h0' : (alE N D d b gl gh nn [] != 0) = true := by rw [bne_iff_ne]; exact h0
    generalize alE N D d b gl gh nn [] = E at *
    clear h0 hr hb
    show Calls _ _ _ _ (fun e w' => ∃ u, e = .returned (.tuple #[.agg #[.int .i64 0, .int .i64 0], u, .int .i64 E]) ∧ QI [] u w' ∧ Below w.heap.size w w')
    go_enter Try.func26, Try.ntmps26
    go_upto_region 1 with (fail)
    generalize World.alloc _ _ = w1 at *
    have s0 := cellOf (o := 0) HA0.out.s rfl
    have s1 := cellOf (o := 1) HA0.out.s rfl
    have s2 := cellOf (o := 2) HA0.out.s rfl
    have g0 := cellOf (o := 0) HA0.out.g rfl
    have g1 := cellOf (o := 1) HA0.out.g rfl
    have l0 := lt_of_block HA0.out.s
    have l1 := lt_of_block HA0.out.g
    go_upto_region 3 with (go_at_call 40; refine Calls.mono (HCS.out _ HA0.out.b) ?_; rintro e w4 ⟨rfl, hb3⟩; have HA3 := Lib.hid (HA0.out.next hb3); clear hb3 s0 s1 s2 g0 g1 l0 l1)
    have k0 := cellOf (o := 0) HA3.out.r1 rfl
    have k1 := cellOf (o := 1) HA3.out.r1 rfl
    have f0 := freeOf (o := 0) HA3.out.r1
    have f1 := freeOf (o := 1) HA3.out.r1
    have l0 := lt_of_block HA3.out.r1
    go_wp2
    have hput := HA3.out.put (.int .i64 0) (.int .i64 0) _ rfl
    clear k0 k1 f0 f1 l0
    generalize (World.setCell w4 _ _).setCell _ _ = w9 at *
    obtain ⟨bk1, hb9⟩ := hput
    have d0 := cellOf (o := 0) bk1 rfl
    have d1 := cellOf (o := 1) bk1 rfl
    exact bodyPost_ret (v := .tuple #[.agg #[.int .i64 0, .int .i64 0], .slice none 0 0, .int .i64 E]) (by simp [results, Try.results26, go_sem, d0, d1]) rfl ⟨_, rfl, QI.nil, hb9⟩
end Go.Proofs.Ytnnmmojlgikdgaa

/- sameInts of layer 7. -/
namespace Go.Proofs.Ytnnmmojlgikdgaa
open Go.RowKit

theorem jtake_same {xs ys : List Int} {k : Nat} {x y : Int} (hx : xs[k]? = some x) (hy : ys[k]? = some y) (h : xs.take k = ys.take k) (e : x = y) : xs.take (k + 1) = ys.take (k + 1) := by
  rw [List.take_add_one, List.take_add_one, hx, hy, h, e]

set_option maxRecDepth 100000 in
theorem jsame_any (A A' : Option Addr) (n c n' c' B B' : Nat) (xs ys : List Int) (w : World) (hx : xs.length = n) (hy : ys.length = n') (hn : n ≤ maxLen) (hn' : n' ≤ maxLen) (hB : B ≤ w.heap.size) (hB' : B' ≤ w.heap.size) (h : RI w B A xs) (h' : RI w B' A' ys) :
    Calls Try.prog 27 #[.slice A n c, .slice A' n' c'] w fun e w' => e = .returned (.bool (decide (xs = ys))) ∧ Below w.heap.size w w' := by
  by_cases hl : n = n'
  · obtain rfl := hl
    unfold maxLen at hn
    have HL := Lib.hid (And.intro hx hy)
    have hxl : xs.length = n := hx
    clear hx hy
    go_enter Try.func27, Try.ntmps27
    go_wp2
    go_loopw [5] (fun i wr => ∃ k : Nat, k ≤ n ∧ i = .int .i64 k ∧ xs.take k = ys.take k ∧ Below w.heap.size w wr) (fun i _ => n - (intOf i).toNat)
    case atStart => exact ⟨0, Nat.zero_le _, rfl, rfl, by go_grown⟩
    case round =>
      obtain ⟨k, hk, rfl, hw, hbw⟩ := hrel
      have HW := Lib.hid hw
      have HBW := Lib.hid hbw
      have hj := (h.more hB).below hbw
      have hj' := (h'.more hB').below hbw
      clear hw hbw
      by_cases hlt : k < n
      · obtain ⟨b, off, x, rfl, hb, hx, hc⟩ := hj.at_ (k := k) (by rw [HL.out.1]; exact hlt)
        obtain ⟨b', off', y, rfl, hb', hy, hc'⟩ := hj'.at_ (k := k) (by rw [HL.out.2]; exact hlt)
        have HX := Lib.hid (And.intro hx hy)
        have i1 : (0 : Int) ≤ (k : Int) := by omega
        have i2 : (k : Int) < n := by omega
        clear hx hy hj hj' hxl
        by_cases g : x = y
        · have g' : ((x : Int) != y) = false := by simpa using g
          have G := Lib.hid g
          clear g
          go_wp2
          go_quiet (fail)
          go_wp2
          go_roundw
          case rel => exact ⟨k + 1, by omega, by go_num, jtake_same HX.out.1 HX.out.2 HW.out G.out, by first | exact below_drewN HBW.out _ | exact HBW.out⟩
          case measure => simp [intOf]; omega
        · have g' : ((x : Int) != y) = true := by simpa using g
          have HN := Lib.hid (show decide (xs = ys) = false by rw [decide_eq_false_iff_not]; rintro rfl; have := HX.out.1.symm.trans HX.out.2; simp at this; exact g this)
          clear g
          go_wp2
          go_quiet (fail)
          go_wp2
          go_ret
          exact ⟨ret_bool HN.out.symm, by first | exact below_drewN HBW.out _ | exact HBW.out⟩
      · have HN := Lib.hid (show decide (xs = ys) = true by
          have e := HW.out
          rw [List.take_of_length_le (by rw [HL.out.1]; omega), List.take_of_length_le (by rw [HL.out.2]; omega)] at e
          simpa using e)
        clear hxl
        go_wp2
        go_ret
        exact ⟨ret_bool HN.out.symm, HBW.out⟩
  · have HN := Lib.hid (show decide (xs = ys) = false by rw [decide_eq_false_iff_not]; rintro rfl; exact hl (hx.symm.trans hy))
    have hne : ((n : Int) != n') = true := by rw [bne_iff_ne]; omega
    clear hx hy hl
    go_enter Try.func27, Try.ntmps27
    go_wp2
    go_ret
    exact ⟨ret_bool HN.out.symm, by go_grown⟩
theorem jsame_yes (A A' : Option Addr) (n c c' B B' : Nat) (xs : List Int) (w : World) (hx : xs.length = n) (hn : n ≤ maxLen) (hB : B ≤ w.heap.size) (hB' : B' ≤ w.heap.size) (h : RI w B A xs) (h' : RI w B' A' xs) :
    Calls Try.prog 27 #[.slice A n c, .slice A' n c'] w fun e w' => e = .returned (.bool true) ∧ Below w.heap.size w w' := by
  have := jsame_any A A' n c n c' B B' xs xs w hx hx hn hn hB hB' h h'
  simpa using this
theorem jsame_QI (l : List Int) (u u' : Value) (w : World) (hl : l.length ≤ maxLen) (h : QI l u w) (h' : QI l u' w) :
    Calls Try.prog 27 #[u, u'] w fun e w' => e = .returned (.bool true) ∧ Below w.heap.size w w' := by
  obtain ⟨A, c, rfl, _, h1⟩ := h
  obtain ⟨A', c', rfl, _, h2⟩ := h'
  exact jsame_yes A A' l.length c c' w.heap.size w.heap.size l w rfl hl (Nat.le_refl _) (Nat.le_refl _) h1 h2
end Go.Proofs.Ytnnmmojlgikdgaa

/- The law of Reach and Witness. -/
namespace Go.Proofs.Ytnnmmojlgikdgaa
open Go.RowKit

theorem wiN_len (N D d : Int) (b : List (Int × Int)) (gl gh nn : Int) (high : Bool) : (wiN N D d b gl gh nn high).2.1.length ≤ maxLen := by
  unfold wiN
  split
  · rename_i h
    obtain ⟨_, _, _, _, hsa⟩ := alE_zero h
    have hnn : 0 ≤ nn ∧ nn ≤ 16 := by unfold saB at hsa; simp at hsa; exact hsa.1.2
    refine le_maxLen ?_
    show ((witL high _ (efL N D d nn.toNat)).drop 2).length ≤ 1000000
    unfold witL
    rw [List.length_drop, List.length_zipWith, efL_len]
    omega
  · exact le_maxLen (by simp)

set_option maxRecDepth 100000 in
set_option maxHeartbeats 2000000 in
theorem law_reaches (wk : WK7) (w : World) (N D d : Int) (A : Option Addr) (n c : Nat) (gl gh lo hi m : Int) (b : List (Int × Int)) (hl : b.length = n) (hn : n ≤ maxLen) (hr : RS w w.heap.size A b) :
    Calls Try.prog 4 #[.agg #[.int .i64 N, .int .i64 D, .int .i64 d], .agg #[.slice A n c, .int .i64 gl, .int .i64 gh, .int .i64 lo, .int .i64 hi, .int .i64 m]] w fun e w' => e = .returned (.bool true) ∧ Below w.heap.size w w' := by
  have HWK := Lib.hid wk
  have HR1 := Lib.hid (fun (W : World) (hW : Below w.heap.size w W) => reachT_any N D d gl gh m A n c w.heap.size b W hl hn hW.size (hr.below hW))
  have HR2 := Lib.hid (fun (W : World) (hW : Below w.heap.size w W) => rreachT_any N D d gl gh m A n c w.heap.size b W hl hn hW.size (hr.below hW))
  have hw1 := fun (high : Bool) (W : World) (hW : Below w.heap.size w W) => witnessT_any N D d gl gh m high A n c w.heap.size b W hl hn hW.size (hr.below hW)
  have hw2 := fun (high : Bool) (W : World) (hW : Below w.heap.size w W) => rwitnessT_any N D d gl gh m high A n c w.heap.size b W hl hn hW.size (hr.below hW)
  have HWL := Lib.hid (fun high => wiN_len N D d b gl gh m high)
  obtain ⟨wi, hwi⟩ : ∃ f, wiN N D d b gl gh m = f := ⟨_, rfl⟩
  rw [hwi] at hw1 hw2 HWL
  have HW1 := Lib.hid hw1
  have HW2 := Lib.hid hw2
  generalize reN N D d b gl gh m = r at *
  obtain ⟨⟨a0, a1⟩, ⟨b0, b1⟩, er⟩ := r
  simp only at HR1 HR2
  have HK0 := Lib.hid (KW.start (N := N) (D := D) (d := d) (gl := gl) (gh := gh) (lo := lo) (hi := hi) (m := m) (A := A) (n := n) (c := c) (w := w))
  have hp1 := eq_pair a0 a1
  have hp2 := eq_pair b0 b1
  clear wk hr hl hw1 hw2 hwi
  go_enter Try.func4, Try.ntmps4
  go_upto_region 1 with (fail)
  generalize World.alloc _ _ = w1 at *
  have s0 := cellOf (o := 0) HK0.out.s rfl
  have s1 := cellOf (o := 1) HK0.out.s rfl
  have s2 := cellOf (o := 2) HK0.out.s rfl
  have x0 := cellOf (o := 0) HK0.out.x rfl
  have x1 := cellOf (o := 1) HK0.out.x rfl
  have x2 := cellOf (o := 2) HK0.out.x rfl
  have x3 := cellOf (o := 3) HK0.out.x rfl
  have x4 := cellOf (o := 4) HK0.out.x rfl
  have x5 := cellOf (o := 5) HK0.out.x rfl
  have l0 := lt_of_block HK0.out.s
  have l1 := lt_of_block HK0.out.x
  go_upto_region 2 with (go_at_call 23; refine Calls.mono (HR1.out _ HK0.out.b) ?_; rintro e v1 ⟨rfl, hb1⟩; have HK1 := Lib.hid (((HK0.out.next hb1).next ((Below.refl _ _).alloc (Nat.le_refl _) (.cells #[.int .i64 a0, .int .i64 a1] 24))).next ((Below.refl _ _).alloc (Nat.le_refl _) (.cells #[.int .i64 b0, .int .i64 b1] 24))); clear hb1 s0 s1 s2 x0 x1 x2 x3 x4 x5 l0 l1)
  have B1 := Lib.hid (blk_old (.cells #[.int .i64 b0, .int .i64 b1] 24) (blk_new v1 (.cells #[.int .i64 a0, .int .i64 a1] 24) _ rfl))
  have B2 := Lib.hid (blk_new (v1.alloc (.cells #[.int .i64 a0, .int .i64 a1] 24)) (.cells #[.int .i64 b0, .int .i64 b1] 24) (v1.heap.size + 1) (by simp))
  obtain ⟨q1, hq1⟩ : ∃ q, v1.heap.size = q := ⟨_, rfl⟩
  rw [hq1] at B1 B2 ⊢
  clear hq1
  generalize World.alloc (World.alloc v1 _) _ = w2 at *
  have s0 := cellOf (o := 0) HK1.out.s rfl
  have s1 := cellOf (o := 1) HK1.out.s rfl
  have s2 := cellOf (o := 2) HK1.out.s rfl
  have x0 := cellOf (o := 0) HK1.out.x rfl
  have x1 := cellOf (o := 1) HK1.out.x rfl
  have x2 := cellOf (o := 2) HK1.out.x rfl
  have x3 := cellOf (o := 3) HK1.out.x rfl
  have x4 := cellOf (o := 4) HK1.out.x rfl
  have x5 := cellOf (o := 5) HK1.out.x rfl
  have l0 := lt_of_block HK1.out.s
  have l1 := lt_of_block HK1.out.x
  go_upto_region 3 with (go_at_call 24; refine Calls.mono (HR2.out _ HK1.out.b) ?_; rintro e v3 ⟨rfl, hb3⟩; have HK3 := Lib.hid (((HK1.out.next hb3).next ((Below.refl _ _).alloc (Nat.le_refl _) (.cells #[.int .i64 a0, .int .i64 a1] 24))).next ((Below.refl _ _).alloc (Nat.le_refl _) (.cells #[.int .i64 b0, .int .i64 b1] 24))); have B3 := Lib.hid (blk_old (.cells #[.int .i64 b0, .int .i64 b1] 24) (blk_old (.cells #[.int .i64 a0, .int .i64 a1] 24) ((hb3.block _ (lt_of_block B1.out)).trans B1.out))); have B4 := Lib.hid (blk_old (.cells #[.int .i64 b0, .int .i64 b1] 24) (blk_old (.cells #[.int .i64 a0, .int .i64 a1] 24) ((hb3.block _ (lt_of_block B2.out)).trans B2.out))); clear hb3 s0 s1 s2 x0 x1 x2 x3 x4 x5 l0 l1)
  have B5 := Lib.hid (blk_old (.cells #[.int .i64 b0, .int .i64 b1] 24) (blk_new v3 (.cells #[.int .i64 a0, .int .i64 a1] 24) _ rfl))
  have B6 := Lib.hid (blk_new (v3.alloc (.cells #[.int .i64 a0, .int .i64 a1] 24)) (.cells #[.int .i64 b0, .int .i64 b1] 24) (v3.heap.size + 1) (by simp))
  obtain ⟨q3, hq3⟩ : ∃ q, v3.heap.size = q := ⟨_, rfl⟩
  rw [hq3] at B5 B6 ⊢
  clear hq3
  generalize World.alloc (World.alloc v3 _) _ = w4 at *
  have c0 := cellOf (o := 0) B3.out rfl
  have d0 := cellOf (o := 1) B3.out rfl
  have m0 := lt_of_block B3.out
  have c1 := cellOf (o := 0) B4.out rfl
  have d1 := cellOf (o := 1) B4.out rfl
  have m1 := lt_of_block B4.out
  have c2 := cellOf (o := 0) B5.out rfl
  have d2 := cellOf (o := 1) B5.out rfl
  have m2 := lt_of_block B5.out
  have c3 := cellOf (o := 0) B6.out rfl
  have d3 := cellOf (o := 1) B6.out rfl
  have m3 := lt_of_block B6.out
  go_wp2
  clear c0 c1 c2 c3 d0 d1 d2 d3 m0 m1 m2 m3 hp1 hp2
  go_loopw [11] (fun i wr => ∃ k : Nat, k ≤ 2 ∧ i = .int .i64 k ∧ Below w4.heap.size w4 wr) (fun i _ => 2 - (intOf i).toNat)
  case atStart => exact ⟨0, by omega, rfl, Below.refl _ _⟩
  case round =>
    obtain ⟨k, hk, rfl, hbw⟩ := hrel
    have HKW := Lib.hid (HK3.out.next hbw)
    have HBW := Lib.hid hbw
    clear hbw
    by_cases hlt : k < 2
    · obtain ⟨high, hhi⟩ : ∃ h, ((k : Int) == 1) = h := ⟨_, rfl⟩
      have h1 := HW1.out high
      have h2 := HW2.out high
      have hwl := HWL.out high
      generalize wi high = r at *
      obtain ⟨⟨e0, e1⟩, l, ew⟩ := r
      unfold GivesWi at h1 h2
      simp only at h1 h2 hwl
      have HV1 := Lib.hid h1
      have HV2 := Lib.hid h2
      have HSI := Lib.hid (fun (u u' : Value) (W : World) (h : QI l u W) (h' : QI l u' W) => jsame_QI l u u' W hwl h h')
      have hp3 := eq_pair e0 e1
      clear h1 h2 hwl
      have s0 := cellOf (o := 0) HKW.out.s rfl
      have s1 := cellOf (o := 1) HKW.out.s rfl
      have s2 := cellOf (o := 2) HKW.out.s rfl
      have x0 := cellOf (o := 0) HKW.out.x rfl
      have x1 := cellOf (o := 1) HKW.out.x rfl
      have x2 := cellOf (o := 2) HKW.out.x rfl
      have x3 := cellOf (o := 3) HKW.out.x rfl
      have x4 := cellOf (o := 4) HKW.out.x rfl
      have x5 := cellOf (o := 5) HKW.out.x rfl
      have l0 := lt_of_block HKW.out.s
      have l1 := lt_of_block HKW.out.x
      go_upto_region 10 with (first
        | (go_at_call 25; refine Calls.mono (HV1.out _ HKW.out.b) ?_; rintro e v5 ⟨u5, rfl, hq5, hb5⟩; have HQ5 := Lib.hid (hq5.stay ((Below.refl _ _).alloc (Nat.le_refl _) (.cells #[.int .i64 e0, .int .i64 e1] 24))); have HK5 := Lib.hid ((HKW.out.next hb5).next ((Below.refl _ _).alloc (Nat.le_refl _) (.cells #[.int .i64 e0, .int .i64 e1] 24))); have HB5 := Lib.hid ((HBW.out.trans (hb5.mono HBW.out.size)).trans (((Below.refl v5.heap.size v5).alloc (Nat.le_refl _) (.cells #[.int .i64 e0, .int .i64 e1] 24)).mono (Nat.le_trans HBW.out.size hb5.size))); have B7 := Lib.hid (blk_new v5 (.cells #[.int .i64 e0, .int .i64 e1] 24) _ rfl); clear hb5 hq5; clear s0 s1 s2 x0 x1 x2 x3 x4 x5 l0 l1; have s0 := cellOf (o := 0) HK5.out.s rfl; have s1 := cellOf (o := 1) HK5.out.s rfl; have s2 := cellOf (o := 2) HK5.out.s rfl; have x0 := cellOf (o := 0) HK5.out.x rfl; have x1 := cellOf (o := 1) HK5.out.x rfl; have x2 := cellOf (o := 2) HK5.out.x rfl; have x3 := cellOf (o := 3) HK5.out.x rfl; have x4 := cellOf (o := 4) HK5.out.x rfl; have x5 := cellOf (o := 5) HK5.out.x rfl; have l0 := lt_of_block HK5.out.s; have l1 := lt_of_block HK5.out.x)
        | (go_at_call 26; refine Calls.mono (HV2.out _ HK5.out.b) ?_; rintro e v6 ⟨u6, rfl, hq6, hb6⟩; have HQ6 := Lib.hid (hq6.stay ((Below.refl _ _).alloc (Nat.le_refl _) (.cells #[.int .i64 e0, .int .i64 e1] 24))); have HQ7 := Lib.hid ((HQ5.out.stay hb6).stay ((Below.refl _ _).alloc (Nat.le_refl _) (.cells #[.int .i64 e0, .int .i64 e1] 24))); have HB6 := Lib.hid ((HB5.out.trans (hb6.mono HB5.out.size)).trans (((Below.refl v6.heap.size v6).alloc (Nat.le_refl _) (.cells #[.int .i64 e0, .int .i64 e1] 24)).mono (Nat.le_trans HB5.out.size hb6.size))); have B8 := Lib.hid (blk_old (.cells #[.int .i64 e0, .int .i64 e1] 24) ((hb6.block _ (lt_of_block B7.out)).trans B7.out)); have B9 := Lib.hid (blk_new v6 (.cells #[.int .i64 e0, .int .i64 e1] 24) _ rfl); clear hb6 hq6; clear s0 s1 s2 x0 x1 x2 x3 x4 x5 l0 l1))
      obtain ⟨q5, hq5⟩ : ∃ q, v5.heap.size = q := ⟨_, rfl⟩
      obtain ⟨q6, hq6⟩ : ∃ q, v6.heap.size = q := ⟨_, rfl⟩
      rw [hq5] at B8
      rw [hq6] at B9
      rw [hq5, hq6]
      clear hq5 hq6
      generalize World.alloc v6 _ = w6 at *
      have c0 := cellOf (o := 0) B8.out rfl
      have c1 := cellOf (o := 1) B8.out rfl
      have c2 := cellOf (o := 0) B9.out rfl
      have c3 := cellOf (o := 1) B9.out rfl
      have m0 := lt_of_block B8.out
      have m1 := lt_of_block B9.out
      go_wp2_with (go_at_call 27; refine Calls.mono (HSI.out _ _ _ HQ7.out HQ6.out) ?_; rintro e v7 ⟨rfl, hb7⟩; have HB7 := Lib.hid (HB6.out.trans (hb7.mono HB6.out.size)); clear hb7)
      go_roundw
      case rel => exact ⟨k + 1, by omega, by go_num, HB7.out⟩
      case measure => simp [intOf] <;> omega
    · obtain rfl : k = 2 := by omega
      have HB9 := Lib.hid (HK3.out.b.trans (HBW.out.mono HK3.out.b.size))
      go_wp2_with (go_at_call 22; refine Calls.mono (HWK.out _) ?_; rintro e v9 ⟨rfl, hb9⟩; have HX9 := Lib.hid (HB9.out.trans (hb9.mono HB9.out.size)); clear hb9)
      go_ret
      exact ⟨rfl, HX9.out⟩
end Go.Proofs.Ytnnmmojlgikdgaa

/- swashplatelaw07.SlingReaches returns true at every input, and the input reads as it did: no condition. -/
namespace Go.Proofs.Ytnnmmojlgikdgaa
open Go.RowKit Go.WideShapes Go.ChangeShapes Go.ChangeAt Go.Joins

set_option maxRecDepth 100000 in
theorem reaches_lifted (os : Os) (started : os.Started) (H : Type) (enc : TypeId × Value → H) :
    ReturnsInHanded {} Try.checked os 4 .any (Rows.slingReachesSpec.pre6 enc Try.prog Try.f4 Rows.slingReachesRow.domain false) (Rows.slingReachesSpec.post enc Try.prog Try.f4 false true false false) := by
  refine returnsInHanded_of_change (C := Try.checked) own started (by kernel_rfl) Try.func4
    (ChangeSpec.witness6 (enc := enc) (C := Try.checked) false ⟨#[], #[.agg #[.int .i64 0, .int .i64 0, .int .i64 0], .agg #[.slice none 0 0, .int .i64 0, .int .i64 0, .int .i64 0, .int .i64 0, .int .i64 0]], []⟩ 8 (by kernel_rfl) (by kernel_rfl) (by kernel_rfl) (by kernel_rfl)) ?_
  intro W base args ds gs before hval0 hW hcnd _
  have hval : ∀ (j : Nat) t v, Try.f4.params[j]? = some t → args[j]? = some v → Value.okWide Try.prog W .any base t v := hval0
  have hW' := hW
  obtain ⟨p, q, hA0, hV, rfl, hfz, hnd⟩ := hW
  have hA : DataW.TrodAll enc Try.prog W 0 (fun _ => true) true Try.f4.params.toList args.toList ds p := hA0
  rw [Try.params4] at hA hval
  obtain ⟨v0, v1, d0, d1, p0, p1, rfl, rfl, rfl, h0, h1⟩ := trodAll_two hA
  obtain ⟨rfl, rfl⟩ := trodVars_none hV
  obtain ⟨a0, b0, c0, rfl⟩ := sling_open (hval 0 23 v0 rfl rfl) h0
  obtain ⟨A1, n1, c1, g1, k1, lo1, hi1, m1, l1, rfl, hl1, hn1, hr1⟩ := sets_open (hval 1 43 v1 rfl rfl) h1
  clear hA0 hval0
  simp only [List.append_nil] at hW'
  have hlt : ∀ x ∈ p0 ++ p1, x.block < W.heap.size := fun x hx => hW'.lt x hx
  refine (law_reaches works7_any W a0 b0 c0 A1 n1 c1 g1 k1 lo1 hi1 m1 l1 hl1 hn1 hr1).mono fun e W' ⟨he, hb⟩ => ?_
  subst he
  exact ⟨_, rfl, law_post hW' (by kernel_rfl) Try.underlying4 rfl rfl (fun sp hsp => trodAll_mk2 (again (by kernel_rfl) (of_decide_eq_true (by kernel_rfl)) h0 hb (fun x hx => hlt x (List.mem_append_left _ hx)) (fun x hx => hsp x (List.mem_append_left _ hx))) (again (by kernel_rfl) (of_decide_eq_true (by kernel_rfl)) h1 hb (fun x hx => hlt x (List.mem_append_right _ hx)) (fun x hx => hsp x (List.mem_append_right _ hx)))) hb⟩

theorem reaches_holds : Rows.SlingReachesSaid :=
  OpenClaim.holds_of_wide 4 Try.f4 rfl rfl rfl rfl rfl rfl rfl ⟨rfl, rfl, rfl, rfl, rfl⟩ rfl rfl rfl rfl rfl (by kernel_rfl) Try.func4 (by kernel_rfl)
    (of_decide_eq_true (by kernel_rfl)) (by unfold Func.isWrapper; first | (rw [if_pos (by decide +kernel)]; kernel_rfl) | (rw [if_neg (by decide +kernel)]; exact ⟨rfl, rfl⟩))
    (fun os started H enc _ => reaches_lifted os started H enc)
#print axioms reaches_holds

end Go.Proofs.Ytnnmmojlgikdgaa

/- swashplatelaw01.SpansInside returns true at every input, and the input reads as it did: no condition. -/
import Derived.Test.YtjdahphnmeaolaaWst
import Derived.Test.YtjdahphnmeaolaaRowBnd
import Derived.Test.YtjdahphnmeaolaaAtS
import Derived.Test.YtjdahphnmeaolaaImath
import Derived.Test.YtjdahphnmeaolaaEach
namespace Go.Proofs.Ytjdahphnmeaolaa
open Go.RowKit

/-- The two arguments' boxes: a table and a pick. -/
structure VP (w W : World) (AX : Option Addr) (nx cx : Nat) (AY : Option Addr) (ny cy : Nat) (AV : Option Addr) (nv cv : Nat) (x1 x2 y1 y2 n0 n1 n2 n3 n4 n5 : Int) : Prop where
  t0 : W.cell? ⟨w.heap.size, 0, none⟩ = some (.slice AX nx cx)
  t1 : W.cell? ⟨w.heap.size, 1, none⟩ = some (.slice AY ny cy)
  t2 : W.cell? ⟨w.heap.size, 2, none⟩ = some (.slice AV nv cv)
  a0 : W.cell? ⟨w.heap.size + 1, 0, none⟩ = some (.int .i64 x1)
  a1 : W.cell? ⟨w.heap.size + 1, 1, none⟩ = some (.int .i64 x2)
  b0 : W.cell? ⟨w.heap.size + 1, 2, none⟩ = some (.int .i64 y1)
  b1 : W.cell? ⟨w.heap.size + 1, 3, none⟩ = some (.int .i64 y2)
  m0 : W.cell? ⟨w.heap.size + 1, 4, none⟩ = some (.int .i64 n0)
  m1 : W.cell? ⟨w.heap.size + 1, 5, none⟩ = some (.int .i64 n1)
  m2 : W.cell? ⟨w.heap.size + 1, 6, none⟩ = some (.int .i64 n2)
  m3 : W.cell? ⟨w.heap.size + 1, 7, none⟩ = some (.int .i64 n3)
  m4 : W.cell? ⟨w.heap.size + 1, 8, none⟩ = some (.int .i64 n4)
  m5 : W.cell? ⟨w.heap.size + 1, 9, none⟩ = some (.int .i64 n5)
  b : Below w.heap.size w W
theorem VP.next {w W W' : World} {AX AY AV : Option Addr} {nx cx ny cy nv cv : Nat} {x1 x2 y1 y2 n0 n1 n2 n3 n4 n5 : Int} (h : VP w W AX nx cx AY ny cy AV nv cv x1 x2 y1 y2 n0 n1 n2 n3 n4 n5) (hb : Below W.heap.size W W') : VP w W' AX nx cx AY ny cy AV nv cv x1 x2 y1 y2 n0 n1 n2 n3 n4 n5 :=
  ⟨cell_keep hb h.t0, cell_keep hb h.t1, cell_keep hb h.t2, cell_keep hb h.a0, cell_keep hb h.a1, cell_keep hb h.b0, cell_keep hb h.b1, cell_keep hb h.m0, cell_keep hb h.m1, cell_keep hb h.m2, cell_keep hb h.m3, cell_keep hb h.m4, cell_keep hb h.m5, h.b.trans (hb.mono h.b.size)⟩
theorem VP.start (w : World) (AX AY AV : Option Addr) (nx cx ny cy nv cv : Nat) (x1 x2 y1 y2 n0 n1 n2 n3 n4 n5 : Int) (T T' : TypeId) :
    VP w ((w.alloc (.cells #[.slice AX nx cx, .slice AY ny cy, .slice AV nv cv] T)).alloc (.cells #[.int .i64 x1, .int .i64 x2, .int .i64 y1, .int .i64 y2, .int .i64 n0, .int .i64 n1, .int .i64 n2, .int .i64 n3, .int .i64 n4, .int .i64 n5] T')) AX nx cx AY ny cy AV nv cv x1 x2 y1 y2 n0 n1 n2 n3 n4 n5 :=
  ⟨by go_simp, by go_simp, by go_simp, by go_simp, by go_simp, by go_simp, by go_simp, by go_simp, by go_simp, by go_simp, by go_simp, by go_simp, by go_simp, by go_grown⟩

theorem atS_on {X Y : List Int} {V : List (List Int)} {x y : Int} (hct : ctB X Y V = true) (hx : On X x) (hy : On Y y) : atS X Y V x y = ((fl (atN X Y V x y) (atD X Y x y), cl (atN X Y V x y) (atD X Y x y)), 0) := by
  unfold atS
  rw [hct, onB_on.2 hx, onB_on.2 hy]
  rfl
theorem cbE_mk {X Y : List Int} {V : List (List Int)} {x1 x2 y1 y2 : Int} (hct : ctB X Y V = true) (h1 : vI x1 x2 = true) (h2 : vI y1 y2 = true) (ox1 : On X x1) (ox2 : On X x2) (oy1 : On Y y1) (oy2 : On Y y2) : cbE X Y V x1 x2 y1 y2 = 0 := by
  have on2 : ∀ {Z : List Int} {a b : Int}, On Z a → On Z b → onB Z [a, b] = true := fun {Z a b} h h' => by
    obtain ⟨h1, h2⟩ := h
    obtain ⟨h3, h4⟩ := h'
    unfold onB wB
    simp [gz] at h1 h2 h3 h4 ⊢
    omega
  have e1 := on2 ox1 ox2
  have e2 := on2 oy1 oy2
  unfold cbE
  simp [hct, e1, e2, vS_vI, h1, h2]

theorem inside_all {X Y : List Int} {V : List (List Int)} {x1 x2 y1 y2 x y a b c d : Int} (hc : cbE X Y V x1 x2 y1 y2 = 0) (hx : x1 ≤ x ∧ x ≤ x2) (hy : y1 ≤ y ∧ y ≤ y2) (ha : x1 ≤ a ∧ a ≤ x2) (hb : x1 ≤ b ∧ b ≤ x2) (hcc : y1 ≤ c ∧ c ≤ y2) (hd : y1 ≤ d ∧ d ≤ y2) :
    ∃ p0 p1 q0 q1 u v s0 z0 z1, (bndS X Y V x1 x2 y1 y2 = ((p0, p1), 0) ∧ atS X Y V x y = ((q0, q1), 0) ∧ wstS X Y V x1 x2 y1 y2 = (u, v, 0) ∧ atS X Y V u v = ((s0, p1), 0) ∧ bndS X Y V (min a b) (max a b) (min c d) (max c d) = ((z0, z1), 0)) ∧
      p0 ≤ q0 ∧ q1 ≤ p1 ∧ x1 ≤ u ∧ u ≤ x2 ∧ y1 ≤ v ∧ v ≤ y2 ∧ p0 ≤ z0 ∧ z1 ≤ p1 := by
  obtain ⟨hct, hv1, hv2, ox1, ox2, oy1, oy2⟩ := cbE_ok hc
  rw [vS_vI] at hv1 hv2
  have onX : ∀ {t : Int}, x1 ≤ t ∧ t ≤ x2 → On X t := fun h => ⟨by have := ox1.1; omega, by have := ox2.2; omega⟩
  have onY : ∀ {t : Int}, y1 ≤ t ∧ t ≤ y2 → On Y t := fun h => ⟨by have := oy1.1; omega, by have := oy2.2; omega⟩
  have gx := vI_get hv1
  have gy := vI_get hv2
  have hm : x1 ≤ min a b ∧ min a b ≤ x2 := by omega
  have hM : x1 ≤ max a b ∧ max a b ≤ x2 := by omega
  have hn : y1 ≤ min c d ∧ min c d ≤ y2 := by omega
  have hN : y1 ≤ max c d ∧ max c d ≤ y2 := by omega
  have hmM : min a b ≤ max a b := by omega
  have hnN : min c d ≤ max c d := by omega
  generalize min a b = a1 at *
  generalize max a b = a2 at *
  generalize min c d = b1 at *
  generalize max c d = b2 at *
  have vX : vI a1 a2 = true := by unfold vI; simp; omega
  have vY : vI b1 b2 = true := by unfold vI; simp; omega
  have hp := cbE_mk hct vX vY (onX hm) (onX hM) (onY hn) (onY hN)
  have i1 := inside hct ox1 ox2 oy1 oy2 hx.1 hx.2 hy.1 hy.2
  have i2 := part_in hct ox1 ox2 oy1 oy2 hm.1 hmM hM.2 hn.1 hnN hN.2
  obtain ⟨u, v, eu, ev, hu, hv, ht⟩ := worst_top (V := V) hct ox1 ox2 oy1 oy2 gx.2.2.2.2 gy.2.2.2.2
  refine ⟨_, _, _, _, u, v, fl (atN X Y V u v) (atD X Y u v), _, _, ⟨?_, atS_on hct (onX hx) (onY hy), ?_, ?_, ?_⟩, i1.1, i1.2, hu.1, hu.2, hv.1, hv.2, i2.1, i2.2⟩
  · unfold bndS
    rw [if_pos hc]
  · unfold wstS
    rw [if_pos hc, eu, ev]
  · rw [atS_on hct (onX hu) (onY hv), ht]
  · unfold bndS
    rw [if_pos hp]

def QI5 (g : Nat) (x1 : Int) (x2 : Int) (y1 : Int) (y2 : Int) (k0 : Int) (k1 : Int) (r0 : Int) (r1 : Int) (j : Nat) (v : Value) (_ : World) : Prop :=
  match j with
  | 0 => v = .pointer (some ⟨g + 1, 4, none⟩)
  | 1 => v = .pointer (some ⟨g + 1, 4, none⟩)
  | 2 => v = .int .i64 k0
  | 3 => v = .pointer (some ⟨g + 1, 0, none⟩)
  | 4 => v = .pointer (some ⟨g + 1, 0, none⟩)
  | 5 => v = .agg #[.int .i64 x1, .int .i64 x2]
  | 6 => v = .int .i64 r0
  | 7 => v = .pointer (some ⟨g + 1, 4, none⟩)
  | 8 => v = .pointer (some ⟨g + 1, 5, none⟩)
  | 9 => v = .int .i64 k1
  | 10 => v = .pointer (some ⟨g + 1, 0, none⟩)
  | 11 => v = .pointer (some ⟨g + 1, 2, none⟩)
  | 12 => v = .agg #[.int .i64 y1, .int .i64 y2]
  | 13 => v = .int .i64 r1
  | 14 => v = .int .i64 r0
  | 15 => v = .int .i64 r1
  | _ => True
theorem QI5_stays (g : Nat) (x1 : Int) (x2 : Int) (y1 : Int) (y2 : Int) (k0 : Int) (k1 : Int) (r0 : Int) (r1 : Int) : Stays (QI5 g x1 x2 y1 y2 k0 k1 r0 r1) := fun j v W W' h _ => by
  unfold QI5 at h ⊢
  split at h <;> exact h
def QI13 (g : Nat) (x1 : Int) (x2 : Int) (y1 : Int) (y2 : Int) (k0 : Int) (k1 : Int) (r0 : Int) (r1 : Int) (j : Nat) (v : Value) (_ : World) : Prop :=
  match j with
  | 0 => v = .pointer (some ⟨g + 1, 4, none⟩)
  | 1 => v = .pointer (some ⟨g + 1, 6, none⟩)
  | 2 => v = .int .i64 k0
  | 3 => v = .pointer (some ⟨g + 1, 0, none⟩)
  | 4 => v = .pointer (some ⟨g + 1, 0, none⟩)
  | 5 => v = .agg #[.int .i64 x1, .int .i64 x2]
  | 6 => v = .int .i64 r0
  | 7 => v = .pointer (some ⟨g + 1, 4, none⟩)
  | 8 => v = .pointer (some ⟨g + 1, 7, none⟩)
  | 9 => v = .int .i64 k1
  | 10 => v = .pointer (some ⟨g + 1, 0, none⟩)
  | 11 => v = .pointer (some ⟨g + 1, 0, none⟩)
  | 12 => v = .agg #[.int .i64 x1, .int .i64 x2]
  | 13 => v = .int .i64 r1
  | 14 => v = .int .i64 r0
  | 15 => v = .int .i64 r1
  | _ => True
theorem QI13_stays (g : Nat) (x1 : Int) (x2 : Int) (y1 : Int) (y2 : Int) (k0 : Int) (k1 : Int) (r0 : Int) (r1 : Int) : Stays (QI13 g x1 x2 y1 y2 k0 k1 r0 r1) := fun j v W W' h _ => by
  unfold QI13 at h ⊢
  split at h <;> exact h
def QI14 (g : Nat) (x1 : Int) (x2 : Int) (y1 : Int) (y2 : Int) (k0 : Int) (k1 : Int) (r0 : Int) (r1 : Int) (j : Nat) (v : Value) (_ : World) : Prop :=
  match j with
  | 0 => v = .pointer (some ⟨g + 1, 4, none⟩)
  | 1 => v = .pointer (some ⟨g + 1, 8, none⟩)
  | 2 => v = .int .i64 k0
  | 3 => v = .pointer (some ⟨g + 1, 0, none⟩)
  | 4 => v = .pointer (some ⟨g + 1, 2, none⟩)
  | 5 => v = .agg #[.int .i64 y1, .int .i64 y2]
  | 6 => v = .int .i64 r0
  | 7 => v = .pointer (some ⟨g + 1, 4, none⟩)
  | 8 => v = .pointer (some ⟨g + 1, 9, none⟩)
  | 9 => v = .int .i64 k1
  | 10 => v = .pointer (some ⟨g + 1, 0, none⟩)
  | 11 => v = .pointer (some ⟨g + 1, 2, none⟩)
  | 12 => v = .agg #[.int .i64 y1, .int .i64 y2]
  | 13 => v = .int .i64 r1
  | 14 => v = .int .i64 r0
  | 15 => v = .int .i64 r1
  | _ => True
theorem QI14_stays (g : Nat) (x1 : Int) (x2 : Int) (y1 : Int) (y2 : Int) (k0 : Int) (k1 : Int) (r0 : Int) (r1 : Int) : Stays (QI14 g x1 x2 y1 y2 k0 k1 r0 r1) := fun j v W W' h _ => by
  unfold QI14 at h ⊢
  split at h <;> exact h

set_option maxRecDepth 100000 in
set_option maxHeartbeats 4000000 in
theorem law_inside (AX AY AV : Option Addr) (nx cx ny cy nv cv B : Nat) (X Y : List Int) (V : List (List Int)) (x1 x2 y1 y2 n0 n1 n2 n3 n4 n5 : Int) (w : World) (hx : X.length = nx) (hy : Y.length = ny) (hv : V.length = nv) (hmx : nx ≤ maxLen) (hmy : ny ≤ maxLen) (hmv : nv ≤ maxLen) (hmr : ∀ r ∈ V, r.length ≤ maxLen)
    (hB : B ≤ w.heap.size) (h : TB w B AX AY AV X Y V) :
    Calls Try.prog 16 #[.agg #[.slice AX nx cx, .slice AY ny cy, .slice AV nv cv], .agg #[.int .i64 x1, .int .i64 x2, .int .i64 y1, .int .i64 y2, .int .i64 n0, .int .i64 n1, .int .i64 n2, .int .i64 n3, .int .i64 n4, .int .i64 n5]] w fun e w' => e = .returned (.bool true) ∧ Below w.heap.size w w' := by
  subst hx hy hv
  have HWK := Lib.hid works_any
  have HT := Lib.hid h
  have HFAR := Lib.hid (fun (W : World) (hW : Below w.heap.size w W) => far_any AX AY AV _ cx _ cy _ cv B X Y V W rfl rfl rfl hmx hmy hmv (by have := hW.size; omega) (h.below (hW.mono hB)))
  have S0 := VP.start w AX AY AV X.length cx Y.length cy V.length cv x1 x2 y1 y2 n0 n1 n2 n3 n4 n5 27 84
  have HS0 := Lib.hid S0
  clear h S0
  cases hf : farB X Y V with
  | true =>
    have HF := Lib.hid hf
    clear hf
    go_enter Try.func16, Try.ntmps16
    go_wp2_with (first
      | (go_at_call 17; refine Calls.mono (HFAR.out _ (by go_grown)) ?_; rintro e w4 ⟨rfl, hb4⟩; rw [HF.out])
      | (go_at_call 18; refine Calls.mono (HWK.out _) ?_; rintro e w5 ⟨rfl, hb5⟩))
    go_ret
    have hb : Below w.heap.size w w4 := Below.trans (by go_grown) (hb4.mono (by simp <;> omega))
    exact ⟨rfl, hb.trans (hb5.mono hb.size)⟩
  | false =>
  obtain ⟨f1, f2, f3, f4⟩ := farB_no hf
  have hnx : X.length ≤ 1000000 := by omega
  have hny : Y.length ≤ 1000000 := by omega
  have hnv : V.length ≤ 1000000 := by omega
  have hnr : ∀ r ∈ V, r.length ≤ 1000000 := fun r hr => by have := f4 r hr; omega
  have HF := Lib.hid hf
  clear hf f1 f2 f3 f4
  have HCB := Lib.hid (fun (W : World) (hW : Below w.heap.size w W) => checkBound_any AX AY AV _ cx _ cy _ cv B X Y V x1 x2 y1 y2 W rfl rfl rfl hmx hmy hmv hmr (by have := hW.size; omega) (HT.out.below (hW.mono hB)))
  by_cases hc : cbE X Y V x1 x2 y1 y2 = 0
  rotate_left
  · generalize cbE X Y V x1 x2 y1 y2 = c at *
    have hc' : (c != 0) = true := by rw [bne_iff_ne]; exact hc
    clear hc
    go_enter Try.func16, Try.ntmps16
    go_wp2_with (first
      | (go_at_call 17; refine Calls.mono (HFAR.out _ (by go_grown)) ?_; rintro e w1 ⟨rfl, hb1⟩; rw [HF.out]; have S1 := HS0.out.next hb1; have HS1 := Lib.hid S1; obtain ⟨t0, t1, t2, a0, a1, b0, b1, _⟩ := S1; clear hb1)
      | (go_at_call 63; refine Calls.mono (HCB.out _ HS1.out.b) ?_; rintro e w2 ⟨rfl, hb2⟩; have HB2 := Lib.hid (HS1.out.b.trans (hb2.mono HS1.out.b.size)); clear hb2 t0 t1 t2 a0 a1 b0 b1)
      | (go_at_call 18; refine Calls.mono (HWK.out _) ?_; rintro e w5 ⟨rfl, hb5⟩))
    go_ret
    exact ⟨rfl, HB2.out.trans (hb5.mono HB2.out.size)⟩
  have HC := Lib.hid hc
  have HCP := Lib.hid (fun (W : World) (hW : Below w.heap.size w W) => copy_any AX AY AV _ cx _ cy _ cv B X Y V W rfl rfl rfl hnx hny hnv hnr (by have := hW.size; omega) (HT.out.below (hW.mono hB)))
  obtain ⟨_, hv1, hv2, _⟩ := cbE_ok hc
  rw [vS_vI] at hv1 hv2
  have gx := vI_get hv1
  have gy := vI_get hv2
  have HN0 := Lib.hid (fun W => wthn_any n0 x1 x2 W (by omega) (by omega) (by omega))
  have HN1 := Lib.hid (fun W => wthn_any n1 y1 y2 W (by omega) (by omega) (by omega))
  have HN2 := Lib.hid (fun W => wthn_any n2 x1 x2 W (by omega) (by omega) (by omega))
  have HN3 := Lib.hid (fun W => wthn_any n3 x1 x2 W (by omega) (by omega) (by omega))
  have HN4 := Lib.hid (fun W => wthn_any n4 y1 y2 W (by omega) (by omega) (by omega))
  have HN5 := Lib.hid (fun W => wthn_any n5 y1 y2 W (by omega) (by omega) (by omega))
  obtain ⟨p0, p1, q0, q1, u, v, s0, z0, z1, hE, l1, l2, l3, l4, l5, l6, l7, l8⟩ := inside_all (V := V) hc (wS_in (v := n0) (show x1 ≤ x2 by omega)) (wS_in (v := n1) (show y1 ≤ y2 by omega)) (wS_in (v := n2) (show x1 ≤ x2 by omega)) (wS_in (v := n3) (show x1 ≤ x2 by omega)) (wS_in (v := n4) (show y1 ≤ y2 by omega)) (wS_in (v := n5) (show y1 ≤ y2 by omega))
  generalize wS n0 x1 x2 = r0 at *
  generalize wS n1 y1 y2 = r1 at *
  generalize wS n2 x1 x2 = r2 at *
  generalize wS n3 x1 x2 = r3 at *
  generalize wS n4 y1 y2 = r4 at *
  generalize wS n5 y1 y2 = r5 at *
  have HE := Lib.hid hE
  have HL := Lib.hid (And.intro l7 l8)
  clear hc hv1 hv2 gx gy hE l7 l8
  go_enter Try.func16, Try.ntmps16
  go_upto_region 3 with (first
      | (go_at_call 17; refine Calls.mono (HFAR.out _ (by go_grown)) ?_; rintro e w1 ⟨rfl, hb1⟩; rw [HF.out]; have S1 := HS0.out.next hb1; have HS1 := Lib.hid S1; obtain ⟨t0, t1, t2, a0, a1, b0, b1, _⟩ := S1; clear hb1)
      | (go_at_call 63; refine Calls.mono (HCB.out _ HS1.out.b) ?_; rintro e w2 ⟨rfl, hb2⟩; rw [HC.out]; have S2 := HS1.out.next hb2; have HS2 := Lib.hid S2; clear hb2 t0 t1 t2 a0 a1 b0 b1 HS1; obtain ⟨t0, t1, t2, a0, a1, b0, b1, m0, m1, m2, m3, m4, m5, _⟩ := S2))
  clear HS0 HFAR HCB HC
  go_upto_region 4 with (go_at_call 23; refine Calls.mono (HCP.out _ HS2.out.b) ?_; rintro e w3 ⟨AX', cx', AY', cy', AV', cv', rfl, htb, hb2⟩)
  have S3 := (HS2.out.next hb2).next ((Below.refl _ _).alloc (Nat.le_refl _) (.cells #[.slice AX' X.length cx', .slice AY' Y.length cy', .slice AV' V.length cv'] 27))
  have htb3 := htb.below ((Below.refl w3.heap.size w3).alloc (Nat.le_refl _) (.cells #[.slice AX' X.length cx', .slice AY' Y.length cy', .slice AV' V.length cv'] 27))
  have g0 : (w3.alloc (.cells #[.slice AX' X.length cx', .slice AY' Y.length cy', .slice AV' V.length cv'] 27)).cell? ⟨w3.heap.size, 0, none⟩ = some (.slice AX' X.length cx') := by go_simp
  have g1 : (w3.alloc (.cells #[.slice AX' X.length cx', .slice AY' Y.length cy', .slice AV' V.length cv'] 27)).cell? ⟨w3.heap.size, 1, none⟩ = some (.slice AY' Y.length cy') := by go_simp
  have g2 : (w3.alloc (.cells #[.slice AX' X.length cx', .slice AY' Y.length cy', .slice AV' V.length cv'] 27)).cell? ⟨w3.heap.size, 2, none⟩ = some (.slice AV' V.length cv') := by go_simp
  have hz2 : w3.heap.size ≤ (w3.alloc (.cells #[.slice AX' X.length cx', .slice AY' Y.length cy', .slice AV' V.length cv'] 27)).heap.size := by simp
  generalize hW3 : w3.alloc (.cells #[.slice AX' X.length cx', .slice AY' Y.length cy', .slice AV' V.length cv'] 27) = w4 at *
  have HS4 := Lib.hid S3
  have HG := Lib.hid (htb3.more hz2)
  generalize w3.heap.size = gg at *
  clear hW3 hb2 htb htb3 t0 t1 t2 a0 a1 b0 b1 m0 m1 m2 m3 m4 m5 HS2 hz2 HCP
  obtain ⟨_, _, _, a0, a1, b0, b1, m0, m1, m2, m3, m4, m5, _⟩ := S3
  have HD := Lib.hid (Below.refl w4.heap.size w4)
  have HBD := Lib.hid (fun (W : World) (hW : Below w4.heap.size w4 W) (x1 x2 y1 y2 : Int) => bound_any AX' AY' AV' _ cx' _ cy' _ cv' _ X Y V x1 x2 y1 y2 W rfl rfl rfl hmx hmy hmv hmr hW.size (HG.out.below hW))
  have HAT := Lib.hid (fun (W : World) (hW : Below w4.heap.size w4 W) (x y : Int) => at_s AX' AY' AV' _ cx' _ cy' _ cv' _ X Y V x y W rfl rfl rfl hmx hmy hmv hmr hW.size (HG.out.below hW))
  have HWT := Lib.hid (fun (W : World) (hW : Below w4.heap.size w4 W) => worst_any AX' AY' AV' _ cx' _ cy' _ cv' _ X Y V x1 x2 y1 y2 W rfl rfl rfl hmx hmy hmv hmr hW.size (HG.out.below hW))
  obtain ⟨hE1, hE2, hE3, hE4, hE5⟩ := HE.out
  have HE1 := Lib.hid hE1
  have HE2 := Lib.hid hE2
  have HE3 := Lib.hid hE3
  have HE4 := Lib.hid hE4
  have HE5 := Lib.hid hE5
  clear hE1 hE2 hE3 hE4 hE5 HE
  -- Bound
  go_upto_region 5 with (go_at_call 49; refine Calls.mono (HBD.out _ HD.out x1 x2 y1 y2) ?_; rintro e w5a ⟨rfl, hb⟩; rw [HE1.out])
  have hb' := Below.trans hb (((Below.refl w5a.heap.size w5a).alloc (Nat.le_refl _) (.cells #[.int .i64 p0, .int .i64 p1] 37)).mono hb.size)
  have c0 : (w5a.alloc (.cells #[.int .i64 p0, .int .i64 p1] 37)).cell? ⟨w5a.heap.size, 0, none⟩ = some (.int .i64 p0) := by go_simp
  have c1 : (w5a.alloc (.cells #[.int .i64 p0, .int .i64 p1] 37)).cell? ⟨w5a.heap.size, 1, none⟩ = some (.int .i64 p1) := by go_simp
  generalize hWW : w5a.alloc (.cells #[.int .i64 p0, .int .i64 p1] 37) = w5 at *
  generalize w5a.heap.size = gw at *
  have g0 := cell_keep hb' g0
  have g1 := cell_keep hb' g1
  have g2 := cell_keep hb' g2
  have S := HS4.out.next hb'
  have HS5 := Lib.hid S
  have HD := Lib.hid (HD.out.trans (hb'.mono HD.out.size))
  clear hWW hb hb' a0 a1 b0 b1 m0 m1 m2 m3 m4 m5 HS4
  obtain ⟨_, _, _, a0, a1, b0, b1, m0, m1, m2, m3, m4, m5, _⟩ := S
  have hst := QI5_stays w.heap.size x1 x2 y1 y2 n0 n1 r0 r1
  refine wpIn_wide.1 (region_inv2 (n := 9) (by kernel_rfl) (RQ (QI5 w.heap.size x1 x2 y1 y2 n0 n1 r0 r1) w5) (by kernel_rfl) rfl (RQ.start _ _ _) ?hstep ?hend)
  case hstep =>
    intro i' o ho val L b' x hF hR hpre hl
    match i', ho with
    | 0, ho =>
      simp at ho
      subst ho
      refine step_plain rfl ?_
      have e3 := hF.was 3 (by kernel_rfl) rfl
      have hgoal : ∀ v W', Below x.heap.size x W' → QI5 w.heap.size x1 x2 y1 y2 n0 n1 r0 r1 0 v W' → RQ (QI5 w.heap.size x1 x2 y1 y2 n0 n1 r0 r1) w5 (upd val 0 v) (L.setIfInBounds 0 true) W' := fun v W' hb hq => hR.step hst hb hq
      clear hF hpre hl hR
      go_simp
      exact ⟨_, rfl, hgoal _ _ (Below.refl _ _) rfl⟩
    | 1, ho =>
      simp at ho
      subst ho
      refine step_plain rfl ?_
      have e50 := hF.gave 0 rfl (hpre ⟨0, .data⟩ (by simp) rfl) rfl
      have v0 := hR.2 0 (hpre ⟨0, .data⟩ (by simp) rfl)
      rw [show val 0 = .pointer (some ⟨w.heap.size + 1, 4, none⟩) from v0] at e50
      clear v0
      have hgoal : ∀ v W', Below x.heap.size x W' → QI5 w.heap.size x1 x2 y1 y2 n0 n1 r0 r1 1 v W' → RQ (QI5 w.heap.size x1 x2 y1 y2 n0 n1 r0 r1) w5 (upd val 1 v) (L.setIfInBounds 1 true) W' := fun v W' hb hq => hR.step hst hb hq
      clear hF hpre hl hR
      go_simp
      exact ⟨_, rfl, hgoal _ _ (Below.refl _ _) rfl⟩
    | 2, ho =>
      simp at ho
      subst ho
      refine step_plain rfl ?_
      have e51 := hF.gave 1 rfl (hpre ⟨1, .data⟩ (by simp) rfl) rfl
      have v1 := hR.2 1 (hpre ⟨1, .data⟩ (by simp) rfl)
      rw [show val 1 = .pointer (some ⟨w.heap.size + 1, 4, none⟩) from v1] at e51
      clear v1
      have hgoal : ∀ v W', Below x.heap.size x W' → QI5 w.heap.size x1 x2 y1 y2 n0 n1 r0 r1 2 v W' → RQ (QI5 w.heap.size x1 x2 y1 y2 n0 n1 r0 r1) w5 (upd val 2 v) (L.setIfInBounds 2 true) W' := fun v W' hb hq => hR.step hst hb hq
      have q0 := cell_keep hR.1 a0
      have q1 := cell_keep hR.1 a1
      have q2 := cell_keep hR.1 b0
      have q3 := cell_keep hR.1 b1
      have q4 := cell_keep hR.1 m0
      have q5 := cell_keep hR.1 m1
      have q6 := cell_keep hR.1 m2
      have q7 := cell_keep hR.1 m3
      have q8 := cell_keep hR.1 m4
      have q9 := cell_keep hR.1 m5
      clear hF hpre hl hR
      go_simp
      exact ⟨_, rfl, hgoal _ _ (Below.refl _ _) rfl⟩
    | 3, ho =>
      simp at ho
      subst ho
      refine step_plain rfl ?_
      have e3 := hF.was 3 (by kernel_rfl) rfl
      have hgoal : ∀ v W', Below x.heap.size x W' → QI5 w.heap.size x1 x2 y1 y2 n0 n1 r0 r1 3 v W' → RQ (QI5 w.heap.size x1 x2 y1 y2 n0 n1 r0 r1) w5 (upd val 3 v) (L.setIfInBounds 3 true) W' := fun v W' hb hq => hR.step hst hb hq
      clear hF hpre hl hR
      go_simp
      exact ⟨_, rfl, hgoal _ _ (Below.refl _ _) rfl⟩
    | 4, ho =>
      simp at ho
      subst ho
      refine step_plain rfl ?_
      have e53 := hF.gave 3 rfl (hpre ⟨3, .data⟩ (by simp) rfl) rfl
      have v3 := hR.2 3 (hpre ⟨3, .data⟩ (by simp) rfl)
      rw [show val 3 = .pointer (some ⟨w.heap.size + 1, 0, none⟩) from v3] at e53
      clear v3
      have hgoal : ∀ v W', Below x.heap.size x W' → QI5 w.heap.size x1 x2 y1 y2 n0 n1 r0 r1 4 v W' → RQ (QI5 w.heap.size x1 x2 y1 y2 n0 n1 r0 r1) w5 (upd val 4 v) (L.setIfInBounds 4 true) W' := fun v W' hb hq => hR.step hst hb hq
      clear hF hpre hl hR
      go_simp
      exact ⟨_, rfl, hgoal _ _ (Below.refl _ _) rfl⟩
    | 5, ho =>
      simp at ho
      subst ho
      refine step_plain rfl ?_
      have e54 := hF.gave 4 rfl (hpre ⟨4, .data⟩ (by simp) rfl) rfl
      have v4 := hR.2 4 (hpre ⟨4, .data⟩ (by simp) rfl)
      rw [show val 4 = .pointer (some ⟨w.heap.size + 1, 0, none⟩) from v4] at e54
      clear v4
      have hgoal : ∀ v W', Below x.heap.size x W' → QI5 w.heap.size x1 x2 y1 y2 n0 n1 r0 r1 5 v W' → RQ (QI5 w.heap.size x1 x2 y1 y2 n0 n1 r0 r1) w5 (upd val 5 v) (L.setIfInBounds 5 true) W' := fun v W' hb hq => hR.step hst hb hq
      have q0 := cell_keep hR.1 a0
      have q1 := cell_keep hR.1 a1
      have q2 := cell_keep hR.1 b0
      have q3 := cell_keep hR.1 b1
      have q4 := cell_keep hR.1 m0
      have q5 := cell_keep hR.1 m1
      have q6 := cell_keep hR.1 m2
      have q7 := cell_keep hR.1 m3
      have q8 := cell_keep hR.1 m4
      have q9 := cell_keep hR.1 m5
      clear hF hpre hl hR
      go_simp
      exact ⟨_, rfl, hgoal _ _ (Below.refl _ _) rfl⟩
    | 6, ho =>
      simp at ho
      subst ho
      refine step_plain rfl ?_
      have e52 := hF.gave 2 rfl (hpre ⟨2, .data⟩ (by simp) rfl) rfl
      have v2 := hR.2 2 (hpre ⟨2, .data⟩ (by simp) rfl)
      rw [show val 2 = .int .i64 n0 from v2] at e52
      clear v2
      have e55 := hF.gave 5 rfl (hpre ⟨5, .data⟩ (by simp) rfl) rfl
      have v5 := hR.2 5 (hpre ⟨5, .data⟩ (by simp) rfl)
      rw [show val 5 = .agg #[.int .i64 x1, .int .i64 x2] from v5] at e55
      clear v5
      have hgoal : ∀ v W', Below x.heap.size x W' → QI5 w.heap.size x1 x2 y1 y2 n0 n1 r0 r1 6 v W' → RQ (QI5 w.heap.size x1 x2 y1 y2 n0 n1 r0 r1) w5 (upd val 6 v) (L.setIfInBounds 6 true) W' := fun v W' hb hq => hR.step hst hb hq
      have q0 := cell_keep hR.1 a0
      have q1 := cell_keep hR.1 a1
      have q2 := cell_keep hR.1 b0
      have q3 := cell_keep hR.1 b1
      have q4 := cell_keep hR.1 m0
      have q5 := cell_keep hR.1 m1
      have q6 := cell_keep hR.1 m2
      have q7 := cell_keep hR.1 m3
      have q8 := cell_keep hR.1 m4
      have q9 := cell_keep hR.1 m5
      have hM := Lib.hid hR.1
      clear hF hpre hl hR
      go_simp
      refine ⟨trivial, ?_⟩
      refine CallsIn.mono (callsIn_wide.2 (HN0.out _)) ?_
      rintro e y9 ⟨rfl, hb9⟩
      exact ⟨_, rfl, hgoal _ _ hb9 rfl⟩
    | 7, ho =>
      simp at ho
      subst ho
      refine step_plain rfl ?_
      have e3 := hF.was 3 (by kernel_rfl) rfl
      have hgoal : ∀ v W', Below x.heap.size x W' → QI5 w.heap.size x1 x2 y1 y2 n0 n1 r0 r1 7 v W' → RQ (QI5 w.heap.size x1 x2 y1 y2 n0 n1 r0 r1) w5 (upd val 7 v) (L.setIfInBounds 7 true) W' := fun v W' hb hq => hR.step hst hb hq
      clear hF hpre hl hR
      go_simp
      exact ⟨_, rfl, hgoal _ _ (Below.refl _ _) rfl⟩
    | 8, ho =>
      simp at ho
      subst ho
      refine step_plain rfl ?_
      have e57 := hF.gave 7 rfl (hpre ⟨7, .data⟩ (by simp) rfl) rfl
      have v7 := hR.2 7 (hpre ⟨7, .data⟩ (by simp) rfl)
      rw [show val 7 = .pointer (some ⟨w.heap.size + 1, 4, none⟩) from v7] at e57
      clear v7
      have hgoal : ∀ v W', Below x.heap.size x W' → QI5 w.heap.size x1 x2 y1 y2 n0 n1 r0 r1 8 v W' → RQ (QI5 w.heap.size x1 x2 y1 y2 n0 n1 r0 r1) w5 (upd val 8 v) (L.setIfInBounds 8 true) W' := fun v W' hb hq => hR.step hst hb hq
      clear hF hpre hl hR
      go_simp
      exact ⟨_, rfl, hgoal _ _ (Below.refl _ _) rfl⟩
    | 9, ho =>
      simp at ho
      subst ho
      refine step_plain rfl ?_
      have e58 := hF.gave 8 rfl (hpre ⟨8, .data⟩ (by simp) rfl) rfl
      have v8 := hR.2 8 (hpre ⟨8, .data⟩ (by simp) rfl)
      rw [show val 8 = .pointer (some ⟨w.heap.size + 1, 5, none⟩) from v8] at e58
      clear v8
      have hgoal : ∀ v W', Below x.heap.size x W' → QI5 w.heap.size x1 x2 y1 y2 n0 n1 r0 r1 9 v W' → RQ (QI5 w.heap.size x1 x2 y1 y2 n0 n1 r0 r1) w5 (upd val 9 v) (L.setIfInBounds 9 true) W' := fun v W' hb hq => hR.step hst hb hq
      have q0 := cell_keep hR.1 a0
      have q1 := cell_keep hR.1 a1
      have q2 := cell_keep hR.1 b0
      have q3 := cell_keep hR.1 b1
      have q4 := cell_keep hR.1 m0
      have q5 := cell_keep hR.1 m1
      have q6 := cell_keep hR.1 m2
      have q7 := cell_keep hR.1 m3
      have q8 := cell_keep hR.1 m4
      have q9 := cell_keep hR.1 m5
      clear hF hpre hl hR
      go_simp
      exact ⟨_, rfl, hgoal _ _ (Below.refl _ _) rfl⟩
    | 10, ho =>
      simp at ho
      subst ho
      refine step_plain rfl ?_
      have e3 := hF.was 3 (by kernel_rfl) rfl
      have hgoal : ∀ v W', Below x.heap.size x W' → QI5 w.heap.size x1 x2 y1 y2 n0 n1 r0 r1 10 v W' → RQ (QI5 w.heap.size x1 x2 y1 y2 n0 n1 r0 r1) w5 (upd val 10 v) (L.setIfInBounds 10 true) W' := fun v W' hb hq => hR.step hst hb hq
      clear hF hpre hl hR
      go_simp
      exact ⟨_, rfl, hgoal _ _ (Below.refl _ _) rfl⟩
    | 11, ho =>
      simp at ho
      subst ho
      refine step_plain rfl ?_
      have e60 := hF.gave 10 rfl (hpre ⟨10, .data⟩ (by simp) rfl) rfl
      have v10 := hR.2 10 (hpre ⟨10, .data⟩ (by simp) rfl)
      rw [show val 10 = .pointer (some ⟨w.heap.size + 1, 0, none⟩) from v10] at e60
      clear v10
      have hgoal : ∀ v W', Below x.heap.size x W' → QI5 w.heap.size x1 x2 y1 y2 n0 n1 r0 r1 11 v W' → RQ (QI5 w.heap.size x1 x2 y1 y2 n0 n1 r0 r1) w5 (upd val 11 v) (L.setIfInBounds 11 true) W' := fun v W' hb hq => hR.step hst hb hq
      clear hF hpre hl hR
      go_simp
      exact ⟨_, rfl, hgoal _ _ (Below.refl _ _) rfl⟩
    | 12, ho =>
      simp at ho
      subst ho
      refine step_plain rfl ?_
      have e61 := hF.gave 11 rfl (hpre ⟨11, .data⟩ (by simp) rfl) rfl
      have v11 := hR.2 11 (hpre ⟨11, .data⟩ (by simp) rfl)
      rw [show val 11 = .pointer (some ⟨w.heap.size + 1, 2, none⟩) from v11] at e61
      clear v11
      have hgoal : ∀ v W', Below x.heap.size x W' → QI5 w.heap.size x1 x2 y1 y2 n0 n1 r0 r1 12 v W' → RQ (QI5 w.heap.size x1 x2 y1 y2 n0 n1 r0 r1) w5 (upd val 12 v) (L.setIfInBounds 12 true) W' := fun v W' hb hq => hR.step hst hb hq
      have q0 := cell_keep hR.1 a0
      have q1 := cell_keep hR.1 a1
      have q2 := cell_keep hR.1 b0
      have q3 := cell_keep hR.1 b1
      have q4 := cell_keep hR.1 m0
      have q5 := cell_keep hR.1 m1
      have q6 := cell_keep hR.1 m2
      have q7 := cell_keep hR.1 m3
      have q8 := cell_keep hR.1 m4
      have q9 := cell_keep hR.1 m5
      clear hF hpre hl hR
      go_simp
      exact ⟨_, rfl, hgoal _ _ (Below.refl _ _) rfl⟩
    | 13, ho =>
      simp at ho
      subst ho
      refine step_plain rfl ?_
      have e59 := hF.gave 9 rfl (hpre ⟨9, .data⟩ (by simp) rfl) rfl
      have v9 := hR.2 9 (hpre ⟨9, .data⟩ (by simp) rfl)
      rw [show val 9 = .int .i64 n1 from v9] at e59
      clear v9
      have e62 := hF.gave 12 rfl (hpre ⟨12, .data⟩ (by simp) rfl) rfl
      have v12 := hR.2 12 (hpre ⟨12, .data⟩ (by simp) rfl)
      rw [show val 12 = .agg #[.int .i64 y1, .int .i64 y2] from v12] at e62
      clear v12
      have hgoal : ∀ v W', Below x.heap.size x W' → QI5 w.heap.size x1 x2 y1 y2 n0 n1 r0 r1 13 v W' → RQ (QI5 w.heap.size x1 x2 y1 y2 n0 n1 r0 r1) w5 (upd val 13 v) (L.setIfInBounds 13 true) W' := fun v W' hb hq => hR.step hst hb hq
      have q0 := cell_keep hR.1 a0
      have q1 := cell_keep hR.1 a1
      have q2 := cell_keep hR.1 b0
      have q3 := cell_keep hR.1 b1
      have q4 := cell_keep hR.1 m0
      have q5 := cell_keep hR.1 m1
      have q6 := cell_keep hR.1 m2
      have q7 := cell_keep hR.1 m3
      have q8 := cell_keep hR.1 m4
      have q9 := cell_keep hR.1 m5
      have hM := Lib.hid hR.1
      clear hF hpre hl hR
      go_simp
      refine ⟨trivial, ?_⟩
      refine CallsIn.mono (callsIn_wide.2 (HN1.out _)) ?_
      rintro e y9 ⟨rfl, hb9⟩
      exact ⟨_, rfl, hgoal _ _ hb9 rfl⟩
    | 14, ho =>
      simp at ho
      subst ho
      refine step_plain rfl ?_
      have e56 := hF.gave 6 rfl (hpre ⟨6, .data⟩ (by simp) rfl) rfl
      have v6 := hR.2 6 (hpre ⟨6, .data⟩ (by simp) rfl)
      rw [show val 6 = .int .i64 r0 from v6] at e56
      clear v6
      have hgoal : ∀ v W', Below x.heap.size x W' → QI5 w.heap.size x1 x2 y1 y2 n0 n1 r0 r1 14 v W' → RQ (QI5 w.heap.size x1 x2 y1 y2 n0 n1 r0 r1) w5 (upd val 14 v) (L.setIfInBounds 14 true) W' := fun v W' hb hq => hR.step hst hb hq
      clear hF hpre hl hR
      go_simp
      exact ⟨_, rfl, hgoal _ _ (Below.refl _ _) rfl⟩
    | 15, ho =>
      simp at ho
      subst ho
      refine step_plain rfl ?_
      have e63 := hF.gave 13 rfl (hpre ⟨13, .data⟩ (by simp) rfl) rfl
      have v13 := hR.2 13 (hpre ⟨13, .data⟩ (by simp) rfl)
      rw [show val 13 = .int .i64 r1 from v13] at e63
      clear v13
      have hgoal : ∀ v W', Below x.heap.size x W' → QI5 w.heap.size x1 x2 y1 y2 n0 n1 r0 r1 15 v W' → RQ (QI5 w.heap.size x1 x2 y1 y2 n0 n1 r0 r1) w5 (upd val 15 v) (L.setIfInBounds 15 true) W' := fun v W' hb hq => hR.step hst hb hq
      clear hF hpre hl hR
      go_simp
      exact ⟨_, rfl, hgoal _ _ (Below.refl _ _) rfl⟩
    | i + 16, ho => simp at ho
  case hend =>
  intro val L b' w6 hF hall hR
  have e := hF.all (by kernel_rfl) hall
  have v14' := hR.2 14 (hall 14 (by decide))
  have v15' := hR.2 15 (hall 15 (by decide))
  have hb := hR.1
  have g0 := cell_keep hb g0
  have g1 := cell_keep hb g1
  have g2 := cell_keep hb g2
  have c0 := cell_keep hb c0
  have c1 := cell_keep hb c1
  have S := HS5.out.next hb
  have HS6 := Lib.hid S
  have HD := Lib.hid (HD.out.trans (hb.mono HD.out.size))
  clear hF hall hR hst hb a0 a1 b0 b1 m0 m1 m2 m3 m4 m5 HS5
  obtain ⟨_, _, _, a0, a1, b0, b1, m0, m1, m2, m3, m4, m5, _⟩ := S
  subst e
  simp [final, dstOf, List.range, List.range.loop]
  rw [show val 14 = .int .i64 r0 from v14', show val 15 = .int .i64 r1 from v15']
  clear v14' v15'
  generalize val 0 = zz0, val 1 = zz1, val 2 = zz2, val 3 = zz3, val 4 = zz4, val 5 = zz5, val 6 = zz6, val 7 = zz7, val 8 = zz8, val 9 = zz9, val 10 = zz10, val 11 = zz11, val 12 = zz12, val 13 = zz13
  -- At
  go_upto_region 7 with (go_at_call 45; refine Calls.mono (HAT.out _ HD.out r0 r1) ?_; rintro e w7a ⟨rfl, hb⟩; rw [HE2.out])
  have hb' := Below.trans hb (((Below.refl w7a.heap.size w7a).alloc (Nat.le_refl _) (.cells #[.int .i64 q0, .int .i64 q1] 37)).mono hb.size)
  have d0 : (w7a.alloc (.cells #[.int .i64 q0, .int .i64 q1] 37)).cell? ⟨w7a.heap.size, 0, none⟩ = some (.int .i64 q0) := by go_simp
  have d1 : (w7a.alloc (.cells #[.int .i64 q0, .int .i64 q1] 37)).cell? ⟨w7a.heap.size, 1, none⟩ = some (.int .i64 q1) := by go_simp
  generalize hWW : w7a.alloc (.cells #[.int .i64 q0, .int .i64 q1] 37) = w7 at *
  generalize w7a.heap.size = ga at *
  have g0 := cell_keep hb' g0
  have g1 := cell_keep hb' g1
  have g2 := cell_keep hb' g2
  have c0 := cell_keep hb' c0
  have c1 := cell_keep hb' c1
  have S := HS6.out.next hb'
  have HS7 := Lib.hid S
  have HD := Lib.hid (HD.out.trans (hb'.mono HD.out.size))
  clear hWW hb hb' a0 a1 b0 b1 m0 m1 m2 m3 m4 m5 HS6
  obtain ⟨_, _, _, a0, a1, b0, b1, m0, m1, m2, m3, m4, m5, _⟩ := S
  -- Worst
  go_upto_region 8 with (go_at_call 51; refine Calls.mono (HWT.out _ HD.out) ?_; rintro e w8 ⟨rfl, hb⟩; rw [HE3.out])
  have g0 := cell_keep hb g0
  have g1 := cell_keep hb g1
  have g2 := cell_keep hb g2
  have c0 := cell_keep hb c0
  have c1 := cell_keep hb c1
  have d0 := cell_keep hb d0
  have d1 := cell_keep hb d1
  have S := HS7.out.next hb
  have HS8 := Lib.hid S
  have HD := Lib.hid (HD.out.trans (hb.mono HD.out.size))
  clear hb a0 a1 b0 b1 m0 m1 m2 m3 m4 m5 HS7
  obtain ⟨_, _, _, a0, a1, b0, b1, m0, m1, m2, m3, m4, m5, _⟩ := S
  go_upto_region 10 with fail
  clear d0 d1
  go_upto_region 11 with (go_at_call 45; refine Calls.mono (HAT.out _ HD.out u v) ?_; rintro e w9a ⟨rfl, hb⟩; rw [HE4.out])
  have hb' := Below.trans hb (((Below.refl w9a.heap.size w9a).alloc (Nat.le_refl _) (.cells #[.int .i64 s0, .int .i64 p1] 37)).mono hb.size)
  have d0 : (w9a.alloc (.cells #[.int .i64 s0, .int .i64 p1] 37)).cell? ⟨w9a.heap.size, 0, none⟩ = some (.int .i64 s0) := by go_simp
  have d1 : (w9a.alloc (.cells #[.int .i64 s0, .int .i64 p1] 37)).cell? ⟨w9a.heap.size, 1, none⟩ = some (.int .i64 p1) := by go_simp
  generalize hWW : w9a.alloc (.cells #[.int .i64 s0, .int .i64 p1] 37) = w9 at *
  generalize w9a.heap.size = gt at *
  have g0 := cell_keep hb' g0
  have g1 := cell_keep hb' g1
  have g2 := cell_keep hb' g2
  have c0 := cell_keep hb' c0
  have c1 := cell_keep hb' c1
  have S := HS8.out.next hb'
  have HS9 := Lib.hid S
  have HD := Lib.hid (HD.out.trans (hb'.mono HD.out.size))
  clear hWW hb hb' a0 a1 b0 b1 m0 m1 m2 m3 m4 m5 HS8
  obtain ⟨_, _, _, a0, a1, b0, b1, m0, m1, m2, m3, m4, m5, _⟩ := S
  go_upto_region 13 with fail
  clear d0 d1
  generalize hw11 : w9 = w11 at *
  have hst := QI13_stays w.heap.size x1 x2 y1 y2 n2 n3 r2 r3
  refine wpIn_wide.1 (region_inv2 (n := 9) (by kernel_rfl) (RQ (QI13 w.heap.size x1 x2 y1 y2 n2 n3 r2 r3) w11) (by kernel_rfl) rfl (RQ.start _ _ _) ?hstep ?hend)
  case hstep =>
    intro i' o ho val L b' x hF hR hpre hl
    match i', ho with
    | 0, ho =>
      simp at ho
      subst ho
      refine step_plain rfl ?_
      have e3 := hF.was 3 (by kernel_rfl) rfl
      have hgoal : ∀ v W', Below x.heap.size x W' → QI13 w.heap.size x1 x2 y1 y2 n2 n3 r2 r3 0 v W' → RQ (QI13 w.heap.size x1 x2 y1 y2 n2 n3 r2 r3) w11 (upd val 0 v) (L.setIfInBounds 0 true) W' := fun v W' hb hq => hR.step hst hb hq
      clear hF hpre hl hR
      go_simp
      exact ⟨_, rfl, hgoal _ _ (Below.refl _ _) rfl⟩
    | 1, ho =>
      simp at ho
      subst ho
      refine step_plain rfl ?_
      have e155 := hF.gave 0 rfl (hpre ⟨0, .data⟩ (by simp) rfl) rfl
      have v0 := hR.2 0 (hpre ⟨0, .data⟩ (by simp) rfl)
      rw [show val 0 = .pointer (some ⟨w.heap.size + 1, 4, none⟩) from v0] at e155
      clear v0
      have hgoal : ∀ v W', Below x.heap.size x W' → QI13 w.heap.size x1 x2 y1 y2 n2 n3 r2 r3 1 v W' → RQ (QI13 w.heap.size x1 x2 y1 y2 n2 n3 r2 r3) w11 (upd val 1 v) (L.setIfInBounds 1 true) W' := fun v W' hb hq => hR.step hst hb hq
      clear hF hpre hl hR
      go_simp
      exact ⟨_, rfl, hgoal _ _ (Below.refl _ _) rfl⟩
    | 2, ho =>
      simp at ho
      subst ho
      refine step_plain rfl ?_
      have e156 := hF.gave 1 rfl (hpre ⟨1, .data⟩ (by simp) rfl) rfl
      have v1 := hR.2 1 (hpre ⟨1, .data⟩ (by simp) rfl)
      rw [show val 1 = .pointer (some ⟨w.heap.size + 1, 6, none⟩) from v1] at e156
      clear v1
      have hgoal : ∀ v W', Below x.heap.size x W' → QI13 w.heap.size x1 x2 y1 y2 n2 n3 r2 r3 2 v W' → RQ (QI13 w.heap.size x1 x2 y1 y2 n2 n3 r2 r3) w11 (upd val 2 v) (L.setIfInBounds 2 true) W' := fun v W' hb hq => hR.step hst hb hq
      have q0 := cell_keep hR.1 a0
      have q1 := cell_keep hR.1 a1
      have q2 := cell_keep hR.1 b0
      have q3 := cell_keep hR.1 b1
      have q4 := cell_keep hR.1 m0
      have q5 := cell_keep hR.1 m1
      have q6 := cell_keep hR.1 m2
      have q7 := cell_keep hR.1 m3
      have q8 := cell_keep hR.1 m4
      have q9 := cell_keep hR.1 m5
      clear hF hpre hl hR
      go_simp
      exact ⟨_, rfl, hgoal _ _ (Below.refl _ _) rfl⟩
    | 3, ho =>
      simp at ho
      subst ho
      refine step_plain rfl ?_
      have e3 := hF.was 3 (by kernel_rfl) rfl
      have hgoal : ∀ v W', Below x.heap.size x W' → QI13 w.heap.size x1 x2 y1 y2 n2 n3 r2 r3 3 v W' → RQ (QI13 w.heap.size x1 x2 y1 y2 n2 n3 r2 r3) w11 (upd val 3 v) (L.setIfInBounds 3 true) W' := fun v W' hb hq => hR.step hst hb hq
      clear hF hpre hl hR
      go_simp
      exact ⟨_, rfl, hgoal _ _ (Below.refl _ _) rfl⟩
    | 4, ho =>
      simp at ho
      subst ho
      refine step_plain rfl ?_
      have e158 := hF.gave 3 rfl (hpre ⟨3, .data⟩ (by simp) rfl) rfl
      have v3 := hR.2 3 (hpre ⟨3, .data⟩ (by simp) rfl)
      rw [show val 3 = .pointer (some ⟨w.heap.size + 1, 0, none⟩) from v3] at e158
      clear v3
      have hgoal : ∀ v W', Below x.heap.size x W' → QI13 w.heap.size x1 x2 y1 y2 n2 n3 r2 r3 4 v W' → RQ (QI13 w.heap.size x1 x2 y1 y2 n2 n3 r2 r3) w11 (upd val 4 v) (L.setIfInBounds 4 true) W' := fun v W' hb hq => hR.step hst hb hq
      clear hF hpre hl hR
      go_simp
      exact ⟨_, rfl, hgoal _ _ (Below.refl _ _) rfl⟩
    | 5, ho =>
      simp at ho
      subst ho
      refine step_plain rfl ?_
      have e159 := hF.gave 4 rfl (hpre ⟨4, .data⟩ (by simp) rfl) rfl
      have v4 := hR.2 4 (hpre ⟨4, .data⟩ (by simp) rfl)
      rw [show val 4 = .pointer (some ⟨w.heap.size + 1, 0, none⟩) from v4] at e159
      clear v4
      have hgoal : ∀ v W', Below x.heap.size x W' → QI13 w.heap.size x1 x2 y1 y2 n2 n3 r2 r3 5 v W' → RQ (QI13 w.heap.size x1 x2 y1 y2 n2 n3 r2 r3) w11 (upd val 5 v) (L.setIfInBounds 5 true) W' := fun v W' hb hq => hR.step hst hb hq
      have q0 := cell_keep hR.1 a0
      have q1 := cell_keep hR.1 a1
      have q2 := cell_keep hR.1 b0
      have q3 := cell_keep hR.1 b1
      have q4 := cell_keep hR.1 m0
      have q5 := cell_keep hR.1 m1
      have q6 := cell_keep hR.1 m2
      have q7 := cell_keep hR.1 m3
      have q8 := cell_keep hR.1 m4
      have q9 := cell_keep hR.1 m5
      clear hF hpre hl hR
      go_simp
      exact ⟨_, rfl, hgoal _ _ (Below.refl _ _) rfl⟩
    | 6, ho =>
      simp at ho
      subst ho
      refine step_plain rfl ?_
      have e157 := hF.gave 2 rfl (hpre ⟨2, .data⟩ (by simp) rfl) rfl
      have v2 := hR.2 2 (hpre ⟨2, .data⟩ (by simp) rfl)
      rw [show val 2 = .int .i64 n2 from v2] at e157
      clear v2
      have e160 := hF.gave 5 rfl (hpre ⟨5, .data⟩ (by simp) rfl) rfl
      have v5 := hR.2 5 (hpre ⟨5, .data⟩ (by simp) rfl)
      rw [show val 5 = .agg #[.int .i64 x1, .int .i64 x2] from v5] at e160
      clear v5
      have hgoal : ∀ v W', Below x.heap.size x W' → QI13 w.heap.size x1 x2 y1 y2 n2 n3 r2 r3 6 v W' → RQ (QI13 w.heap.size x1 x2 y1 y2 n2 n3 r2 r3) w11 (upd val 6 v) (L.setIfInBounds 6 true) W' := fun v W' hb hq => hR.step hst hb hq
      have q0 := cell_keep hR.1 a0
      have q1 := cell_keep hR.1 a1
      have q2 := cell_keep hR.1 b0
      have q3 := cell_keep hR.1 b1
      have q4 := cell_keep hR.1 m0
      have q5 := cell_keep hR.1 m1
      have q6 := cell_keep hR.1 m2
      have q7 := cell_keep hR.1 m3
      have q8 := cell_keep hR.1 m4
      have q9 := cell_keep hR.1 m5
      have hM := Lib.hid hR.1
      clear hF hpre hl hR
      go_simp
      refine ⟨trivial, ?_⟩
      refine CallsIn.mono (callsIn_wide.2 (HN2.out _)) ?_
      rintro e y9 ⟨rfl, hb9⟩
      exact ⟨_, rfl, hgoal _ _ hb9 rfl⟩
    | 7, ho =>
      simp at ho
      subst ho
      refine step_plain rfl ?_
      have e3 := hF.was 3 (by kernel_rfl) rfl
      have hgoal : ∀ v W', Below x.heap.size x W' → QI13 w.heap.size x1 x2 y1 y2 n2 n3 r2 r3 7 v W' → RQ (QI13 w.heap.size x1 x2 y1 y2 n2 n3 r2 r3) w11 (upd val 7 v) (L.setIfInBounds 7 true) W' := fun v W' hb hq => hR.step hst hb hq
      clear hF hpre hl hR
      go_simp
      exact ⟨_, rfl, hgoal _ _ (Below.refl _ _) rfl⟩
    | 8, ho =>
      simp at ho
      subst ho
      refine step_plain rfl ?_
      have e162 := hF.gave 7 rfl (hpre ⟨7, .data⟩ (by simp) rfl) rfl
      have v7 := hR.2 7 (hpre ⟨7, .data⟩ (by simp) rfl)
      rw [show val 7 = .pointer (some ⟨w.heap.size + 1, 4, none⟩) from v7] at e162
      clear v7
      have hgoal : ∀ v W', Below x.heap.size x W' → QI13 w.heap.size x1 x2 y1 y2 n2 n3 r2 r3 8 v W' → RQ (QI13 w.heap.size x1 x2 y1 y2 n2 n3 r2 r3) w11 (upd val 8 v) (L.setIfInBounds 8 true) W' := fun v W' hb hq => hR.step hst hb hq
      clear hF hpre hl hR
      go_simp
      exact ⟨_, rfl, hgoal _ _ (Below.refl _ _) rfl⟩
    | 9, ho =>
      simp at ho
      subst ho
      refine step_plain rfl ?_
      have e163 := hF.gave 8 rfl (hpre ⟨8, .data⟩ (by simp) rfl) rfl
      have v8 := hR.2 8 (hpre ⟨8, .data⟩ (by simp) rfl)
      rw [show val 8 = .pointer (some ⟨w.heap.size + 1, 7, none⟩) from v8] at e163
      clear v8
      have hgoal : ∀ v W', Below x.heap.size x W' → QI13 w.heap.size x1 x2 y1 y2 n2 n3 r2 r3 9 v W' → RQ (QI13 w.heap.size x1 x2 y1 y2 n2 n3 r2 r3) w11 (upd val 9 v) (L.setIfInBounds 9 true) W' := fun v W' hb hq => hR.step hst hb hq
      have q0 := cell_keep hR.1 a0
      have q1 := cell_keep hR.1 a1
      have q2 := cell_keep hR.1 b0
      have q3 := cell_keep hR.1 b1
      have q4 := cell_keep hR.1 m0
      have q5 := cell_keep hR.1 m1
      have q6 := cell_keep hR.1 m2
      have q7 := cell_keep hR.1 m3
      have q8 := cell_keep hR.1 m4
      have q9 := cell_keep hR.1 m5
      clear hF hpre hl hR
      go_simp
      exact ⟨_, rfl, hgoal _ _ (Below.refl _ _) rfl⟩
    | 10, ho =>
      simp at ho
      subst ho
      refine step_plain rfl ?_
      have e3 := hF.was 3 (by kernel_rfl) rfl
      have hgoal : ∀ v W', Below x.heap.size x W' → QI13 w.heap.size x1 x2 y1 y2 n2 n3 r2 r3 10 v W' → RQ (QI13 w.heap.size x1 x2 y1 y2 n2 n3 r2 r3) w11 (upd val 10 v) (L.setIfInBounds 10 true) W' := fun v W' hb hq => hR.step hst hb hq
      clear hF hpre hl hR
      go_simp
      exact ⟨_, rfl, hgoal _ _ (Below.refl _ _) rfl⟩
    | 11, ho =>
      simp at ho
      subst ho
      refine step_plain rfl ?_
      have e165 := hF.gave 10 rfl (hpre ⟨10, .data⟩ (by simp) rfl) rfl
      have v10 := hR.2 10 (hpre ⟨10, .data⟩ (by simp) rfl)
      rw [show val 10 = .pointer (some ⟨w.heap.size + 1, 0, none⟩) from v10] at e165
      clear v10
      have hgoal : ∀ v W', Below x.heap.size x W' → QI13 w.heap.size x1 x2 y1 y2 n2 n3 r2 r3 11 v W' → RQ (QI13 w.heap.size x1 x2 y1 y2 n2 n3 r2 r3) w11 (upd val 11 v) (L.setIfInBounds 11 true) W' := fun v W' hb hq => hR.step hst hb hq
      clear hF hpre hl hR
      go_simp
      exact ⟨_, rfl, hgoal _ _ (Below.refl _ _) rfl⟩
    | 12, ho =>
      simp at ho
      subst ho
      refine step_plain rfl ?_
      have e166 := hF.gave 11 rfl (hpre ⟨11, .data⟩ (by simp) rfl) rfl
      have v11 := hR.2 11 (hpre ⟨11, .data⟩ (by simp) rfl)
      rw [show val 11 = .pointer (some ⟨w.heap.size + 1, 0, none⟩) from v11] at e166
      clear v11
      have hgoal : ∀ v W', Below x.heap.size x W' → QI13 w.heap.size x1 x2 y1 y2 n2 n3 r2 r3 12 v W' → RQ (QI13 w.heap.size x1 x2 y1 y2 n2 n3 r2 r3) w11 (upd val 12 v) (L.setIfInBounds 12 true) W' := fun v W' hb hq => hR.step hst hb hq
      have q0 := cell_keep hR.1 a0
      have q1 := cell_keep hR.1 a1
      have q2 := cell_keep hR.1 b0
      have q3 := cell_keep hR.1 b1
      have q4 := cell_keep hR.1 m0
      have q5 := cell_keep hR.1 m1
      have q6 := cell_keep hR.1 m2
      have q7 := cell_keep hR.1 m3
      have q8 := cell_keep hR.1 m4
      have q9 := cell_keep hR.1 m5
      clear hF hpre hl hR
      go_simp
      exact ⟨_, rfl, hgoal _ _ (Below.refl _ _) rfl⟩
    | 13, ho =>
      simp at ho
      subst ho
      refine step_plain rfl ?_
      have e164 := hF.gave 9 rfl (hpre ⟨9, .data⟩ (by simp) rfl) rfl
      have v9 := hR.2 9 (hpre ⟨9, .data⟩ (by simp) rfl)
      rw [show val 9 = .int .i64 n3 from v9] at e164
      clear v9
      have e167 := hF.gave 12 rfl (hpre ⟨12, .data⟩ (by simp) rfl) rfl
      have v12 := hR.2 12 (hpre ⟨12, .data⟩ (by simp) rfl)
      rw [show val 12 = .agg #[.int .i64 x1, .int .i64 x2] from v12] at e167
      clear v12
      have hgoal : ∀ v W', Below x.heap.size x W' → QI13 w.heap.size x1 x2 y1 y2 n2 n3 r2 r3 13 v W' → RQ (QI13 w.heap.size x1 x2 y1 y2 n2 n3 r2 r3) w11 (upd val 13 v) (L.setIfInBounds 13 true) W' := fun v W' hb hq => hR.step hst hb hq
      have q0 := cell_keep hR.1 a0
      have q1 := cell_keep hR.1 a1
      have q2 := cell_keep hR.1 b0
      have q3 := cell_keep hR.1 b1
      have q4 := cell_keep hR.1 m0
      have q5 := cell_keep hR.1 m1
      have q6 := cell_keep hR.1 m2
      have q7 := cell_keep hR.1 m3
      have q8 := cell_keep hR.1 m4
      have q9 := cell_keep hR.1 m5
      have hM := Lib.hid hR.1
      clear hF hpre hl hR
      go_simp
      refine ⟨trivial, ?_⟩
      refine CallsIn.mono (callsIn_wide.2 (HN3.out _)) ?_
      rintro e y9 ⟨rfl, hb9⟩
      exact ⟨_, rfl, hgoal _ _ hb9 rfl⟩
    | 14, ho =>
      simp at ho
      subst ho
      refine step_plain rfl ?_
      have e161 := hF.gave 6 rfl (hpre ⟨6, .data⟩ (by simp) rfl) rfl
      have v6 := hR.2 6 (hpre ⟨6, .data⟩ (by simp) rfl)
      rw [show val 6 = .int .i64 r2 from v6] at e161
      clear v6
      have hgoal : ∀ v W', Below x.heap.size x W' → QI13 w.heap.size x1 x2 y1 y2 n2 n3 r2 r3 14 v W' → RQ (QI13 w.heap.size x1 x2 y1 y2 n2 n3 r2 r3) w11 (upd val 14 v) (L.setIfInBounds 14 true) W' := fun v W' hb hq => hR.step hst hb hq
      clear hF hpre hl hR
      go_simp
      exact ⟨_, rfl, hgoal _ _ (Below.refl _ _) rfl⟩
    | 15, ho =>
      simp at ho
      subst ho
      refine step_plain rfl ?_
      have e168 := hF.gave 13 rfl (hpre ⟨13, .data⟩ (by simp) rfl) rfl
      have v13 := hR.2 13 (hpre ⟨13, .data⟩ (by simp) rfl)
      rw [show val 13 = .int .i64 r3 from v13] at e168
      clear v13
      have hgoal : ∀ v W', Below x.heap.size x W' → QI13 w.heap.size x1 x2 y1 y2 n2 n3 r2 r3 15 v W' → RQ (QI13 w.heap.size x1 x2 y1 y2 n2 n3 r2 r3) w11 (upd val 15 v) (L.setIfInBounds 15 true) W' := fun v W' hb hq => hR.step hst hb hq
      clear hF hpre hl hR
      go_simp
      exact ⟨_, rfl, hgoal _ _ (Below.refl _ _) rfl⟩
    | i + 16, ho => simp at ho
  case hend =>
  intro val L b' w12 hF hall hR
  have e := hF.all (by kernel_rfl) hall
  have v14' := hR.2 14 (hall 14 (by decide))
  have v15' := hR.2 15 (hall 15 (by decide))
  have hb := hR.1
  have g0 := cell_keep hb g0
  have g1 := cell_keep hb g1
  have g2 := cell_keep hb g2
  have c0 := cell_keep hb c0
  have c1 := cell_keep hb c1
  have S := HS9.out.next hb
  have HS12 := Lib.hid S
  have HD := Lib.hid (HD.out.trans (hb.mono HD.out.size))
  clear hF hall hR hst hb a0 a1 b0 b1 m0 m1 m2 m3 m4 m5 HS9
  obtain ⟨_, _, _, a0, a1, b0, b1, m0, m1, m2, m3, m4, m5, _⟩ := S
  subst e
  simp [final, dstOf, List.range, List.range.loop]
  rw [show val 14 = .int .i64 r2 from v14', show val 15 = .int .i64 r3 from v15']
  clear v14' v15'
  generalize val 0 = zz0, val 1 = zz1, val 2 = zz2, val 3 = zz3, val 4 = zz4, val 5 = zz5, val 6 = zz6, val 7 = zz7, val 8 = zz8, val 9 = zz9, val 10 = zz10, val 11 = zz11, val 12 = zz12, val 13 = zz13
  go_upto_region 14 with fail
  have hst := QI14_stays w.heap.size x1 x2 y1 y2 n4 n5 r4 r5
  refine wpIn_wide.1 (region_inv2 (n := 9) (by kernel_rfl) (RQ (QI14 w.heap.size x1 x2 y1 y2 n4 n5 r4 r5) w12) (by kernel_rfl) rfl (RQ.start _ _ _) ?hstep ?hend)
  case hstep =>
    intro i' o ho val L b' x hF hR hpre hl
    match i', ho with
    | 0, ho =>
      simp at ho
      subst ho
      refine step_plain rfl ?_
      have e3 := hF.was 3 (by kernel_rfl) rfl
      have hgoal : ∀ v W', Below x.heap.size x W' → QI14 w.heap.size x1 x2 y1 y2 n4 n5 r4 r5 0 v W' → RQ (QI14 w.heap.size x1 x2 y1 y2 n4 n5 r4 r5) w12 (upd val 0 v) (L.setIfInBounds 0 true) W' := fun v W' hb hq => hR.step hst hb hq
      clear hF hpre hl hR
      go_simp
      exact ⟨_, rfl, hgoal _ _ (Below.refl _ _) rfl⟩
    | 1, ho =>
      simp at ho
      subst ho
      refine step_plain rfl ?_
      have e169 := hF.gave 0 rfl (hpre ⟨0, .data⟩ (by simp) rfl) rfl
      have v0 := hR.2 0 (hpre ⟨0, .data⟩ (by simp) rfl)
      rw [show val 0 = .pointer (some ⟨w.heap.size + 1, 4, none⟩) from v0] at e169
      clear v0
      have hgoal : ∀ v W', Below x.heap.size x W' → QI14 w.heap.size x1 x2 y1 y2 n4 n5 r4 r5 1 v W' → RQ (QI14 w.heap.size x1 x2 y1 y2 n4 n5 r4 r5) w12 (upd val 1 v) (L.setIfInBounds 1 true) W' := fun v W' hb hq => hR.step hst hb hq
      clear hF hpre hl hR
      go_simp
      exact ⟨_, rfl, hgoal _ _ (Below.refl _ _) rfl⟩
    | 2, ho =>
      simp at ho
      subst ho
      refine step_plain rfl ?_
      have e170 := hF.gave 1 rfl (hpre ⟨1, .data⟩ (by simp) rfl) rfl
      have v1 := hR.2 1 (hpre ⟨1, .data⟩ (by simp) rfl)
      rw [show val 1 = .pointer (some ⟨w.heap.size + 1, 8, none⟩) from v1] at e170
      clear v1
      have hgoal : ∀ v W', Below x.heap.size x W' → QI14 w.heap.size x1 x2 y1 y2 n4 n5 r4 r5 2 v W' → RQ (QI14 w.heap.size x1 x2 y1 y2 n4 n5 r4 r5) w12 (upd val 2 v) (L.setIfInBounds 2 true) W' := fun v W' hb hq => hR.step hst hb hq
      have q0 := cell_keep hR.1 a0
      have q1 := cell_keep hR.1 a1
      have q2 := cell_keep hR.1 b0
      have q3 := cell_keep hR.1 b1
      have q4 := cell_keep hR.1 m0
      have q5 := cell_keep hR.1 m1
      have q6 := cell_keep hR.1 m2
      have q7 := cell_keep hR.1 m3
      have q8 := cell_keep hR.1 m4
      have q9 := cell_keep hR.1 m5
      clear hF hpre hl hR
      go_simp
      exact ⟨_, rfl, hgoal _ _ (Below.refl _ _) rfl⟩
    | 3, ho =>
      simp at ho
      subst ho
      refine step_plain rfl ?_
      have e3 := hF.was 3 (by kernel_rfl) rfl
      have hgoal : ∀ v W', Below x.heap.size x W' → QI14 w.heap.size x1 x2 y1 y2 n4 n5 r4 r5 3 v W' → RQ (QI14 w.heap.size x1 x2 y1 y2 n4 n5 r4 r5) w12 (upd val 3 v) (L.setIfInBounds 3 true) W' := fun v W' hb hq => hR.step hst hb hq
      clear hF hpre hl hR
      go_simp
      exact ⟨_, rfl, hgoal _ _ (Below.refl _ _) rfl⟩
    | 4, ho =>
      simp at ho
      subst ho
      refine step_plain rfl ?_
      have e172 := hF.gave 3 rfl (hpre ⟨3, .data⟩ (by simp) rfl) rfl
      have v3 := hR.2 3 (hpre ⟨3, .data⟩ (by simp) rfl)
      rw [show val 3 = .pointer (some ⟨w.heap.size + 1, 0, none⟩) from v3] at e172
      clear v3
      have hgoal : ∀ v W', Below x.heap.size x W' → QI14 w.heap.size x1 x2 y1 y2 n4 n5 r4 r5 4 v W' → RQ (QI14 w.heap.size x1 x2 y1 y2 n4 n5 r4 r5) w12 (upd val 4 v) (L.setIfInBounds 4 true) W' := fun v W' hb hq => hR.step hst hb hq
      clear hF hpre hl hR
      go_simp
      exact ⟨_, rfl, hgoal _ _ (Below.refl _ _) rfl⟩
    | 5, ho =>
      simp at ho
      subst ho
      refine step_plain rfl ?_
      have e173 := hF.gave 4 rfl (hpre ⟨4, .data⟩ (by simp) rfl) rfl
      have v4 := hR.2 4 (hpre ⟨4, .data⟩ (by simp) rfl)
      rw [show val 4 = .pointer (some ⟨w.heap.size + 1, 2, none⟩) from v4] at e173
      clear v4
      have hgoal : ∀ v W', Below x.heap.size x W' → QI14 w.heap.size x1 x2 y1 y2 n4 n5 r4 r5 5 v W' → RQ (QI14 w.heap.size x1 x2 y1 y2 n4 n5 r4 r5) w12 (upd val 5 v) (L.setIfInBounds 5 true) W' := fun v W' hb hq => hR.step hst hb hq
      have q0 := cell_keep hR.1 a0
      have q1 := cell_keep hR.1 a1
      have q2 := cell_keep hR.1 b0
      have q3 := cell_keep hR.1 b1
      have q4 := cell_keep hR.1 m0
      have q5 := cell_keep hR.1 m1
      have q6 := cell_keep hR.1 m2
      have q7 := cell_keep hR.1 m3
      have q8 := cell_keep hR.1 m4
      have q9 := cell_keep hR.1 m5
      clear hF hpre hl hR
      go_simp
      exact ⟨_, rfl, hgoal _ _ (Below.refl _ _) rfl⟩
    | 6, ho =>
      simp at ho
      subst ho
      refine step_plain rfl ?_
      have e171 := hF.gave 2 rfl (hpre ⟨2, .data⟩ (by simp) rfl) rfl
      have v2 := hR.2 2 (hpre ⟨2, .data⟩ (by simp) rfl)
      rw [show val 2 = .int .i64 n4 from v2] at e171
      clear v2
      have e174 := hF.gave 5 rfl (hpre ⟨5, .data⟩ (by simp) rfl) rfl
      have v5 := hR.2 5 (hpre ⟨5, .data⟩ (by simp) rfl)
      rw [show val 5 = .agg #[.int .i64 y1, .int .i64 y2] from v5] at e174
      clear v5
      have hgoal : ∀ v W', Below x.heap.size x W' → QI14 w.heap.size x1 x2 y1 y2 n4 n5 r4 r5 6 v W' → RQ (QI14 w.heap.size x1 x2 y1 y2 n4 n5 r4 r5) w12 (upd val 6 v) (L.setIfInBounds 6 true) W' := fun v W' hb hq => hR.step hst hb hq
      have q0 := cell_keep hR.1 a0
      have q1 := cell_keep hR.1 a1
      have q2 := cell_keep hR.1 b0
      have q3 := cell_keep hR.1 b1
      have q4 := cell_keep hR.1 m0
      have q5 := cell_keep hR.1 m1
      have q6 := cell_keep hR.1 m2
      have q7 := cell_keep hR.1 m3
      have q8 := cell_keep hR.1 m4
      have q9 := cell_keep hR.1 m5
      have hM := Lib.hid hR.1
      clear hF hpre hl hR
      go_simp
      refine ⟨trivial, ?_⟩
      refine CallsIn.mono (callsIn_wide.2 (HN4.out _)) ?_
      rintro e y9 ⟨rfl, hb9⟩
      exact ⟨_, rfl, hgoal _ _ hb9 rfl⟩
    | 7, ho =>
      simp at ho
      subst ho
      refine step_plain rfl ?_
      have e3 := hF.was 3 (by kernel_rfl) rfl
      have hgoal : ∀ v W', Below x.heap.size x W' → QI14 w.heap.size x1 x2 y1 y2 n4 n5 r4 r5 7 v W' → RQ (QI14 w.heap.size x1 x2 y1 y2 n4 n5 r4 r5) w12 (upd val 7 v) (L.setIfInBounds 7 true) W' := fun v W' hb hq => hR.step hst hb hq
      clear hF hpre hl hR
      go_simp
      exact ⟨_, rfl, hgoal _ _ (Below.refl _ _) rfl⟩
    | 8, ho =>
      simp at ho
      subst ho
      refine step_plain rfl ?_
      have e176 := hF.gave 7 rfl (hpre ⟨7, .data⟩ (by simp) rfl) rfl
      have v7 := hR.2 7 (hpre ⟨7, .data⟩ (by simp) rfl)
      rw [show val 7 = .pointer (some ⟨w.heap.size + 1, 4, none⟩) from v7] at e176
      clear v7
      have hgoal : ∀ v W', Below x.heap.size x W' → QI14 w.heap.size x1 x2 y1 y2 n4 n5 r4 r5 8 v W' → RQ (QI14 w.heap.size x1 x2 y1 y2 n4 n5 r4 r5) w12 (upd val 8 v) (L.setIfInBounds 8 true) W' := fun v W' hb hq => hR.step hst hb hq
      clear hF hpre hl hR
      go_simp
      exact ⟨_, rfl, hgoal _ _ (Below.refl _ _) rfl⟩
    | 9, ho =>
      simp at ho
      subst ho
      refine step_plain rfl ?_
      have e177 := hF.gave 8 rfl (hpre ⟨8, .data⟩ (by simp) rfl) rfl
      have v8 := hR.2 8 (hpre ⟨8, .data⟩ (by simp) rfl)
      rw [show val 8 = .pointer (some ⟨w.heap.size + 1, 9, none⟩) from v8] at e177
      clear v8
      have hgoal : ∀ v W', Below x.heap.size x W' → QI14 w.heap.size x1 x2 y1 y2 n4 n5 r4 r5 9 v W' → RQ (QI14 w.heap.size x1 x2 y1 y2 n4 n5 r4 r5) w12 (upd val 9 v) (L.setIfInBounds 9 true) W' := fun v W' hb hq => hR.step hst hb hq
      have q0 := cell_keep hR.1 a0
      have q1 := cell_keep hR.1 a1
      have q2 := cell_keep hR.1 b0
      have q3 := cell_keep hR.1 b1
      have q4 := cell_keep hR.1 m0
      have q5 := cell_keep hR.1 m1
      have q6 := cell_keep hR.1 m2
      have q7 := cell_keep hR.1 m3
      have q8 := cell_keep hR.1 m4
      have q9 := cell_keep hR.1 m5
      clear hF hpre hl hR
      go_simp
      exact ⟨_, rfl, hgoal _ _ (Below.refl _ _) rfl⟩
    | 10, ho =>
      simp at ho
      subst ho
      refine step_plain rfl ?_
      have e3 := hF.was 3 (by kernel_rfl) rfl
      have hgoal : ∀ v W', Below x.heap.size x W' → QI14 w.heap.size x1 x2 y1 y2 n4 n5 r4 r5 10 v W' → RQ (QI14 w.heap.size x1 x2 y1 y2 n4 n5 r4 r5) w12 (upd val 10 v) (L.setIfInBounds 10 true) W' := fun v W' hb hq => hR.step hst hb hq
      clear hF hpre hl hR
      go_simp
      exact ⟨_, rfl, hgoal _ _ (Below.refl _ _) rfl⟩
    | 11, ho =>
      simp at ho
      subst ho
      refine step_plain rfl ?_
      have e179 := hF.gave 10 rfl (hpre ⟨10, .data⟩ (by simp) rfl) rfl
      have v10 := hR.2 10 (hpre ⟨10, .data⟩ (by simp) rfl)
      rw [show val 10 = .pointer (some ⟨w.heap.size + 1, 0, none⟩) from v10] at e179
      clear v10
      have hgoal : ∀ v W', Below x.heap.size x W' → QI14 w.heap.size x1 x2 y1 y2 n4 n5 r4 r5 11 v W' → RQ (QI14 w.heap.size x1 x2 y1 y2 n4 n5 r4 r5) w12 (upd val 11 v) (L.setIfInBounds 11 true) W' := fun v W' hb hq => hR.step hst hb hq
      clear hF hpre hl hR
      go_simp
      exact ⟨_, rfl, hgoal _ _ (Below.refl _ _) rfl⟩
    | 12, ho =>
      simp at ho
      subst ho
      refine step_plain rfl ?_
      have e180 := hF.gave 11 rfl (hpre ⟨11, .data⟩ (by simp) rfl) rfl
      have v11 := hR.2 11 (hpre ⟨11, .data⟩ (by simp) rfl)
      rw [show val 11 = .pointer (some ⟨w.heap.size + 1, 2, none⟩) from v11] at e180
      clear v11
      have hgoal : ∀ v W', Below x.heap.size x W' → QI14 w.heap.size x1 x2 y1 y2 n4 n5 r4 r5 12 v W' → RQ (QI14 w.heap.size x1 x2 y1 y2 n4 n5 r4 r5) w12 (upd val 12 v) (L.setIfInBounds 12 true) W' := fun v W' hb hq => hR.step hst hb hq
      have q0 := cell_keep hR.1 a0
      have q1 := cell_keep hR.1 a1
      have q2 := cell_keep hR.1 b0
      have q3 := cell_keep hR.1 b1
      have q4 := cell_keep hR.1 m0
      have q5 := cell_keep hR.1 m1
      have q6 := cell_keep hR.1 m2
      have q7 := cell_keep hR.1 m3
      have q8 := cell_keep hR.1 m4
      have q9 := cell_keep hR.1 m5
      clear hF hpre hl hR
      go_simp
      exact ⟨_, rfl, hgoal _ _ (Below.refl _ _) rfl⟩
    | 13, ho =>
      simp at ho
      subst ho
      refine step_plain rfl ?_
      have e178 := hF.gave 9 rfl (hpre ⟨9, .data⟩ (by simp) rfl) rfl
      have v9 := hR.2 9 (hpre ⟨9, .data⟩ (by simp) rfl)
      rw [show val 9 = .int .i64 n5 from v9] at e178
      clear v9
      have e181 := hF.gave 12 rfl (hpre ⟨12, .data⟩ (by simp) rfl) rfl
      have v12 := hR.2 12 (hpre ⟨12, .data⟩ (by simp) rfl)
      rw [show val 12 = .agg #[.int .i64 y1, .int .i64 y2] from v12] at e181
      clear v12
      have hgoal : ∀ v W', Below x.heap.size x W' → QI14 w.heap.size x1 x2 y1 y2 n4 n5 r4 r5 13 v W' → RQ (QI14 w.heap.size x1 x2 y1 y2 n4 n5 r4 r5) w12 (upd val 13 v) (L.setIfInBounds 13 true) W' := fun v W' hb hq => hR.step hst hb hq
      have q0 := cell_keep hR.1 a0
      have q1 := cell_keep hR.1 a1
      have q2 := cell_keep hR.1 b0
      have q3 := cell_keep hR.1 b1
      have q4 := cell_keep hR.1 m0
      have q5 := cell_keep hR.1 m1
      have q6 := cell_keep hR.1 m2
      have q7 := cell_keep hR.1 m3
      have q8 := cell_keep hR.1 m4
      have q9 := cell_keep hR.1 m5
      have hM := Lib.hid hR.1
      clear hF hpre hl hR
      go_simp
      refine ⟨trivial, ?_⟩
      refine CallsIn.mono (callsIn_wide.2 (HN5.out _)) ?_
      rintro e y9 ⟨rfl, hb9⟩
      exact ⟨_, rfl, hgoal _ _ hb9 rfl⟩
    | 14, ho =>
      simp at ho
      subst ho
      refine step_plain rfl ?_
      have e175 := hF.gave 6 rfl (hpre ⟨6, .data⟩ (by simp) rfl) rfl
      have v6 := hR.2 6 (hpre ⟨6, .data⟩ (by simp) rfl)
      rw [show val 6 = .int .i64 r4 from v6] at e175
      clear v6
      have hgoal : ∀ v W', Below x.heap.size x W' → QI14 w.heap.size x1 x2 y1 y2 n4 n5 r4 r5 14 v W' → RQ (QI14 w.heap.size x1 x2 y1 y2 n4 n5 r4 r5) w12 (upd val 14 v) (L.setIfInBounds 14 true) W' := fun v W' hb hq => hR.step hst hb hq
      clear hF hpre hl hR
      go_simp
      exact ⟨_, rfl, hgoal _ _ (Below.refl _ _) rfl⟩
    | 15, ho =>
      simp at ho
      subst ho
      refine step_plain rfl ?_
      have e182 := hF.gave 13 rfl (hpre ⟨13, .data⟩ (by simp) rfl) rfl
      have v13 := hR.2 13 (hpre ⟨13, .data⟩ (by simp) rfl)
      rw [show val 13 = .int .i64 r5 from v13] at e182
      clear v13
      have hgoal : ∀ v W', Below x.heap.size x W' → QI14 w.heap.size x1 x2 y1 y2 n4 n5 r4 r5 15 v W' → RQ (QI14 w.heap.size x1 x2 y1 y2 n4 n5 r4 r5) w12 (upd val 15 v) (L.setIfInBounds 15 true) W' := fun v W' hb hq => hR.step hst hb hq
      clear hF hpre hl hR
      go_simp
      exact ⟨_, rfl, hgoal _ _ (Below.refl _ _) rfl⟩
    | i + 16, ho => simp at ho
  case hend =>
  intro val L b' w13 hF hall hR
  have e := hF.all (by kernel_rfl) hall
  have v14' := hR.2 14 (hall 14 (by decide))
  have v15' := hR.2 15 (hall 15 (by decide))
  have hb := hR.1
  have g0 := cell_keep hb g0
  have g1 := cell_keep hb g1
  have g2 := cell_keep hb g2
  have c0 := cell_keep hb c0
  have c1 := cell_keep hb c1
  have S := HS12.out.next hb
  have HS13 := Lib.hid S
  have HD := Lib.hid (HD.out.trans (hb.mono HD.out.size))
  clear hF hall hR hst hb a0 a1 b0 b1 m0 m1 m2 m3 m4 m5 HS12
  obtain ⟨_, _, _, a0, a1, b0, b1, m0, m1, m2, m3, m4, m5, _⟩ := S
  subst e
  simp [final, dstOf, List.range, List.range.loop]
  rw [show val 14 = .int .i64 r4 from v14', show val 15 = .int .i64 r5 from v15']
  clear v14' v15'
  generalize val 0 = zz0, val 1 = zz1, val 2 = zz2, val 3 = zz3, val 4 = zz4, val 5 = zz5, val 6 = zz6, val 7 = zz7, val 8 = zz8, val 9 = zz9, val 10 = zz10, val 11 = zz11, val 12 = zz12, val 13 = zz13
  clear l1 l2 l3 l4 l5 l6
  go_upto_region 16 with (go_at_call 49; refine Calls.mono (HBD.out _ HD.out (min r2 r3) (max r2 r3) (min r4 r5) (max r4 r5)) ?_; rintro e w14a ⟨rfl, hb⟩; rw [HE5.out])
  have hb' := Below.trans hb (((Below.refl w14a.heap.size w14a).alloc (Nat.le_refl _) (.cells #[.int .i64 z0, .int .i64 z1] 37)).mono hb.size)
  have d0 : (w14a.alloc (.cells #[.int .i64 z0, .int .i64 z1] 37)).cell? ⟨w14a.heap.size, 0, none⟩ = some (.int .i64 z0) := by go_simp
  have d1 : (w14a.alloc (.cells #[.int .i64 z0, .int .i64 z1] 37)).cell? ⟨w14a.heap.size, 1, none⟩ = some (.int .i64 z1) := by go_simp
  generalize hWW : w14a.alloc (.cells #[.int .i64 z0, .int .i64 z1] 37) = w14 at *
  generalize w14a.heap.size = gp at *
  have c0 := cell_keep hb' c0
  have c1 := cell_keep hb' c1
  have S := HS13.out.next hb'
  have HS14 := Lib.hid S
  have HD := Lib.hid (HD.out.trans (hb'.mono HD.out.size))
  clear hWW hb hb' a0 a1 b0 b1 m0 m1 m2 m3 m4 m5 HS13
  obtain ⟨_, _, _, a0, a1, b0, b1, m0, m1, m2, m3, m4, m5, _⟩ := S
  obtain ⟨l7, l8⟩ := HL.out
  have HX := Lib.hid HS14.out.b
  go_wp2_with (go_at_call 18; refine Calls.mono (HWK.out _) ?_; rintro e w15 ⟨rfl, hb15⟩)
  go_ret
  exact ⟨rfl, HX.out.trans (hb15.mono HX.out.size)⟩

end Go.Proofs.Ytjdahphnmeaolaa

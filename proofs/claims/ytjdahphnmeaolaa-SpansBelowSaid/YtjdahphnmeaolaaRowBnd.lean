/- swashplatelaw01.SpansBounds returns true at every input, and the input reads as it did: no condition. -/
import Derived.Test.YtjdahphnmeaolaaWst
import Derived.Test.YtjdahphnmeaolaaCopy
import Derived.Test.YtjdahphnmeaolaaWorks
namespace Go.Proofs.Ytjdahphnmeaolaa
open Go.RowKit

set_option maxRecDepth 100000 in
set_option maxHeartbeats 1000000 in
theorem worst_any (AX AY AV : Option Addr) (nx cx ny cy nv cv B : Nat) (X Y : List Int) (V : List (List Int)) (x1 x2 y1 y2 : Int) (w : World) (hx : X.length = nx) (hy : Y.length = ny) (hv : V.length = nv) (hnx : nx ≤ maxLen) (hny : ny ≤ maxLen) (hnv : nv ≤ maxLen) (hnr : ∀ r ∈ V, r.length ≤ maxLen)
    (hB : B ≤ w.heap.size) (h : TB w B AX AY AV X Y V) :
    Calls Try.prog 51 #[.agg #[.slice AX nx cx, .slice AY ny cy, .slice AV nv cv], .agg #[.int .i64 x1, .int .i64 x2], .agg #[.int .i64 y1, .int .i64 y2]] w fun e w' =>
      e = .returned (.tuple #[.int .i64 (wstS X Y V x1 x2 y1 y2).1, .int .i64 (wstS X Y V x1 x2 y1 y2).2.1, .int .i64 (wstS X Y V x1 x2 y1 y2).2.2]) ∧ Below w.heap.size w w' := by
  by_cases hc : cbE X Y V x1 x2 y1 y2 = 0
  · have := worst_ok AX AY AV nx cx ny cy nv cv B X Y V x1 x2 y1 y2 w hx hy hv hnx hny hnv hnr hB h hc
    unfold wstS
    rw [if_pos hc]
    exact this
  · subst hx hy hv
    rw [show wstS X Y V x1 x2 y1 y2 = (0, 0, cbE X Y V x1 x2 y1 y2) by unfold wstS; rw [if_neg hc]]
    have HCB := Lib.hid (fun (W : World) (hW : Below w.heap.size w W) => checkBox_any AX AY AV _ cx _ cy _ cv B X Y V x1 x2 y1 y2 W rfl rfl rfl hnx hny hnv hnr (by have := hW.size; omega) (h.below (hW.mono hB)))
    generalize cbE X Y V x1 x2 y1 y2 = c at *
    have hc' : (c != 0) = true := by rw [bne_iff_ne]; exact hc
    clear hc h
    go_enter Try.func51, Try.ntmps51
    go_wp2_with (go_at_call 95; refine Calls.mono (HCB.out _ (by go_grown)) ?_; rintro e w1 ⟨rfl, hb1⟩; have HBW := Lib.hid (show Below w.heap.size w w1 from Below.trans (by go_grown) (hb1.mono (by simp <;> omega))); clear hb1)
    go_ret3
    exact ⟨rfl, HBW.out⟩

def GT (X Y : List Int) (V : List (List Int)) (v : Value) (W : World) : Prop := ∃ AX cx AY cy AV cv, v = .agg #[.slice AX X.length cx, .slice AY Y.length cy, .slice AV V.length cv] ∧ TB W W.heap.size AX AY AV X Y V
theorem GT.stay {X Y : List Int} {V : List (List Int)} {v : Value} {W W' : World} (h : GT X Y V v W) (hb : Below W.heap.size W W') : GT X Y V v W' := by
  obtain ⟨AX, cx, AY, cy, AV, cv, e, h⟩ := h
  exact ⟨AX, cx, AY, cy, AV, cv, e, (h.below hb).more hb.size⟩
/-- A new box of a span. -/
def AL (M : Nat) (v : Value) (W : World) : Prop := ∃ q, v = .pointer (some ⟨q, 0, none⟩) ∧ M ≤ q ∧ q < W.heap.size ∧ W.frozen? ⟨q, 0, none⟩ = false ∧ W.frozen? ⟨q, 1, none⟩ = false ∧ ∃ u0 u1, W.cell? ⟨q, 0, none⟩ = some u0 ∧ W.cell? ⟨q, 1, none⟩ = some u1
theorem AL.stay {M : Nat} {v : Value} {W W' : World} (h : AL M v W) (hb : Below W.heap.size W W') : AL M v W' := by
  obtain ⟨q, e, h1, h2, h3, h4, u0, u1, h5, h6⟩ := h
  exact ⟨q, e, h1, Nat.lt_of_lt_of_le h2 hb.size, (hb.frozen (p := ⟨q, 0, none⟩) h2).trans h3, (hb.frozen (p := ⟨q, 1, none⟩) h2).trans h4, u0, u1, cell_keep hb h5, cell_keep hb h6⟩

/-- The two arguments' boxes: a table and an area. -/
structure VA (w W : World) (AX : Option Addr) (nx cx : Nat) (AY : Option Addr) (ny cy : Nat) (AV : Option Addr) (nv cv : Nat) (x1 x2 y1 y2 : Int) : Prop where
  t0 : W.cell? ⟨w.heap.size, 0, none⟩ = some (.slice AX nx cx)
  t1 : W.cell? ⟨w.heap.size, 1, none⟩ = some (.slice AY ny cy)
  t2 : W.cell? ⟨w.heap.size, 2, none⟩ = some (.slice AV nv cv)
  a0 : W.cell? ⟨w.heap.size + 1, 0, none⟩ = some (.int .i64 x1)
  a1 : W.cell? ⟨w.heap.size + 1, 1, none⟩ = some (.int .i64 x2)
  b0 : W.cell? ⟨w.heap.size + 1, 2, none⟩ = some (.int .i64 y1)
  b1 : W.cell? ⟨w.heap.size + 1, 3, none⟩ = some (.int .i64 y2)
  l : w.heap.size + 1 < W.heap.size
  b : Below w.heap.size w W
theorem VA.next {w W W' : World} {AX AY AV : Option Addr} {nx cx ny cy nv cv : Nat} {x1 x2 y1 y2 : Int} (h : VA w W AX nx cx AY ny cy AV nv cv x1 x2 y1 y2) (hb : Below W.heap.size W W') : VA w W' AX nx cx AY ny cy AV nv cv x1 x2 y1 y2 :=
  ⟨cell_keep hb h.t0, cell_keep hb h.t1, cell_keep hb h.t2, cell_keep hb h.a0, cell_keep hb h.a1, cell_keep hb h.b0, cell_keep hb h.b1, Nat.lt_of_lt_of_le h.l hb.size, h.b.trans (hb.mono h.b.size)⟩
theorem VA.start (w : World) (AX AY AV : Option Addr) (nx cx ny cy nv cv : Nat) (x1 x2 y1 y2 : Int) (T T' : TypeId) :
    VA w ((w.alloc (.cells #[.slice AX nx cx, .slice AY ny cy, .slice AV nv cv] T)).alloc (.cells #[.int .i64 x1, .int .i64 x2, .int .i64 y1, .int .i64 y2] T')) AX nx cx AY ny cy AV nv cv x1 x2 y1 y2 :=
  ⟨by go_simp, by go_simp, by go_simp, by go_simp, by go_simp, by go_simp, by go_simp, by simp, by go_grown⟩

/-- The region that makes a result's box and fills it. -/
def RXS (Q : Nat → Value → World → Prop) (W0 : World) (p0 p1 pe : Int) (val : Nat → Value) (L : Array Bool) (W : World) : Prop :=
  (L.getD 11 false = false → RQ Q W0 val L W) ∧
  (L.getD 11 false = true → Below W0.heap.size W0 W ∧ (∃ g, val 10 = .pointer (some ⟨g, 0, none⟩) ∧ W.cell? ⟨g, 0, none⟩ = some (.int .i64 p0) ∧ W.cell? ⟨g, 1, none⟩ = some (.int .i64 p1)) ∧ val 7 = .tuple #[.agg #[.int .i64 p0, .int .i64 p1], .int .i64 pe] ∧ (L.getD 9 false = true → val 9 = .int .i64 pe) ∧ (L.getD 12 false = true → val 12 = .int .i64 pe))
theorem RXS.step {Q : Nat → Value → World → Prop} {W0 W W' : World} {p0 p1 pe : Int} {val : Nat → Value} {L : Array Bool} {k : Nat} {v : Value} (h : RQ Q W0 val L W) (hQ : Stays Q) (hb : Below W.heap.size W W') (hq : Q k v W') (hk : k ≠ 11) (hN : L.getD 11 false = false) :
    RXS Q W0 p0 p1 pe (upd val k v) (L.setIfInBounds k true) W' :=
  ⟨fun _ => h.step hQ hb hq, fun h11 => by rw [getD_set_other hk, hN] at h11; cases h11⟩
theorem RXS.step9 {Q : Nat → Value → World → Prop} {W0 W : World} {p0 p1 pe : Int} {val : Nat → Value} {L : Array Bool} (h : RXS Q W0 p0 p1 pe val L W) (hQ : Stays Q) (h7 : RQ Q W0 val L W → val 7 = .tuple #[.agg #[.int .i64 p0, .int .i64 p1], .int .i64 pe]) (hq : Q 9 (.int .i64 pe) W) :
    val 7 = .tuple #[.agg #[.int .i64 p0, .int .i64 p1], .int .i64 pe] ∧ RXS Q W0 p0 p1 pe (upd val 9 (.int .i64 pe)) (L.setIfInBounds 9 true) W := by
  cases hN : L.getD 11 false with
  | false =>
    have hr := h.1 hN
    exact ⟨h7 hr, RXS.step hr hQ (Below.refl _ _) hq (by decide) hN⟩
  | true =>
    obtain ⟨a, ⟨g, b1, b2, b3⟩, c, d, e⟩ := h.2 hN
    exact ⟨c, fun h => (by rw [getD_set_other (by decide), hN] at h; cases h), fun _ => ⟨a, ⟨g, by rw [upd_other (by decide)]; exact b1, b2, b3⟩, by rw [upd_other (by decide)]; exact c, fun _ => upd_same _ _ _, fun h => by rw [upd_other (by decide)]; exact e (by rwa [getD_set_other (by decide)] at h)⟩⟩
theorem RXS.store {Q : Nat → Value → World → Prop} {W0 W : World} {p0 p1 pe : Int} {val : Nat → Value} {L : Array Bool} {q : Nat} (hls : 11 < L.size) (hb : Below W0.heap.size W0 W) (hM : W0.heap.size ≤ q) (h10 : val 10 = .pointer (some ⟨q, 0, none⟩)) (h7 : val 7 = .tuple #[.agg #[.int .i64 p0, .int .i64 p1], .int .i64 pe]) (h9 : L.getD 9 false = true → val 9 = .int .i64 pe)
    (h0 : (W.cell? ⟨q, 0, none⟩).isSome = true) (h1 : (W.cell? ⟨q, 1, none⟩).isSome = true) (l12 : L.getD 12 false = false) :
    RXS Q W0 p0 p1 pe (upd val 11 undef) (L.setIfInBounds 11 true) ((W.setCell ⟨q, 0, none⟩ (.int .i64 p0)).setCell ⟨q, 1, none⟩ (.int .i64 p1)) :=
  ⟨fun h => (by rw [getD_set_eq hls] at h; cases h), fun _ => ⟨(hb.setCell (p := ⟨q, 0, none⟩) hM _).setCell (p := ⟨q, 1, none⟩) hM _, ⟨q, by rw [upd_other (by decide)]; exact h10,
    by rw [World.cell?_setCell_other _ _ _ _ (by simp)]; exact World.cell?_setCell_same' _ _ _ h0,
    World.cell?_setCell_same' _ _ _ (by rw [World.cell?_setCell_other _ _ _ _ (by simp)]; exact h1)⟩, by rw [upd_other (by decide)]; exact h7, fun h => by rw [upd_other (by decide)]; exact h9 (by rwa [getD_set_other (by decide)] at h), fun h => by rw [getD_set_other (by decide), l12] at h; cases h⟩⟩

def QL3 (g : Nat) (AX : Option Addr) (nx : Nat) (cx : Nat) (AY : Option Addr) (ny : Nat) (cy : Nat) (AV : Option Addr) (nv : Nat) (cv : Nat) (x1 : Int) (x2 : Int) (y1 : Int) (y2 : Int) (X : List Int) (Y : List Int) (V : List (List Int)) (M : Nat) (p0 : Int) (p1 : Int) (pe : Int) (j : Nat) (v : Value) (W : World) : Prop :=
  match j with
  | 0 => v = .agg #[.slice AX nx cx, .slice AY ny cy, .slice AV nv cv]
  | 1 => GT X Y V v W
  | 2 => v = .pointer (some ⟨g + 1, 0, none⟩)
  | 3 => v = .agg #[.int .i64 x1, .int .i64 x2]
  | 4 => v = .pointer (some ⟨g + 1, 2, none⟩)
  | 5 => v = .agg #[.int .i64 y1, .int .i64 y2]
  | 6 => v = .tuple #[.agg #[.int .i64 p0, .int .i64 p1], .int .i64 pe]
  | 7 => v = .tuple #[.agg #[.int .i64 p0, .int .i64 p1], .int .i64 pe]
  | 8 => v = .agg #[.int .i64 p0, .int .i64 p1]
  | 9 => v = .int .i64 pe
  | 10 => AL M v W
  | _ => True
theorem QL3_stays (g : Nat) (AX : Option Addr) (nx : Nat) (cx : Nat) (AY : Option Addr) (ny : Nat) (cy : Nat) (AV : Option Addr) (nv : Nat) (cv : Nat) (x1 : Int) (x2 : Int) (y1 : Int) (y2 : Int) (X : List Int) (Y : List Int) (V : List (List Int)) (M : Nat) (p0 : Int) (p1 : Int) (pe : Int) : Stays (QL3 g AX nx cx AY ny cy AV nv cv x1 x2 y1 y2 X Y V M p0 p1 pe) := fun j v W W' h hb => by
  unfold QL3 at h ⊢
  split at h <;> first | exact h | exact h.stay hb
def QL5 (g : Nat) (AX : Option Addr) (nx : Nat) (cx : Nat) (AY : Option Addr) (ny : Nat) (cy : Nat) (AV : Option Addr) (nv : Nat) (cv : Nat) (x1 : Int) (x2 : Int) (y1 : Int) (y2 : Int) (X : List Int) (Y : List Int) (V : List (List Int)) (u0 : Int) (u1 : Int) (ue : Int) (j : Nat) (v : Value) (W : World) : Prop :=
  match j with
  | 0 => v = .agg #[.slice AX nx cx, .slice AY ny cy, .slice AV nv cv]
  | 1 => GT X Y V v W
  | 2 => v = .pointer (some ⟨g + 1, 0, none⟩)
  | 3 => v = .agg #[.int .i64 x1, .int .i64 x2]
  | 4 => v = .pointer (some ⟨g + 1, 2, none⟩)
  | 5 => v = .agg #[.int .i64 y1, .int .i64 y2]
  | 6 => v = .tuple #[.int .i64 u0, .int .i64 u1, .int .i64 ue]
  | 7 => v = .tuple #[.int .i64 u0, .int .i64 u1, .int .i64 ue]
  | 8 => v = .int .i64 u0
  | 9 => v = .int .i64 u1
  | 10 => v = .int .i64 ue
  | 11 => v = .int .i64 u0
  | 12 => v = .int .i64 u1
  | 13 => v = .int .i64 ue
  | _ => True
theorem QL5_stays (g : Nat) (AX : Option Addr) (nx : Nat) (cx : Nat) (AY : Option Addr) (ny : Nat) (cy : Nat) (AV : Option Addr) (nv : Nat) (cv : Nat) (x1 : Int) (x2 : Int) (y1 : Int) (y2 : Int) (X : List Int) (Y : List Int) (V : List (List Int)) (u0 : Int) (u1 : Int) (ue : Int) : Stays (QL5 g AX nx cx AY ny cy AV nv cv x1 x2 y1 y2 X Y V u0 u1 ue) := fun j v W W' h hb => by
  unfold QL5 at h ⊢
  split at h <;> first | exact h | exact h.stay hb

set_option maxRecDepth 100000 in
set_option maxHeartbeats 4000000 in
theorem law_bounds (AX AY AV : Option Addr) (nx cx ny cy nv cv B : Nat) (X Y : List Int) (V : List (List Int)) (x1 x2 y1 y2 : Int) (w : World) (hx : X.length = nx) (hy : Y.length = ny) (hv : V.length = nv) (hmx : nx ≤ maxLen) (hmy : ny ≤ maxLen) (hmv : nv ≤ maxLen) (hmr : ∀ r ∈ V, r.length ≤ maxLen)
    (hB : B ≤ w.heap.size) (h : TB w B AX AY AV X Y V) :
    Calls Try.prog 10 #[.agg #[.slice AX nx cx, .slice AY ny cy, .slice AV nv cv], .agg #[.int .i64 x1, .int .i64 x2, .int .i64 y1, .int .i64 y2]] w fun e w' => e = .returned (.bool true) ∧ Below w.heap.size w w' := by
  subst hx hy hv
  have HWK := Lib.hid works_any
  have HT := Lib.hid h
  have HFAR := Lib.hid (fun (W : World) (hW : Below w.heap.size w W) => far_any AX AY AV _ cx _ cy _ cv B X Y V W rfl rfl rfl hmx hmy hmv (by have := hW.size; omega) (h.below (hW.mono hB)))
  have S0 := VA.start w AX AY AV X.length cx Y.length cy V.length cv x1 x2 y1 y2 27 63
  have HS0 := Lib.hid S0
  clear h S0
  cases hf : farB X Y V with
  | true =>
    have HF := Lib.hid hf
    clear hf
    go_enter Try.func10, Try.ntmps10
    go_wp2_with (first
      | (go_at_call 17; refine Calls.mono (HFAR.out _ (by go_grown)) ?_; rintro e w4 ⟨rfl, hb4⟩; rw [HF.out])
      | (go_at_call 18; refine Calls.mono (HWK.out _) ?_; rintro e w5 ⟨rfl, hb5⟩))
    go_ret
    have hb : Below w.heap.size w w4 := Below.trans (by go_grown) (hb4.mono (by simp <;> omega))
    exact ⟨rfl, hb.trans (hb5.mono hb.size)⟩
  | false =>
  obtain ⟨f1, f2, f3, f4⟩ := farB_no hf
  have hnx : X.length ≤ 1000000 := by omega
  have hny : Y.length ≤ 1000000 := by omega
  have hnv : V.length ≤ 1000000 := by omega
  have hnr : ∀ r ∈ V, r.length ≤ 1000000 := fun r hr => by have := f4 r hr; omega
  have HF := Lib.hid hf
  clear hf f1 f2 f3 f4
  have HCP := Lib.hid (fun (W : World) (hW : Below w.heap.size w W) => copy_any AX AY AV _ cx _ cy _ cv B X Y V W rfl rfl rfl hnx hny hnv hnr (by have := hW.size; omega) (HT.out.below (hW.mono hB)))
  have HRB := Lib.hid (fun (W : World) (hW : Below w.heap.size w W) => rBound_any AX AY AV _ cx _ cy _ cv B X Y V x1 x2 y1 y2 W rfl rfl rfl hmx hmy hmv hmr (by have := hW.size; omega) (HT.out.below (hW.mono hB)))
  have HRW := Lib.hid (fun (W : World) (hW : Below w.heap.size w W) => rworst_any AX AY AV _ cx _ cy _ cv B X Y V x1 x2 y1 y2 W rfl rfl rfl hmx hmy hmv hmr (by have := hW.size; omega) (HT.out.below (hW.mono hB)))
  generalize hbs : bndS X Y V x1 x2 y1 y2 = bs at *
  generalize hws : wstS X Y V x1 x2 y1 y2 = ws at *
  obtain ⟨⟨p0, p1⟩, pe⟩ := bs
  obtain ⟨u0, u1, ue⟩ := ws
  have HBS := Lib.hid hbs
  have HWS := Lib.hid hws
  clear hbs hws
  go_enter Try.func10, Try.ntmps10
  go_upto_region 3 with (go_at_call 17; refine Calls.mono (HFAR.out _ (by go_grown)) ?_; rintro e w1 ⟨rfl, hb1⟩; rw [HF.out])
  have S1 := HS0.out.next hb1
  have HS1 := Lib.hid S1
  obtain ⟨t0, t1, t2, a0, a1, b0, b1, l9, _⟩ := S1
  clear hb1 HS0 HFAR
  have hst := QL3_stays w.heap.size AX X.length cx AY Y.length cy AV V.length cv x1 x2 y1 y2 X Y V w1.heap.size p0 p1 pe
  refine wpIn_wide.1 (region_inv2 (n := 9) (by kernel_rfl) (RXS (QL3 w.heap.size AX X.length cx AY Y.length cy AV V.length cv x1 x2 y1 y2 X Y V w1.heap.size p0 p1 pe) w1 p0 p1 pe) (by kernel_rfl) rfl ⟨fun _ => RQ.start _ _ _, (by intro hl; rw [getD_replicate_no] at hl; cases hl)⟩ ?hstep ?hend)
  case hstep =>
    intro i' o ho val L b' x hF hR hpre hl
    match i', ho with
    | 0, ho =>
      simp at ho
      subst ho
      refine step_plain rfl ?_
      have hN := hF.later hl 11 rfl (e := ⟨0, .phase⟩) (by simp) rfl rfl
      have hR := hR.1 hN
      have e2 := hF.was 2 (by kernel_rfl) rfl
      have hgoal : ∀ v W', Below x.heap.size x W' → QL3 w.heap.size AX X.length cx AY Y.length cy AV V.length cv x1 x2 y1 y2 X Y V w1.heap.size p0 p1 pe 0 v W' → RXS (QL3 w.heap.size AX X.length cx AY Y.length cy AV V.length cv x1 x2 y1 y2 X Y V w1.heap.size p0 p1 pe) w1 p0 p1 pe (upd val 0 v) (L.setIfInBounds 0 true) W' := fun v W' hb hq => RXS.step hR hst hb hq (by decide) hN
      have q0 := cell_keep hR.1 t0
      have q1 := cell_keep hR.1 t1
      have q2 := cell_keep hR.1 t2
      have q3 := cell_keep hR.1 a0
      have q4 := cell_keep hR.1 a1
      have q5 := cell_keep hR.1 b0
      have q6 := cell_keep hR.1 b1
      clear hF hpre hl hR hN
      go_simp
      exact ⟨_, rfl, hgoal _ _ (Below.refl _ _) rfl⟩
    | 1, ho =>
      simp at ho
      subst ho
      refine step_plain rfl ?_
      have hN := hF.later hl 11 rfl (e := ⟨1, .phase⟩) (by simp) rfl rfl
      have hR := hR.1 hN
      have e19 := hF.gave 0 rfl (hpre ⟨0, .data⟩ (by simp) rfl) rfl
      have v0 := hR.2 0 (hpre ⟨0, .data⟩ (by simp) rfl)
      rw [show val 0 = .agg #[.slice AX X.length cx, .slice AY Y.length cy, .slice AV V.length cv] from v0] at e19
      clear v0
      have hgoal : ∀ v W', Below x.heap.size x W' → QL3 w.heap.size AX X.length cx AY Y.length cy AV V.length cv x1 x2 y1 y2 X Y V w1.heap.size p0 p1 pe 1 v W' → RXS (QL3 w.heap.size AX X.length cx AY Y.length cy AV V.length cv x1 x2 y1 y2 X Y V w1.heap.size p0 p1 pe) w1 p0 p1 pe (upd val 1 v) (L.setIfInBounds 1 true) W' := fun v W' hb hq => RXS.step hR hst hb hq (by decide) hN
      have q0 := cell_keep hR.1 t0
      have q1 := cell_keep hR.1 t1
      have q2 := cell_keep hR.1 t2
      have q3 := cell_keep hR.1 a0
      have q4 := cell_keep hR.1 a1
      have q5 := cell_keep hR.1 b0
      have q6 := cell_keep hR.1 b1
      have hM := Lib.hid hR.1
      clear hF hpre hl hR hN
      go_simp
      refine ⟨trivial, ?_⟩
      refine CallsIn.mono (callsIn_wide.2 (HCP.out _ (HS1.out.b.trans (hM.out.mono HS1.out.b.size)))) ?_
      rintro e y9 ⟨AX', cx', AY', cy', AV', cv', rfl, htb, hb9⟩
      exact ⟨_, rfl, hgoal _ _ hb9 ⟨AX', cx', AY', cy', AV', cv', rfl, htb⟩⟩
    | 2, ho =>
      simp at ho
      subst ho
      refine step_plain rfl ?_
      have hN := hF.later hl 11 rfl (e := ⟨2, .phase⟩) (by simp) rfl rfl
      have hR := hR.1 hN
      have e3 := hF.was 3 (by kernel_rfl) rfl
      have hgoal : ∀ v W', Below x.heap.size x W' → QL3 w.heap.size AX X.length cx AY Y.length cy AV V.length cv x1 x2 y1 y2 X Y V w1.heap.size p0 p1 pe 2 v W' → RXS (QL3 w.heap.size AX X.length cx AY Y.length cy AV V.length cv x1 x2 y1 y2 X Y V w1.heap.size p0 p1 pe) w1 p0 p1 pe (upd val 2 v) (L.setIfInBounds 2 true) W' := fun v W' hb hq => RXS.step hR hst hb hq (by decide) hN
      clear hF hpre hl hR hN
      go_simp
      exact ⟨_, rfl, hgoal _ _ (Below.refl _ _) rfl⟩
    | 3, ho =>
      simp at ho
      subst ho
      refine step_plain rfl ?_
      have hN := hF.later hl 11 rfl (e := ⟨3, .phase⟩) (by simp) rfl rfl
      have hR := hR.1 hN
      have e21 := hF.gave 2 rfl (hpre ⟨2, .data⟩ (by simp) rfl) rfl
      have v2 := hR.2 2 (hpre ⟨2, .data⟩ (by simp) rfl)
      rw [show val 2 = .pointer (some ⟨w.heap.size + 1, 0, none⟩) from v2] at e21
      clear v2
      have hgoal : ∀ v W', Below x.heap.size x W' → QL3 w.heap.size AX X.length cx AY Y.length cy AV V.length cv x1 x2 y1 y2 X Y V w1.heap.size p0 p1 pe 3 v W' → RXS (QL3 w.heap.size AX X.length cx AY Y.length cy AV V.length cv x1 x2 y1 y2 X Y V w1.heap.size p0 p1 pe) w1 p0 p1 pe (upd val 3 v) (L.setIfInBounds 3 true) W' := fun v W' hb hq => RXS.step hR hst hb hq (by decide) hN
      have q0 := cell_keep hR.1 t0
      have q1 := cell_keep hR.1 t1
      have q2 := cell_keep hR.1 t2
      have q3 := cell_keep hR.1 a0
      have q4 := cell_keep hR.1 a1
      have q5 := cell_keep hR.1 b0
      have q6 := cell_keep hR.1 b1
      clear hF hpre hl hR hN
      go_simp
      exact ⟨_, rfl, hgoal _ _ (Below.refl _ _) rfl⟩
    | 4, ho =>
      simp at ho
      subst ho
      refine step_plain rfl ?_
      have hN := hF.later hl 11 rfl (e := ⟨4, .phase⟩) (by simp) rfl rfl
      have hR := hR.1 hN
      have e3 := hF.was 3 (by kernel_rfl) rfl
      have hgoal : ∀ v W', Below x.heap.size x W' → QL3 w.heap.size AX X.length cx AY Y.length cy AV V.length cv x1 x2 y1 y2 X Y V w1.heap.size p0 p1 pe 4 v W' → RXS (QL3 w.heap.size AX X.length cx AY Y.length cy AV V.length cv x1 x2 y1 y2 X Y V w1.heap.size p0 p1 pe) w1 p0 p1 pe (upd val 4 v) (L.setIfInBounds 4 true) W' := fun v W' hb hq => RXS.step hR hst hb hq (by decide) hN
      clear hF hpre hl hR hN
      go_simp
      exact ⟨_, rfl, hgoal _ _ (Below.refl _ _) rfl⟩
    | 5, ho =>
      simp at ho
      subst ho
      refine step_plain rfl ?_
      have hN := hF.later hl 11 rfl (e := ⟨5, .phase⟩) (by simp) rfl rfl
      have hR := hR.1 hN
      have e23 := hF.gave 4 rfl (hpre ⟨4, .data⟩ (by simp) rfl) rfl
      have v4 := hR.2 4 (hpre ⟨4, .data⟩ (by simp) rfl)
      rw [show val 4 = .pointer (some ⟨w.heap.size + 1, 2, none⟩) from v4] at e23
      clear v4
      have hgoal : ∀ v W', Below x.heap.size x W' → QL3 w.heap.size AX X.length cx AY Y.length cy AV V.length cv x1 x2 y1 y2 X Y V w1.heap.size p0 p1 pe 5 v W' → RXS (QL3 w.heap.size AX X.length cx AY Y.length cy AV V.length cv x1 x2 y1 y2 X Y V w1.heap.size p0 p1 pe) w1 p0 p1 pe (upd val 5 v) (L.setIfInBounds 5 true) W' := fun v W' hb hq => RXS.step hR hst hb hq (by decide) hN
      have q0 := cell_keep hR.1 t0
      have q1 := cell_keep hR.1 t1
      have q2 := cell_keep hR.1 t2
      have q3 := cell_keep hR.1 a0
      have q4 := cell_keep hR.1 a1
      have q5 := cell_keep hR.1 b0
      have q6 := cell_keep hR.1 b1
      clear hF hpre hl hR hN
      go_simp
      exact ⟨_, rfl, hgoal _ _ (Below.refl _ _) rfl⟩
    | 6, ho =>
      simp at ho
      subst ho
      refine step_plain rfl ?_
      have hN := hF.later hl 11 rfl (e := ⟨6, .phase⟩) (by simp) rfl rfl
      have hR := hR.1 hN
      have e20 := hF.gave 1 rfl (hpre ⟨1, .data⟩ (by simp) rfl) rfl
      have v1 := hR.2 1 (hpre ⟨1, .data⟩ (by simp) rfl)
      have e22 := hF.gave 3 rfl (hpre ⟨3, .data⟩ (by simp) rfl) rfl
      have v3 := hR.2 3 (hpre ⟨3, .data⟩ (by simp) rfl)
      rw [show val 3 = .agg #[.int .i64 x1, .int .i64 x2] from v3] at e22
      clear v3
      have e24 := hF.gave 5 rfl (hpre ⟨5, .data⟩ (by simp) rfl) rfl
      have v5 := hR.2 5 (hpre ⟨5, .data⟩ (by simp) rfl)
      rw [show val 5 = .agg #[.int .i64 y1, .int .i64 y2] from v5] at e24
      clear v5
      have hgoal : ∀ v W', Below x.heap.size x W' → QL3 w.heap.size AX X.length cx AY Y.length cy AV V.length cv x1 x2 y1 y2 X Y V w1.heap.size p0 p1 pe 6 v W' → RXS (QL3 w.heap.size AX X.length cx AY Y.length cy AV V.length cv x1 x2 y1 y2 X Y V w1.heap.size p0 p1 pe) w1 p0 p1 pe (upd val 6 v) (L.setIfInBounds 6 true) W' := fun v W' hb hq => RXS.step hR hst hb hq (by decide) hN
      have q0 := cell_keep hR.1 t0
      have q1 := cell_keep hR.1 t1
      have q2 := cell_keep hR.1 t2
      have q3 := cell_keep hR.1 a0
      have q4 := cell_keep hR.1 a1
      have q5 := cell_keep hR.1 b0
      have q6 := cell_keep hR.1 b1
      have hM := Lib.hid hR.1
      clear hF hpre hl hR hN
      obtain ⟨AX', cx', AY', cy', AV', cv', e1, htb⟩ := v1
      rw [e1] at e20
      go_simp
      refine ⟨trivial, ?_⟩
      refine CallsIn.mono (callsIn_wide.2 (bound_any AX' AY' AV' _ cx' _ cy' _ cv' _ X Y V x1 x2 y1 y2 _ rfl rfl rfl hmx hmy hmv hmr (Nat.le_refl _) htb)) ?_
      rintro e y9 ⟨rfl, hb9⟩
      rw [HBS.out]
      exact ⟨_, rfl, hgoal _ _ hb9 rfl⟩
    | 7, ho =>
      simp at ho
      subst ho
      refine step_plain rfl ?_
      have hN := hF.later hl 11 rfl (e := ⟨7, .phase⟩) (by simp) rfl rfl
      have hR := hR.1 hN
      have e25 := hF.gave 6 rfl (hpre ⟨6, .data⟩ (by simp) rfl) rfl
      have v6 := hR.2 6 (hpre ⟨6, .data⟩ (by simp) rfl)
      rw [show val 6 = .tuple #[.agg #[.int .i64 p0, .int .i64 p1], .int .i64 pe] from v6] at e25
      clear v6
      have hgoal : ∀ v W', Below x.heap.size x W' → QL3 w.heap.size AX X.length cx AY Y.length cy AV V.length cv x1 x2 y1 y2 X Y V w1.heap.size p0 p1 pe 7 v W' → RXS (QL3 w.heap.size AX X.length cx AY Y.length cy AV V.length cv x1 x2 y1 y2 X Y V w1.heap.size p0 p1 pe) w1 p0 p1 pe (upd val 7 v) (L.setIfInBounds 7 true) W' := fun v W' hb hq => RXS.step hR hst hb hq (by decide) hN
      clear hF hpre hl hR hN
      go_simp
      exact ⟨_, rfl, hgoal _ _ (Below.refl _ _) rfl⟩
    | 8, ho =>
      simp at ho
      subst ho
      refine step_plain rfl ?_
      have hN := hF.later hl 11 rfl (e := ⟨8, .phase⟩) (by simp) rfl rfl
      have hR := hR.1 hN
      have e18 := hF.gave 7 rfl (hpre ⟨7, .data⟩ (by simp) rfl) rfl
      have v7 := hR.2 7 (hpre ⟨7, .data⟩ (by simp) rfl)
      rw [show val 7 = .tuple #[.agg #[.int .i64 p0, .int .i64 p1], .int .i64 pe] from v7] at e18
      clear v7
      have hgoal : ∀ v W', Below x.heap.size x W' → QL3 w.heap.size AX X.length cx AY Y.length cy AV V.length cv x1 x2 y1 y2 X Y V w1.heap.size p0 p1 pe 8 v W' → RXS (QL3 w.heap.size AX X.length cx AY Y.length cy AV V.length cv x1 x2 y1 y2 X Y V w1.heap.size p0 p1 pe) w1 p0 p1 pe (upd val 8 v) (L.setIfInBounds 8 true) W' := fun v W' hb hq => RXS.step hR hst hb hq (by decide) hN
      clear hF hpre hl hR hN
      go_simp
      exact ⟨_, rfl, hgoal _ _ (Below.refl _ _) rfl⟩
    | 9, ho =>
      simp at ho
      subst ho
      refine step_plain rfl ?_
      have e18 := hF.gave 7 rfl (hpre ⟨7, .data⟩ (by simp) rfl) rfl
      have hgoal : val 7 = .tuple #[.agg #[.int .i64 p0, .int .i64 p1], .int .i64 pe] ∧ RXS (QL3 w.heap.size AX X.length cx AY Y.length cy AV V.length cv x1 x2 y1 y2 X Y V w1.heap.size p0 p1 pe) w1 p0 p1 pe (upd val 9 (.int .i64 pe)) (L.setIfInBounds 9 true) x := RXS.step9 (Q := QL3 w.heap.size AX X.length cx AY Y.length cy AV V.length cv x1 x2 y1 y2 X Y V w1.heap.size p0 p1 pe) hR hst (fun hq => hq.2 7 (hpre ⟨7, .data⟩ (by simp) rfl)) rfl
      rw [hgoal.1] at e18
      clear hF hpre hl hR
      go_simp
      exact ⟨_, rfl, hgoal.2⟩
    | 10, ho =>
      simp at ho
      subst ho
      refine step_plain rfl ?_
      have hN := hF.later hl 11 rfl (e := ⟨10, .data⟩) (by simp) rfl rfl
      have hR := hR.1 hN
      have hgoal : ∀ v W', Below x.heap.size x W' → QL3 w.heap.size AX X.length cx AY Y.length cy AV V.length cv x1 x2 y1 y2 X Y V w1.heap.size p0 p1 pe 10 v W' → RXS (QL3 w.heap.size AX X.length cx AY Y.length cy AV V.length cv x1 x2 y1 y2 X Y V w1.heap.size p0 p1 pe) w1 p0 p1 pe (upd val 10 v) (L.setIfInBounds 10 true) W' := fun v W' hb hq => RXS.step hR hst hb hq (by decide) hN
      have hn : (x.alloc (.cells #[.int .i64 0, .int .i64 0] 37)).heap[x.heap.size]? = some (.cells #[.int .i64 0, .int .i64 0] 37 (0, 0)) := by show (x.heap.push _)[x.heap.size]? = _; simp
      have hf := fun o => block_frozen (o := o) hn
      have hcc := fun o => block_cell (o := o) hn
      have HN := Lib.hid (And.intro hf hcc)
      have hz := hR.1.size
      clear hF hpre hl hR hN hn hf hcc
      go_simp
      exact ⟨_, rfl, hgoal _ _ ((Below.refl _ _).alloc (Nat.le_refl _) _) ⟨_, rfl, hz, by simp, HN.out.1 0, HN.out.1 1, _, _, (HN.out.2 0).trans rfl, (HN.out.2 1).trans rfl⟩⟩
    | 11, ho =>
      simp at ho
      subst ho
      refine step_plain rfl ?_
      have e5 := hF.gave 10 rfl (hpre ⟨10, .data⟩ (by simp) rfl) rfl
      have e26 := hF.gave 8 rfl (hpre ⟨8, .data⟩ (by simp) rfl) rfl
      have hls : 11 < L.size := by rw [hF.lsize]; decide
      have hN : L.getD 11 false = false := by rw [← getD_same hls]; exact hl
      have hR := hR.1 hN
      have v8 := hR.2 8 (hpre ⟨8, .data⟩ (by simp) rfl)
      have v7 := hR.2 7 (hpre ⟨7, .phase⟩ (by simp) rfl)
      have v9 : L.getD 9 false = true → val 9 = .int .i64 pe := fun h => hR.2 9 h
      have v10 := hR.2 10 (hpre ⟨10, .data⟩ (by simp) rfl)
      have l12 := hF.later hl 12 rfl (e := ⟨11, .chain⟩) (by simp) rfl rfl
      rw [show val 8 = .agg #[.int .i64 p0, .int .i64 p1] from v8] at e26
      obtain ⟨q, v10e, hMq, hqx, hf0, hf1, u0, u1, hc0, hc1⟩ := v10
      have hgoal := RXS.store (Q := QL3 w.heap.size AX X.length cx AY Y.length cy AV V.length cv x1 x2 y1 y2 X Y V w1.heap.size p0 p1 pe) (q := q) (p0 := p0) (p1 := p1) (pe := pe) hls hR.1 hMq v10e v7 v9 (by rw [hc0]; rfl) (by rw [hc1]; rfl) l12
      rw [v10e] at e5
      clear hF hpre hl hR v8 v7 v9 hN
      go_simp
      exact ⟨undef, hgoal⟩
    | 12, ho =>
      simp at ho
      subst ho
      refine step_plain rfl ?_
      have e27 := hF.gave 9 rfl (hpre ⟨9, .data⟩ (by simp) rfl) rfl
      have hT : L.getD 11 false = true := hpre ⟨11, .chain⟩ (by simp) rfl
      have hR2 := hR.2 hT
      rw [hR2.2.2.2.1 (hpre ⟨9, .data⟩ (by simp) rfl)] at e27
      have hgoal : RXS (QL3 w.heap.size AX X.length cx AY Y.length cy AV V.length cv x1 x2 y1 y2 X Y V w1.heap.size p0 p1 pe) w1 p0 p1 pe (upd val 12 (.int .i64 pe)) (L.setIfInBounds 12 true) x := ⟨fun h => (by rw [getD_set_other (by decide), hT] at h; cases h), fun _ => ⟨hR2.1, hR2.2.1, hR2.2.2.1, fun h => hR2.2.2.2.1 (by rwa [getD_set_other (by decide)] at h), fun _ => rfl⟩⟩
      clear hF hpre hl hR hR2 hT
      go_simp
      exact ⟨_, rfl, hgoal⟩
    | i + 13, ho => simp at ho
  case hend =>
  intro val L b' w2 hF hall hR
  have e := hF.all (by kernel_rfl) hall
  obtain ⟨hb2, ⟨g5, e10, c0, c1⟩, _, _, e12⟩ := hR.2 (hall 11 (by decide))
  have e12' := e12 (hall 12 (by decide))
  have S2 := HS1.out.next hb2
  have HS2 := Lib.hid S2
  clear hF hall hR hst e12 hb2 t0 t1 t2 a0 a1 b0 b1 l9 HS1
  obtain ⟨t0, t1, t2, a0, a1, b0, b1, l9, _⟩ := S2
  subst e
  simp [final, dstOf, List.range, List.range.loop]
  rw [e10, e12']
  clear e10 e12'
  generalize val 0 = v0, val 1 = v1, val 2 = v2, val 3 = v3, val 4 = v4, val 5 = v5, val 6 = v6, val 7 = v7, val 8 = v8, val 9 = v9
  go_upto_region 5 with (go_at_call 50; refine Calls.mono (HRB.out _ HS2.out.b) ?_; rintro e w3 ⟨rfl, hb3⟩)
  have hb4 := Below.trans hb3 (((Below.refl w3.heap.size w3).alloc (Nat.le_refl _) (.cells #[.int .i64 p0, .int .i64 p1] 37)).mono hb3.size)
  have d0 : (w3.alloc (.cells #[.int .i64 p0, .int .i64 p1] 37)).cell? ⟨w3.heap.size, 0, none⟩ = some (.int .i64 p0) := by go_simp
  have d1 : (w3.alloc (.cells #[.int .i64 p0, .int .i64 p1] 37)).cell? ⟨w3.heap.size, 1, none⟩ = some (.int .i64 p1) := by go_simp
  generalize hW4 : w3.alloc (.cells #[.int .i64 p0, .int .i64 p1] 37) = w4 at *
  generalize w3.heap.size = g7 at *
  have c0 := cell_keep hb4 c0
  have c1 := cell_keep hb4 c1
  have S4 := HS2.out.next hb4
  have HS4 := Lib.hid S4
  clear hW4 hb3 hb4 t0 t1 t2 a0 a1 b0 b1 l9 HS2
  obtain ⟨t0, t1, t2, a0, a1, b0, b1, l9, _⟩ := S4
  have hst := QL5_stays w.heap.size AX X.length cx AY Y.length cy AV V.length cv x1 x2 y1 y2 X Y V u0 u1 ue
  refine wpIn_wide.1 (region_inv2 (n := 9) (by kernel_rfl) (RQ (QL5 w.heap.size AX X.length cx AY Y.length cy AV V.length cv x1 x2 y1 y2 X Y V u0 u1 ue) w4) (by kernel_rfl) rfl (RQ.start _ _ _) ?hstep ?hend)
  case hstep =>
    intro i' o ho val L b' x hF hR hpre hl
    match i', ho with
    | 0, ho =>
      simp at ho
      subst ho
      refine step_plain rfl ?_
      have e2 := hF.was 2 (by kernel_rfl) rfl
      have hgoal : ∀ v W', Below x.heap.size x W' → QL5 w.heap.size AX X.length cx AY Y.length cy AV V.length cv x1 x2 y1 y2 X Y V u0 u1 ue 0 v W' → RQ (QL5 w.heap.size AX X.length cx AY Y.length cy AV V.length cv x1 x2 y1 y2 X Y V u0 u1 ue) w4 (upd val 0 v) (L.setIfInBounds 0 true) W' := fun v W' hb hq => hR.step hst hb hq
      have q0 := cell_keep hR.1 t0
      have q1 := cell_keep hR.1 t1
      have q2 := cell_keep hR.1 t2
      have q3 := cell_keep hR.1 a0
      have q4 := cell_keep hR.1 a1
      have q5 := cell_keep hR.1 b0
      have q6 := cell_keep hR.1 b1
      clear hF hpre hl hR
      go_simp
      exact ⟨_, rfl, hgoal _ _ (Below.refl _ _) rfl⟩
    | 1, ho =>
      simp at ho
      subst ho
      refine step_plain rfl ?_
      have e38 := hF.gave 0 rfl (hpre ⟨0, .data⟩ (by simp) rfl) rfl
      have v0 := hR.2 0 (hpre ⟨0, .data⟩ (by simp) rfl)
      rw [show val 0 = .agg #[.slice AX X.length cx, .slice AY Y.length cy, .slice AV V.length cv] from v0] at e38
      clear v0
      have hgoal : ∀ v W', Below x.heap.size x W' → QL5 w.heap.size AX X.length cx AY Y.length cy AV V.length cv x1 x2 y1 y2 X Y V u0 u1 ue 1 v W' → RQ (QL5 w.heap.size AX X.length cx AY Y.length cy AV V.length cv x1 x2 y1 y2 X Y V u0 u1 ue) w4 (upd val 1 v) (L.setIfInBounds 1 true) W' := fun v W' hb hq => hR.step hst hb hq
      have q0 := cell_keep hR.1 t0
      have q1 := cell_keep hR.1 t1
      have q2 := cell_keep hR.1 t2
      have q3 := cell_keep hR.1 a0
      have q4 := cell_keep hR.1 a1
      have q5 := cell_keep hR.1 b0
      have q6 := cell_keep hR.1 b1
      have hM := Lib.hid hR.1
      clear hF hpre hl hR
      go_simp
      refine ⟨trivial, ?_⟩
      refine CallsIn.mono (callsIn_wide.2 (HCP.out _ (HS4.out.b.trans (hM.out.mono HS4.out.b.size)))) ?_
      rintro e y9 ⟨AX', cx', AY', cy', AV', cv', rfl, htb, hb9⟩
      exact ⟨_, rfl, hgoal _ _ hb9 ⟨AX', cx', AY', cy', AV', cv', rfl, htb⟩⟩
    | 2, ho =>
      simp at ho
      subst ho
      refine step_plain rfl ?_
      have e3 := hF.was 3 (by kernel_rfl) rfl
      have hgoal : ∀ v W', Below x.heap.size x W' → QL5 w.heap.size AX X.length cx AY Y.length cy AV V.length cv x1 x2 y1 y2 X Y V u0 u1 ue 2 v W' → RQ (QL5 w.heap.size AX X.length cx AY Y.length cy AV V.length cv x1 x2 y1 y2 X Y V u0 u1 ue) w4 (upd val 2 v) (L.setIfInBounds 2 true) W' := fun v W' hb hq => hR.step hst hb hq
      clear hF hpre hl hR
      go_simp
      exact ⟨_, rfl, hgoal _ _ (Below.refl _ _) rfl⟩
    | 3, ho =>
      simp at ho
      subst ho
      refine step_plain rfl ?_
      have e40 := hF.gave 2 rfl (hpre ⟨2, .data⟩ (by simp) rfl) rfl
      have v2 := hR.2 2 (hpre ⟨2, .data⟩ (by simp) rfl)
      rw [show val 2 = .pointer (some ⟨w.heap.size + 1, 0, none⟩) from v2] at e40
      clear v2
      have hgoal : ∀ v W', Below x.heap.size x W' → QL5 w.heap.size AX X.length cx AY Y.length cy AV V.length cv x1 x2 y1 y2 X Y V u0 u1 ue 3 v W' → RQ (QL5 w.heap.size AX X.length cx AY Y.length cy AV V.length cv x1 x2 y1 y2 X Y V u0 u1 ue) w4 (upd val 3 v) (L.setIfInBounds 3 true) W' := fun v W' hb hq => hR.step hst hb hq
      have q0 := cell_keep hR.1 t0
      have q1 := cell_keep hR.1 t1
      have q2 := cell_keep hR.1 t2
      have q3 := cell_keep hR.1 a0
      have q4 := cell_keep hR.1 a1
      have q5 := cell_keep hR.1 b0
      have q6 := cell_keep hR.1 b1
      clear hF hpre hl hR
      go_simp
      exact ⟨_, rfl, hgoal _ _ (Below.refl _ _) rfl⟩
    | 4, ho =>
      simp at ho
      subst ho
      refine step_plain rfl ?_
      have e3 := hF.was 3 (by kernel_rfl) rfl
      have hgoal : ∀ v W', Below x.heap.size x W' → QL5 w.heap.size AX X.length cx AY Y.length cy AV V.length cv x1 x2 y1 y2 X Y V u0 u1 ue 4 v W' → RQ (QL5 w.heap.size AX X.length cx AY Y.length cy AV V.length cv x1 x2 y1 y2 X Y V u0 u1 ue) w4 (upd val 4 v) (L.setIfInBounds 4 true) W' := fun v W' hb hq => hR.step hst hb hq
      clear hF hpre hl hR
      go_simp
      exact ⟨_, rfl, hgoal _ _ (Below.refl _ _) rfl⟩
    | 5, ho =>
      simp at ho
      subst ho
      refine step_plain rfl ?_
      have e42 := hF.gave 4 rfl (hpre ⟨4, .data⟩ (by simp) rfl) rfl
      have v4 := hR.2 4 (hpre ⟨4, .data⟩ (by simp) rfl)
      rw [show val 4 = .pointer (some ⟨w.heap.size + 1, 2, none⟩) from v4] at e42
      clear v4
      have hgoal : ∀ v W', Below x.heap.size x W' → QL5 w.heap.size AX X.length cx AY Y.length cy AV V.length cv x1 x2 y1 y2 X Y V u0 u1 ue 5 v W' → RQ (QL5 w.heap.size AX X.length cx AY Y.length cy AV V.length cv x1 x2 y1 y2 X Y V u0 u1 ue) w4 (upd val 5 v) (L.setIfInBounds 5 true) W' := fun v W' hb hq => hR.step hst hb hq
      have q0 := cell_keep hR.1 t0
      have q1 := cell_keep hR.1 t1
      have q2 := cell_keep hR.1 t2
      have q3 := cell_keep hR.1 a0
      have q4 := cell_keep hR.1 a1
      have q5 := cell_keep hR.1 b0
      have q6 := cell_keep hR.1 b1
      clear hF hpre hl hR
      go_simp
      exact ⟨_, rfl, hgoal _ _ (Below.refl _ _) rfl⟩
    | 6, ho =>
      simp at ho
      subst ho
      refine step_plain rfl ?_
      have e39 := hF.gave 1 rfl (hpre ⟨1, .data⟩ (by simp) rfl) rfl
      have v1 := hR.2 1 (hpre ⟨1, .data⟩ (by simp) rfl)
      have e41 := hF.gave 3 rfl (hpre ⟨3, .data⟩ (by simp) rfl) rfl
      have v3 := hR.2 3 (hpre ⟨3, .data⟩ (by simp) rfl)
      rw [show val 3 = .agg #[.int .i64 x1, .int .i64 x2] from v3] at e41
      clear v3
      have e43 := hF.gave 5 rfl (hpre ⟨5, .data⟩ (by simp) rfl) rfl
      have v5 := hR.2 5 (hpre ⟨5, .data⟩ (by simp) rfl)
      rw [show val 5 = .agg #[.int .i64 y1, .int .i64 y2] from v5] at e43
      clear v5
      have hgoal : ∀ v W', Below x.heap.size x W' → QL5 w.heap.size AX X.length cx AY Y.length cy AV V.length cv x1 x2 y1 y2 X Y V u0 u1 ue 6 v W' → RQ (QL5 w.heap.size AX X.length cx AY Y.length cy AV V.length cv x1 x2 y1 y2 X Y V u0 u1 ue) w4 (upd val 6 v) (L.setIfInBounds 6 true) W' := fun v W' hb hq => hR.step hst hb hq
      have q0 := cell_keep hR.1 t0
      have q1 := cell_keep hR.1 t1
      have q2 := cell_keep hR.1 t2
      have q3 := cell_keep hR.1 a0
      have q4 := cell_keep hR.1 a1
      have q5 := cell_keep hR.1 b0
      have q6 := cell_keep hR.1 b1
      have hM := Lib.hid hR.1
      clear hF hpre hl hR
      obtain ⟨AX', cx', AY', cy', AV', cv', e1, htb⟩ := v1
      rw [e1] at e39
      go_simp
      refine ⟨trivial, ?_⟩
      refine CallsIn.mono (callsIn_wide.2 (worst_any AX' AY' AV' _ cx' _ cy' _ cv' _ X Y V x1 x2 y1 y2 _ rfl rfl rfl hmx hmy hmv hmr (Nat.le_refl _) htb)) ?_
      rintro e y9 ⟨rfl, hb9⟩
      rw [HWS.out]
      exact ⟨_, rfl, hgoal _ _ hb9 rfl⟩
    | 7, ho =>
      simp at ho
      subst ho
      refine step_plain rfl ?_
      have e44 := hF.gave 6 rfl (hpre ⟨6, .data⟩ (by simp) rfl) rfl
      have v6 := hR.2 6 (hpre ⟨6, .data⟩ (by simp) rfl)
      rw [show val 6 = .tuple #[.int .i64 u0, .int .i64 u1, .int .i64 ue] from v6] at e44
      clear v6
      have hgoal : ∀ v W', Below x.heap.size x W' → QL5 w.heap.size AX X.length cx AY Y.length cy AV V.length cv x1 x2 y1 y2 X Y V u0 u1 ue 7 v W' → RQ (QL5 w.heap.size AX X.length cx AY Y.length cy AV V.length cv x1 x2 y1 y2 X Y V u0 u1 ue) w4 (upd val 7 v) (L.setIfInBounds 7 true) W' := fun v W' hb hq => hR.step hst hb hq
      clear hF hpre hl hR
      go_simp
      exact ⟨_, rfl, hgoal _ _ (Below.refl _ _) rfl⟩
    | 8, ho =>
      simp at ho
      subst ho
      refine step_plain rfl ?_
      have e37 := hF.gave 7 rfl (hpre ⟨7, .data⟩ (by simp) rfl) rfl
      have v7 := hR.2 7 (hpre ⟨7, .data⟩ (by simp) rfl)
      rw [show val 7 = .tuple #[.int .i64 u0, .int .i64 u1, .int .i64 ue] from v7] at e37
      clear v7
      have hgoal : ∀ v W', Below x.heap.size x W' → QL5 w.heap.size AX X.length cx AY Y.length cy AV V.length cv x1 x2 y1 y2 X Y V u0 u1 ue 8 v W' → RQ (QL5 w.heap.size AX X.length cx AY Y.length cy AV V.length cv x1 x2 y1 y2 X Y V u0 u1 ue) w4 (upd val 8 v) (L.setIfInBounds 8 true) W' := fun v W' hb hq => hR.step hst hb hq
      clear hF hpre hl hR
      go_simp
      exact ⟨_, rfl, hgoal _ _ (Below.refl _ _) rfl⟩
    | 9, ho =>
      simp at ho
      subst ho
      refine step_plain rfl ?_
      have e37 := hF.gave 7 rfl (hpre ⟨7, .data⟩ (by simp) rfl) rfl
      have v7 := hR.2 7 (hpre ⟨7, .data⟩ (by simp) rfl)
      rw [show val 7 = .tuple #[.int .i64 u0, .int .i64 u1, .int .i64 ue] from v7] at e37
      clear v7
      have hgoal : ∀ v W', Below x.heap.size x W' → QL5 w.heap.size AX X.length cx AY Y.length cy AV V.length cv x1 x2 y1 y2 X Y V u0 u1 ue 9 v W' → RQ (QL5 w.heap.size AX X.length cx AY Y.length cy AV V.length cv x1 x2 y1 y2 X Y V u0 u1 ue) w4 (upd val 9 v) (L.setIfInBounds 9 true) W' := fun v W' hb hq => hR.step hst hb hq
      clear hF hpre hl hR
      go_simp
      exact ⟨_, rfl, hgoal _ _ (Below.refl _ _) rfl⟩
    | 10, ho =>
      simp at ho
      subst ho
      refine step_plain rfl ?_
      have e37 := hF.gave 7 rfl (hpre ⟨7, .data⟩ (by simp) rfl) rfl
      have v7 := hR.2 7 (hpre ⟨7, .data⟩ (by simp) rfl)
      rw [show val 7 = .tuple #[.int .i64 u0, .int .i64 u1, .int .i64 ue] from v7] at e37
      clear v7
      have hgoal : ∀ v W', Below x.heap.size x W' → QL5 w.heap.size AX X.length cx AY Y.length cy AV V.length cv x1 x2 y1 y2 X Y V u0 u1 ue 10 v W' → RQ (QL5 w.heap.size AX X.length cx AY Y.length cy AV V.length cv x1 x2 y1 y2 X Y V u0 u1 ue) w4 (upd val 10 v) (L.setIfInBounds 10 true) W' := fun v W' hb hq => hR.step hst hb hq
      clear hF hpre hl hR
      go_simp
      exact ⟨_, rfl, hgoal _ _ (Below.refl _ _) rfl⟩
    | 11, ho =>
      simp at ho
      subst ho
      refine step_plain rfl ?_
      have e45 := hF.gave 8 rfl (hpre ⟨8, .data⟩ (by simp) rfl) rfl
      have v8 := hR.2 8 (hpre ⟨8, .data⟩ (by simp) rfl)
      rw [show val 8 = .int .i64 u0 from v8] at e45
      clear v8
      have hgoal : ∀ v W', Below x.heap.size x W' → QL5 w.heap.size AX X.length cx AY Y.length cy AV V.length cv x1 x2 y1 y2 X Y V u0 u1 ue 11 v W' → RQ (QL5 w.heap.size AX X.length cx AY Y.length cy AV V.length cv x1 x2 y1 y2 X Y V u0 u1 ue) w4 (upd val 11 v) (L.setIfInBounds 11 true) W' := fun v W' hb hq => hR.step hst hb hq
      clear hF hpre hl hR
      go_simp
      exact ⟨_, rfl, hgoal _ _ (Below.refl _ _) rfl⟩
    | 12, ho =>
      simp at ho
      subst ho
      refine step_plain rfl ?_
      have e46 := hF.gave 9 rfl (hpre ⟨9, .data⟩ (by simp) rfl) rfl
      have v9 := hR.2 9 (hpre ⟨9, .data⟩ (by simp) rfl)
      rw [show val 9 = .int .i64 u1 from v9] at e46
      clear v9
      have hgoal : ∀ v W', Below x.heap.size x W' → QL5 w.heap.size AX X.length cx AY Y.length cy AV V.length cv x1 x2 y1 y2 X Y V u0 u1 ue 12 v W' → RQ (QL5 w.heap.size AX X.length cx AY Y.length cy AV V.length cv x1 x2 y1 y2 X Y V u0 u1 ue) w4 (upd val 12 v) (L.setIfInBounds 12 true) W' := fun v W' hb hq => hR.step hst hb hq
      clear hF hpre hl hR
      go_simp
      exact ⟨_, rfl, hgoal _ _ (Below.refl _ _) rfl⟩
    | 13, ho =>
      simp at ho
      subst ho
      refine step_plain rfl ?_
      have e47 := hF.gave 10 rfl (hpre ⟨10, .data⟩ (by simp) rfl) rfl
      have v10 := hR.2 10 (hpre ⟨10, .data⟩ (by simp) rfl)
      rw [show val 10 = .int .i64 ue from v10] at e47
      clear v10
      have hgoal : ∀ v W', Below x.heap.size x W' → QL5 w.heap.size AX X.length cx AY Y.length cy AV V.length cv x1 x2 y1 y2 X Y V u0 u1 ue 13 v W' → RQ (QL5 w.heap.size AX X.length cx AY Y.length cy AV V.length cv x1 x2 y1 y2 X Y V u0 u1 ue) w4 (upd val 13 v) (L.setIfInBounds 13 true) W' := fun v W' hb hq => hR.step hst hb hq
      clear hF hpre hl hR
      go_simp
      exact ⟨_, rfl, hgoal _ _ (Below.refl _ _) rfl⟩
    | i + 14, ho => simp at ho
  case hend =>
  intro val L b' w5 hF hall hR
  have e := hF.all (by kernel_rfl) hall
  have v11' := hR.2 11 (hall 11 (by decide))
  have v12' := hR.2 12 (hall 12 (by decide))
  have v13' := hR.2 13 (hall 13 (by decide))
  have hb5 := hR.1
  have c0 := cell_keep hb5 c0
  have c1 := cell_keep hb5 c1
  have d0 := cell_keep hb5 d0
  have d1 := cell_keep hb5 d1
  have S5 := HS4.out.next hb5
  have HS5 := Lib.hid S5
  clear hF hall hR hst hb5 t0 t1 t2 a0 a1 b0 b1 l9 HS4
  obtain ⟨t0, t1, t2, a0, a1, b0, b1, l9, _⟩ := S5
  subst e
  simp [final, dstOf, List.range, List.range.loop]
  rw [show val 11 = .int .i64 u0 from v11', show val 12 = .int .i64 u1 from v12', show val 13 = .int .i64 ue from v13']
  clear v11' v12' v13'
  generalize val 0 = z0, val 1 = z1, val 2 = z2, val 3 = z3, val 4 = z4, val 5 = z5, val 6 = z6, val 7 = z7, val 8 = z8, val 9 = z9, val 10 = z10
  go_upto_region 7 with (go_at_call 52; refine Calls.mono (HRW.out _ HS5.out.b) ?_; rintro e w6 ⟨rfl, hb6⟩)
  have c0 := cell_keep hb6 c0
  have c1 := cell_keep hb6 c1
  have d0 := cell_keep hb6 d0
  have d1 := cell_keep hb6 d1
  have HB6 := Lib.hid (HS5.out.b.trans (hb6.mono HS5.out.b.size))
  clear hb6 t0 t1 t2 a0 a1 b0 b1 l9
  go_wp2_with (go_at_call 18; refine Calls.mono (HWK.out _) ?_; rintro e w7 ⟨rfl, hb7⟩)
  go_ret
  exact ⟨rfl, HB6.out.trans (hb7.mono HB6.out.size)⟩

end Go.Proofs.Ytjdahphnmeaolaa

/- swashplatelaw01.SpansGreatest returns true at every input, and the input reads as it did: no condition. -/
import Derived.Test.YtjdahphnmeaolaaRgst
import Derived.Test.YtjdahphnmeaolaaRowVal
namespace Go.Proofs.Ytjdahphnmeaolaa
open Go.RowKit

def GT (X Y : List Int) (V : List (List Int)) (v : Value) (W : World) : Prop := ∃ AX cx AY cy AV cv, v = .agg #[.slice AX X.length cx, .slice AY Y.length cy, .slice AV V.length cv] ∧ TB W W.heap.size AX AY AV X Y V
theorem GT.stay {X Y : List Int} {V : List (List Int)} {v : Value} {W W' : World} (h : GT X Y V v W) (hb : Below W.heap.size W W') : GT X Y V v W' := by
  obtain ⟨AX, cx, AY, cy, AV, cv, e, h⟩ := h
  exact ⟨AX, cx, AY, cy, AV, cv, e, (h.below hb).more hb.size⟩

/-- With a greater limit it is not less. -/
theorem grS_mono {X Y : List Int} {V : List (List Int)} {y1 y2 l0 l1 : Int} (hl : l0 ≤ l1) (h0 : (grS X Y V y1 y2 l0).2 = 0) : (grS X Y V y1 y2 l1).2 = 0 ∧ (grS X Y V y1 y2 l0).1 ≤ (grS X Y V y1 y2 l1).1 := by
  cases hct : ctB X Y V with
  | false => unfold grS at h0; rw [hct] at h0; simp at h0
  | true =>
  cases hv : vI y1 y2 with
  | false =>
    unfold grS at h0
    rw [hct] at h0
    simp only [List.all_cons, List.all_nil, Bool.and_true, vS_vI, hv] at h0
    simp at h0
  | true =>
  cases ho : onB Y [y1, y2] with
  | false =>
    unfold grS at h0
    rw [hct] at h0
    simp only [List.all_cons, List.all_nil, Bool.and_true, vS_vI, hv, ho] at h0
    simp at h0
  | true =>
  have hoy : On Y y1 ∧ On Y y2 := by
    unfold onB wB at ho
    simp at ho
    unfold On gz
    omega
  have a := grS_is (lim := l0) hct hv hoy.1 hoy.2
  have b := grS_is (lim := l1) hct hv hoy.1 hoy.2
  exact a.mono b (fun x _ _ h => by omega) h0

def QGA (g : Nat) (AX : Option Addr) (nx : Nat) (cx : Nat) (AY : Option Addr) (ny : Nat) (cy : Nat) (AV : Option Addr) (nv : Nat) (cv : Nat) (j : Nat) (v : Value) (_ : World) : Prop :=
  match j with
  | 0 => v = .agg #[.slice AX nx cx, .slice AY ny cy, .slice AV nv cv]
  | 1 => v = .bool true
  | 2 => v = .bool true
  | 3 => v = undef
  | 4 => v = undef
  | 5 => v = undef
  | 6 => v = undef
  | 7 => v = undef
  | 8 => v = undef
  | 9 => v = undef
  | 10 => v = undef
  | 11 => v = undef
  | 12 => v = undef
  | 13 => v = undef
  | 14 => v = undef
  | 15 => v = undef
  | 16 => v = undef
  | 17 => v = undef
  | 18 => v = undef
  | 19 => v = undef
  | 20 => v = undef
  | 21 => v = undef
  | 22 => v = .bool true
  | _ => True
theorem QGA_stays (g : Nat) (AX : Option Addr) (nx : Nat) (cx : Nat) (AY : Option Addr) (ny : Nat) (cy : Nat) (AV : Option Addr) (nv : Nat) (cv : Nat) : Stays (QGA g AX nx cx AY ny cy AV nv cv) := fun j v W W' h _ => by
  unfold QGA at h ⊢
  split at h <;> exact h
def QGB (g : Nat) (AX : Option Addr) (nx : Nat) (cx : Nat) (AY : Option Addr) (ny : Nat) (cy : Nat) (AV : Option Addr) (nv : Nat) (cv : Nat) (j : Nat) (v : Value) (_ : World) : Prop :=
  match j with
  | 0 => v = .agg #[.slice AX nx cx, .slice AY ny cy, .slice AV nv cv]
  | 1 => v = .bool false
  | 2 => v = .bool false
  | 3 => v = .agg #[.slice AX nx cx, .slice AY ny cy, .slice AV nv cv]
  | 4 => v = .int .i64 11
  | 5 => v = .bool false
  | 6 => v = .bool false
  | 7 => v = undef
  | 8 => v = undef
  | 9 => v = undef
  | 10 => v = undef
  | 11 => v = undef
  | 12 => v = undef
  | 13 => v = undef
  | 14 => v = undef
  | 15 => v = undef
  | 16 => v = undef
  | 17 => v = undef
  | 18 => v = undef
  | 19 => v = undef
  | 20 => v = undef
  | 21 => v = .bool false
  | 22 => v = .bool false
  | _ => True
theorem QGB_stays (g : Nat) (AX : Option Addr) (nx : Nat) (cx : Nat) (AY : Option Addr) (ny : Nat) (cy : Nat) (AV : Option Addr) (nv : Nat) (cv : Nat) : Stays (QGB g AX nx cx AY ny cy AV nv cv) := fun j v W W' h _ => by
  unfold QGB at h ⊢
  split at h <;> exact h
def QGC (g : Nat) (nx : Nat) (cx : Nat) (AY : Option Addr) (ny : Nat) (cy : Nat) (AV : Option Addr) (nv : Nat) (cv : Nat) (bx : Nat) (ox : Nat) (xa : Int) (xb : Int) (j : Nat) (v : Value) (_ : World) : Prop :=
  match j with
  | 0 => v = .agg #[.slice (some ⟨bx, ox, none⟩) nx cx, .slice AY ny cy, .slice AV nv cv]
  | 1 => v = .bool false
  | 2 => v = .bool false
  | 3 => v = .agg #[.slice (some ⟨bx, ox, none⟩) nx cx, .slice AY ny cy, .slice AV nv cv]
  | 4 => v = .int .i64 0
  | 5 => v = .bool true
  | 6 => v = .bool true
  | 7 => v = .pointer (some ⟨g, 0, none⟩)
  | 8 => v = .slice (some ⟨bx, ox, none⟩) nx cx
  | 9 => v = .pointer (some ⟨g, 0, none⟩)
  | 10 => v = .slice (some ⟨bx, ox, none⟩) nx cx
  | 11 => v = .int .i64 (nx : Nat)
  | 12 => v = .int .i64 ((nx : Nat) - 1)
  | 13 => v = .pointer (some ⟨bx, ox + (nx - 1), none⟩)
  | 14 => v = .int .i64 xb
  | 15 => v = .pointer (some ⟨g, 0, none⟩)
  | 16 => v = .slice (some ⟨bx, ox, none⟩) nx cx
  | 17 => v = .pointer (some ⟨bx, ox, none⟩)
  | 18 => v = .int .i64 xa
  | 19 => v = .int .i64 (xb - xa)
  | 20 => v = .bool true
  | 21 => v = .bool true
  | 22 => v = .bool true
  | _ => True
theorem QGC_stays (g : Nat) (nx : Nat) (cx : Nat) (AY : Option Addr) (ny : Nat) (cy : Nat) (AV : Option Addr) (nv : Nat) (cv : Nat) (bx : Nat) (ox : Nat) (xa : Int) (xb : Int) : Stays (QGC g nx cx AY ny cy AV nv cv bx ox xa xb) := fun j v W W' h _ => by
  unfold QGC at h ⊢
  split at h <;> exact h
def QGD (g : Nat) (nx : Nat) (cx : Nat) (AY : Option Addr) (ny : Nat) (cy : Nat) (AV : Option Addr) (nv : Nat) (cv : Nat) (bx : Nat) (ox : Nat) (xa : Int) (xb : Int) (j : Nat) (v : Value) (_ : World) : Prop :=
  match j with
  | 0 => v = .agg #[.slice (some ⟨bx, ox, none⟩) nx cx, .slice AY ny cy, .slice AV nv cv]
  | 1 => v = .bool false
  | 2 => v = .bool false
  | 3 => v = .agg #[.slice (some ⟨bx, ox, none⟩) nx cx, .slice AY ny cy, .slice AV nv cv]
  | 4 => v = .int .i64 0
  | 5 => v = .bool true
  | 6 => v = .bool true
  | 7 => v = .pointer (some ⟨g, 0, none⟩)
  | 8 => v = .slice (some ⟨bx, ox, none⟩) nx cx
  | 9 => v = .pointer (some ⟨g, 0, none⟩)
  | 10 => v = .slice (some ⟨bx, ox, none⟩) nx cx
  | 11 => v = .int .i64 (nx : Nat)
  | 12 => v = .int .i64 ((nx : Nat) - 1)
  | 13 => v = .pointer (some ⟨bx, ox + (nx - 1), none⟩)
  | 14 => v = .int .i64 xb
  | 15 => v = .pointer (some ⟨g, 0, none⟩)
  | 16 => v = .slice (some ⟨bx, ox, none⟩) nx cx
  | 17 => v = .pointer (some ⟨bx, ox, none⟩)
  | 18 => v = .int .i64 xa
  | 19 => v = .int .i64 (xb - xa)
  | 20 => v = .bool false
  | 21 => v = .bool false
  | 22 => v = .bool false
  | _ => True
theorem QGD_stays (g : Nat) (nx : Nat) (cx : Nat) (AY : Option Addr) (ny : Nat) (cy : Nat) (AV : Option Addr) (nv : Nat) (cv : Nat) (bx : Nat) (ox : Nat) (xa : Int) (xb : Int) : Stays (QGD g nx cx AY ny cy AV nv cv bx ox xa xb) := fun j v W W' h _ => by
  unfold QGD at h ⊢
  split at h <;> exact h
def QG3 (g : Nat) (AX : Option Addr) (nx : Nat) (cx : Nat) (AY : Option Addr) (ny : Nat) (cy : Nat) (AV : Option Addr) (nv : Nat) (cv : Nat) (y1 : Int) (y2 : Int) (l : Int) (r1 : Int) (r2 : Int) (X : List Int) (Y : List Int) (V : List (List Int)) (j : Nat) (v : Value) (W : World) : Prop :=
  match j with
  | 0 => v = .agg #[.slice AX nx cx, .slice AY ny cy, .slice AV nv cv]
  | 1 => GT X Y V v W
  | 2 => v = .agg #[.int .i64 y1, .int .i64 y2]
  | 3 => v = .pointer (some ⟨g + 1 + 1, 0, none⟩)
  | 4 => v = .int .i64 l
  | 5 => v = .tuple #[.int .i64 r1, .int .i64 r2]
  | 6 => v = .tuple #[.int .i64 r1, .int .i64 r2]
  | 7 => v = .int .i64 r1
  | 8 => v = .int .i64 r2
  | 9 => v = .int .i64 r1
  | 10 => v = .int .i64 r2
  | _ => True
theorem QG3_stays (g : Nat) (AX : Option Addr) (nx : Nat) (cx : Nat) (AY : Option Addr) (ny : Nat) (cy : Nat) (AV : Option Addr) (nv : Nat) (cv : Nat) (y1 : Int) (y2 : Int) (l : Int) (r1 : Int) (r2 : Int) (X : List Int) (Y : List Int) (V : List (List Int)) : Stays (QG3 g AX nx cx AY ny cy AV nv cv y1 y2 l r1 r2 X Y V) := fun j v W W' h hb => by
  unfold QG3 at h ⊢
  split at h <;> first | exact h | exact h.stay hb
def QG7 (g : Nat) (AX : Option Addr) (nx : Nat) (cx : Nat) (AY : Option Addr) (ny : Nat) (cy : Nat) (AV : Option Addr) (nv : Nat) (cv : Nat) (y1 : Int) (y2 : Int) (l : Int) (r1 : Int) (r2 : Int) (X : List Int) (Y : List Int) (V : List (List Int)) (j : Nat) (v : Value) (W : World) : Prop :=
  match j with
  | 0 => v = .agg #[.slice AX nx cx, .slice AY ny cy, .slice AV nv cv]
  | 1 => GT X Y V v W
  | 2 => v = .agg #[.int .i64 y1, .int .i64 y2]
  | 3 => v = .pointer (some ⟨g + 1 + 1, 1, none⟩)
  | 4 => v = .int .i64 l
  | 5 => v = .tuple #[.int .i64 r1, .int .i64 r2]
  | 6 => v = .tuple #[.int .i64 r1, .int .i64 r2]
  | 7 => v = .int .i64 r1
  | 8 => v = .int .i64 r2
  | 9 => v = .int .i64 r1
  | 10 => v = .int .i64 r2
  | _ => True
theorem QG7_stays (g : Nat) (AX : Option Addr) (nx : Nat) (cx : Nat) (AY : Option Addr) (ny : Nat) (cy : Nat) (AV : Option Addr) (nv : Nat) (cv : Nat) (y1 : Int) (y2 : Int) (l : Int) (r1 : Int) (r2 : Int) (X : List Int) (Y : List Int) (V : List (List Int)) : Stays (QG7 g AX nx cx AY ny cy AV nv cv y1 y2 l r1 r2 X Y V) := fun j v W W' h hb => by
  unfold QG7 at h ⊢
  split at h <;> first | exact h | exact h.stay hb

set_option maxRecDepth 100000 in
set_option maxHeartbeats 4000000 in
theorem law_greatest (AX AY AV : Option Addr) (nx cx ny cy nv cv B : Nat) (X Y : List Int) (V : List (List Int)) (y1 y2 l0 l1 : Int) (w : World) (hx : X.length = nx) (hy : Y.length = ny) (hv : V.length = nv) (hmx : nx ≤ maxLen) (hmy : ny ≤ maxLen) (hmv : nv ≤ maxLen) (hmr : ∀ r ∈ V, r.length ≤ maxLen)
    (hB : B ≤ w.heap.size) (h : TB w B AX AY AV X Y V) :
    Calls Try.prog 12 #[.agg #[.slice AX nx cx, .slice AY ny cy, .slice AV nv cv], .agg #[.int .i64 y1, .int .i64 y2], .agg #[.int .i64 l0, .int .i64 l1]] w fun e w' => e = .returned (.bool true) ∧ Below w.heap.size w w' := by
  subst hx hy hv
  have HWK := Lib.hid works_any
  have HT := Lib.hid h
  have HFAR := Lib.hid (fun (W : World) (hW : Below w.heap.size w W) => far_any AX AY AV _ cx _ cy _ cv B X Y V W rfl rfl rfl hmx hmy hmv (by have := hW.size; omega) (h.below (hW.mono hB)))
  have HRC := Lib.hid (fun (W : World) (hW : Below w.heap.size w W) => rct_any AX AY AV _ cx _ cy _ cv B X Y V W rfl rfl rfl hmx hmy hmv hmr (by have := hW.size; omega) (h.below (hW.mono hB)))
  have S0 := VS.start w AX AY AV X.length cx Y.length cy V.length cv y1 y2 l0 l1 27 37 41
  have HS0 := Lib.hid S0
  clear h S0
  cases hf : farB X Y V with
  | true =>
    have HF := Lib.hid hf
    clear hf
    go_enter Try.func12, Try.ntmps12
    go_upto_region 1 with fail
    have S1 := HS0.out
    generalize hW0 : (((w.alloc _).alloc _).alloc _) = W0 at *
    have HW0 := Lib.hid S1.b
    obtain ⟨t0, t1, t2, p0, p1, n0, n1, l9, _⟩ := S1
    clear hW0 HS0
    have hst := QGA_stays w.heap.size AX X.length cx AY Y.length cy AV V.length cv
    refine wpIn_wide.1 (region_inv2 (n := 9) (by kernel_rfl) (RQ (QGA w.heap.size AX X.length cx AY Y.length cy AV V.length cv) W0) (by kernel_rfl) rfl (RQ.start _ _ _) ?hstep ?hend)
    case hstep =>
      intro i' o ho val L b' x hF hR hpre hl
      match i', ho with
      | 0, ho =>
        simp at ho
        subst ho
        refine step_plain rfl ?_
        have e3 := hF.was 3 (by kernel_rfl) rfl
        have hgoal : ∀ v W', Below x.heap.size x W' → QGA w.heap.size AX X.length cx AY Y.length cy AV V.length cv 0 v W' → RQ (QGA w.heap.size AX X.length cx AY Y.length cy AV V.length cv) W0 (upd val 0 v) (L.setIfInBounds 0 true) W' := fun v W' hb hq => hR.step hst hb hq
        have q0 := cell_keep hR.1 t0
        have q1 := cell_keep hR.1 t1
        have q2 := cell_keep hR.1 t2
        clear hF hpre hl hR
        go_simp
        exact ⟨_, rfl, hgoal _ _ (Below.refl _ _) rfl⟩
      | 1, ho =>
        simp at ho
        subst ho
        refine step_plain rfl ?_
        have e13 := hF.gave 0 rfl (hpre ⟨0, .data⟩ (by simp) rfl) rfl
        have v0 := hR.2 0 (hpre ⟨0, .data⟩ (by simp) rfl)
        rw [show val 0 = .agg #[.slice AX X.length cx, .slice AY Y.length cy, .slice AV V.length cv] from v0] at e13
        clear v0
        have hgoal : ∀ v W', Below x.heap.size x W' → QGA w.heap.size AX X.length cx AY Y.length cy AV V.length cv 1 v W' → RQ (QGA w.heap.size AX X.length cx AY Y.length cy AV V.length cv) W0 (upd val 1 v) (L.setIfInBounds 1 true) W' := fun v W' hb hq => hR.step hst hb hq
        have q0 := cell_keep hR.1 t0
        have q1 := cell_keep hR.1 t1
        have q2 := cell_keep hR.1 t2
        have hM := Lib.hid hR.1
        clear hF hpre hl hR
        go_simp
        refine ⟨trivial, ?_⟩
        refine CallsIn.mono (callsIn_wide.2 (HFAR.out _ (HW0.out.trans (hM.out.mono HW0.out.size)))) ?_
        rintro e y9 ⟨rfl, hb9⟩
        rw [HF.out]
        exact ⟨_, rfl, hgoal _ _ hb9 rfl⟩
      | 2, ho =>
        simp at ho
        subst ho
        refine step_plain rfl ?_
        have e14 := hF.gave 1 rfl (hpre ⟨1, .data⟩ (by simp) rfl) rfl
        have v1 := hR.2 1 (hpre ⟨1, .data⟩ (by simp) rfl)
        rw [show val 1 = .bool true from v1] at e14
        clear v1
        have hgoal : ∀ v W', Below x.heap.size x W' → QGA w.heap.size AX X.length cx AY Y.length cy AV V.length cv 2 v W' → RQ (QGA w.heap.size AX X.length cx AY Y.length cy AV V.length cv) W0 (upd val 2 v) (L.setIfInBounds 2 true) W' := fun v W' hb hq => hR.step hst hb hq
        clear hF hpre hl hR
        go_simp
        exact ⟨_, rfl, hgoal _ _ (Below.refl _ _) rfl⟩
      | 3, ho =>
        simp at ho
        subst ho
        refine step_skip (j := 2) (s := 15) (b := false) hF rfl rfl (by kernel_rfl) (hpre ⟨2, .guard⟩ (by simp) rfl) (hR.2 2 (hpre ⟨2, .guard⟩ (by simp) rfl)) (by simp) ?_
        exact ⟨fun _ _ => trivial, hR.step hst (Below.refl _ _) rfl⟩
      | 4, ho =>
        simp at ho
        subst ho
        refine step_skip (j := 2) (s := 15) (b := false) hF rfl rfl (by kernel_rfl) (hpre ⟨2, .guard⟩ (by simp) rfl) (hR.2 2 (hpre ⟨2, .guard⟩ (by simp) rfl)) (by simp) ?_
        exact ⟨fun _ _ => trivial, hR.step hst (Below.refl _ _) rfl⟩
      | 5, ho =>
        simp at ho
        subst ho
        refine step_skip (j := 2) (s := 15) (b := false) hF rfl rfl (by kernel_rfl) (hpre ⟨2, .guard⟩ (by simp) rfl) (hR.2 2 (hpre ⟨2, .guard⟩ (by simp) rfl)) (by simp) ?_
        exact ⟨fun _ _ => trivial, hR.step hst (Below.refl _ _) rfl⟩
      | 6, ho =>
        simp at ho
        subst ho
        refine step_skip (j := 2) (s := 15) (b := false) hF rfl rfl (by kernel_rfl) (hpre ⟨2, .guard⟩ (by simp) rfl) (hR.2 2 (hpre ⟨2, .guard⟩ (by simp) rfl)) (by simp) ?_
        exact ⟨fun _ _ => trivial, hR.step hst (Below.refl _ _) rfl⟩
      | 7, ho =>
        simp at ho
        subst ho
        refine step_skip (j := 6) (s := 19) (b := true) hF rfl rfl (by kernel_rfl) (hpre ⟨6, .guard⟩ (by simp) rfl) (hR.2 6 (hpre ⟨6, .guard⟩ (by simp) rfl)) (undef_ne _) ?_
        exact ⟨fun _ _ => trivial, hR.step hst (Below.refl _ _) rfl⟩
      | 8, ho =>
        simp at ho
        subst ho
        refine step_skip (j := 6) (s := 19) (b := true) hF rfl rfl (by kernel_rfl) (hpre ⟨6, .guard⟩ (by simp) rfl) (hR.2 6 (hpre ⟨6, .guard⟩ (by simp) rfl)) (undef_ne _) ?_
        exact ⟨fun _ _ => trivial, hR.step hst (Below.refl _ _) rfl⟩
      | 9, ho =>
        simp at ho
        subst ho
        refine step_skip (j := 6) (s := 19) (b := true) hF rfl rfl (by kernel_rfl) (hpre ⟨6, .guard⟩ (by simp) rfl) (hR.2 6 (hpre ⟨6, .guard⟩ (by simp) rfl)) (undef_ne _) ?_
        exact ⟨fun _ _ => trivial, hR.step hst (Below.refl _ _) rfl⟩
      | 10, ho =>
        simp at ho
        subst ho
        refine step_skip (j := 6) (s := 19) (b := true) hF rfl rfl (by kernel_rfl) (hpre ⟨6, .guard⟩ (by simp) rfl) (hR.2 6 (hpre ⟨6, .guard⟩ (by simp) rfl)) (undef_ne _) ?_
        exact ⟨fun _ _ => trivial, hR.step hst (Below.refl _ _) rfl⟩
      | 11, ho =>
        simp at ho
        subst ho
        refine step_skip (j := 6) (s := 19) (b := true) hF rfl rfl (by kernel_rfl) (hpre ⟨6, .guard⟩ (by simp) rfl) (hR.2 6 (hpre ⟨6, .guard⟩ (by simp) rfl)) (undef_ne _) ?_
        exact ⟨fun _ _ => trivial, hR.step hst (Below.refl _ _) rfl⟩
      | 12, ho =>
        simp at ho
        subst ho
        refine step_skip (j := 6) (s := 19) (b := true) hF rfl rfl (by kernel_rfl) (hpre ⟨6, .guard⟩ (by simp) rfl) (hR.2 6 (hpre ⟨6, .guard⟩ (by simp) rfl)) (undef_ne _) ?_
        exact ⟨fun _ _ => trivial, hR.step hst (Below.refl _ _) rfl⟩
      | 13, ho =>
        simp at ho
        subst ho
        refine step_skip (j := 6) (s := 19) (b := true) hF rfl rfl (by kernel_rfl) (hpre ⟨6, .guard⟩ (by simp) rfl) (hR.2 6 (hpre ⟨6, .guard⟩ (by simp) rfl)) (undef_ne _) ?_
        exact ⟨fun _ _ => trivial, hR.step hst (Below.refl _ _) rfl⟩
      | 14, ho =>
        simp at ho
        subst ho
        refine step_skip (j := 6) (s := 19) (b := true) hF rfl rfl (by kernel_rfl) (hpre ⟨6, .guard⟩ (by simp) rfl) (hR.2 6 (hpre ⟨6, .guard⟩ (by simp) rfl)) (undef_ne _) ?_
        exact ⟨fun _ _ => trivial, hR.step hst (Below.refl _ _) rfl⟩
      | 15, ho =>
        simp at ho
        subst ho
        refine step_skip (j := 6) (s := 19) (b := true) hF rfl rfl (by kernel_rfl) (hpre ⟨6, .guard⟩ (by simp) rfl) (hR.2 6 (hpre ⟨6, .guard⟩ (by simp) rfl)) (undef_ne _) ?_
        exact ⟨fun _ _ => trivial, hR.step hst (Below.refl _ _) rfl⟩
      | 16, ho =>
        simp at ho
        subst ho
        refine step_skip (j := 6) (s := 19) (b := true) hF rfl rfl (by kernel_rfl) (hpre ⟨6, .guard⟩ (by simp) rfl) (hR.2 6 (hpre ⟨6, .guard⟩ (by simp) rfl)) (undef_ne _) ?_
        exact ⟨fun _ _ => trivial, hR.step hst (Below.refl _ _) rfl⟩
      | 17, ho =>
        simp at ho
        subst ho
        refine step_skip (j := 6) (s := 19) (b := true) hF rfl rfl (by kernel_rfl) (hpre ⟨6, .guard⟩ (by simp) rfl) (hR.2 6 (hpre ⟨6, .guard⟩ (by simp) rfl)) (undef_ne _) ?_
        exact ⟨fun _ _ => trivial, hR.step hst (Below.refl _ _) rfl⟩
      | 18, ho =>
        simp at ho
        subst ho
        refine step_skip (j := 6) (s := 19) (b := true) hF rfl rfl (by kernel_rfl) (hpre ⟨6, .guard⟩ (by simp) rfl) (hR.2 6 (hpre ⟨6, .guard⟩ (by simp) rfl)) (undef_ne _) ?_
        exact ⟨fun _ _ => trivial, hR.step hst (Below.refl _ _) rfl⟩
      | 19, ho =>
        simp at ho
        subst ho
        refine step_skip (j := 6) (s := 19) (b := true) hF rfl rfl (by kernel_rfl) (hpre ⟨6, .guard⟩ (by simp) rfl) (hR.2 6 (hpre ⟨6, .guard⟩ (by simp) rfl)) (undef_ne _) ?_
        exact ⟨fun _ _ => trivial, hR.step hst (Below.refl _ _) rfl⟩
      | 20, ho =>
        simp at ho
        subst ho
        refine step_skip (j := 6) (s := 19) (b := true) hF rfl rfl (by kernel_rfl) (hpre ⟨6, .guard⟩ (by simp) rfl) (hR.2 6 (hpre ⟨6, .guard⟩ (by simp) rfl)) (undef_ne _) ?_
        exact ⟨fun _ _ => trivial, hR.step hst (Below.refl _ _) rfl⟩
      | 21, ho =>
        simp at ho
        subst ho
        refine step_skip (j := 2) (s := 15) (b := false) hF rfl rfl (by kernel_rfl) (hpre ⟨2, .guard⟩ (by simp) rfl) (hR.2 2 (hpre ⟨2, .guard⟩ (by simp) rfl)) (by simp) ?_
        exact ⟨fun _ _ => trivial, hR.step hst (Below.refl _ _) rfl⟩
      | 22, ho =>
        simp at ho
        subst ho
        refine step_plain rfl ?_
        have e15 := hF.gave 2 rfl (hpre ⟨2, .data⟩ (by simp) rfl) rfl
        have v2 := hR.2 2 (hpre ⟨2, .data⟩ (by simp) rfl)
        rw [show val 2 = .bool true from v2] at e15
        clear v2
        have e34 := hF.gave 21 rfl (hpre ⟨21, .data⟩ (by simp) rfl) rfl
        have v21 := hR.2 21 (hpre ⟨21, .data⟩ (by simp) rfl)
        rw [show val 21 = undef from v21] at e34
        clear v21
        have hgoal : ∀ v W', Below x.heap.size x W' → QGA w.heap.size AX X.length cx AY Y.length cy AV V.length cv 22 v W' → RQ (QGA w.heap.size AX X.length cx AY Y.length cy AV V.length cv) W0 (upd val 22 v) (L.setIfInBounds 22 true) W' := fun v W' hb hq => hR.step hst hb hq
        clear hF hpre hl hR
        go_simp
        exact ⟨_, rfl, hgoal _ _ (Below.refl _ _) rfl⟩
      | i + 23, ho => simp at ho
    case hend =>
    intro val L b' w1 hF hall hR
    have e := hF.all (by kernel_rfl) hall
    have v22 := hR.2 22 (hall 22 (by decide))
    have hb1 := hR.1
    clear hF hall hR hst
    subst e
    simp [final, dstOf, List.range, List.range.loop]
    rw [show val 22 = .bool true from v22]
    clear v22
    generalize val 0 = v0, val 1 = v1, val 2 = v2, val 3 = v3, val 4 = v4, val 5 = v5, val 6 = v6, val 7 = v7, val 8 = v8, val 9 = v9, val 10 = v10, val 11 = v11, val 12 = v12, val 13 = v13, val 14 = v14, val 15 = v15, val 16 = v16, val 17 = v17, val 18 = v18, val 19 = v19, val 20 = v20, val 21 = v21
    go_wp2_with (go_at_call 18; refine Calls.mono (HWK.out _) ?_; rintro e w5 ⟨rfl, hb5⟩)
    go_ret
    have hb := HW0.out.trans (hb1.mono HW0.out.size)
    exact ⟨rfl, hb.trans (hb5.mono hb.size)⟩
  | false =>
  obtain ⟨f1, f2, f3, f4⟩ := farB_no hf
  have hnx : X.length ≤ 1000000 := by omega
  have hny : Y.length ≤ 1000000 := by omega
  have hnv : V.length ≤ 1000000 := by omega
  have hnr : ∀ r ∈ V, r.length ≤ 1000000 := fun r hr => by have := f4 r hr; omega
  have HF := Lib.hid hf
  clear hf f1 f2 f3 f4
  cases hct : ctB X Y V with
  | false =>
    have HE := Lib.hid (ctE_no hct)
    clear hct
    go_enter Try.func12, Try.ntmps12
    go_upto_region 1 with fail
    have S1 := HS0.out
    generalize hW0 : (((w.alloc _).alloc _).alloc _) = W0 at *
    have HW0 := Lib.hid S1.b
    have HS1 := Lib.hid S1
    obtain ⟨t0, t1, t2, p0, p1, n0, n1, l9, _⟩ := S1
    clear hW0 HS0
    have hst := QGB_stays w.heap.size AX X.length cx AY Y.length cy AV V.length cv
    refine wpIn_wide.1 (region_inv2 (n := 9) (by kernel_rfl) (RQ (QGB w.heap.size AX X.length cx AY Y.length cy AV V.length cv) W0) (by kernel_rfl) rfl (RQ.start _ _ _) ?hstep ?hend)
    case hstep =>
      intro i' o ho val L b' x hF hR hpre hl
      match i', ho with
      | 0, ho =>
        simp at ho
        subst ho
        refine step_plain rfl ?_
        have e3 := hF.was 3 (by kernel_rfl) rfl
        have hgoal : ∀ v W', Below x.heap.size x W' → QGB w.heap.size AX X.length cx AY Y.length cy AV V.length cv 0 v W' → RQ (QGB w.heap.size AX X.length cx AY Y.length cy AV V.length cv) W0 (upd val 0 v) (L.setIfInBounds 0 true) W' := fun v W' hb hq => hR.step hst hb hq
        have q0 := cell_keep hR.1 t0
        have q1 := cell_keep hR.1 t1
        have q2 := cell_keep hR.1 t2
        clear hF hpre hl hR
        go_simp
        exact ⟨_, rfl, hgoal _ _ (Below.refl _ _) rfl⟩
      | 1, ho =>
        simp at ho
        subst ho
        refine step_plain rfl ?_
        have e13 := hF.gave 0 rfl (hpre ⟨0, .data⟩ (by simp) rfl) rfl
        have v0 := hR.2 0 (hpre ⟨0, .data⟩ (by simp) rfl)
        rw [show val 0 = .agg #[.slice AX X.length cx, .slice AY Y.length cy, .slice AV V.length cv] from v0] at e13
        clear v0
        have hgoal : ∀ v W', Below x.heap.size x W' → QGB w.heap.size AX X.length cx AY Y.length cy AV V.length cv 1 v W' → RQ (QGB w.heap.size AX X.length cx AY Y.length cy AV V.length cv) W0 (upd val 1 v) (L.setIfInBounds 1 true) W' := fun v W' hb hq => hR.step hst hb hq
        have q0 := cell_keep hR.1 t0
        have q1 := cell_keep hR.1 t1
        have q2 := cell_keep hR.1 t2
        have hM := Lib.hid hR.1
        clear hF hpre hl hR
        go_simp
        refine ⟨trivial, ?_⟩
        refine CallsIn.mono (callsIn_wide.2 (HFAR.out _ (HW0.out.trans (hM.out.mono HW0.out.size)))) ?_
        rintro e y9 ⟨rfl, hb9⟩
        rw [HF.out]
        exact ⟨_, rfl, hgoal _ _ hb9 rfl⟩
      | 2, ho =>
        simp at ho
        subst ho
        refine step_plain rfl ?_
        have e14 := hF.gave 1 rfl (hpre ⟨1, .data⟩ (by simp) rfl) rfl
        have v1 := hR.2 1 (hpre ⟨1, .data⟩ (by simp) rfl)
        rw [show val 1 = .bool false from v1] at e14
        clear v1
        have hgoal : ∀ v W', Below x.heap.size x W' → QGB w.heap.size AX X.length cx AY Y.length cy AV V.length cv 2 v W' → RQ (QGB w.heap.size AX X.length cx AY Y.length cy AV V.length cv) W0 (upd val 2 v) (L.setIfInBounds 2 true) W' := fun v W' hb hq => hR.step hst hb hq
        clear hF hpre hl hR
        go_simp
        exact ⟨_, rfl, hgoal _ _ (Below.refl _ _) rfl⟩
      | 3, ho =>
        simp at ho
        subst ho
        refine step_guard (j := 2) (s := 15) (b := false) hF rfl rfl (by kernel_rfl) (hpre ⟨2, .guard⟩ (by simp) rfl) (hR.2 2 (hpre ⟨2, .guard⟩ (by simp) rfl)) ?_
        have e3 := hF.was 3 (by kernel_rfl) rfl
        have hgoal : ∀ v W', Below x.heap.size x W' → QGB w.heap.size AX X.length cx AY Y.length cy AV V.length cv 3 v W' → RQ (QGB w.heap.size AX X.length cx AY Y.length cy AV V.length cv) W0 (upd val 3 v) (L.setIfInBounds 3 true) W' := fun v W' hb hq => hR.step hst hb hq
        have q0 := cell_keep hR.1 t0
        have q1 := cell_keep hR.1 t1
        have q2 := cell_keep hR.1 t2
        clear hF hpre hl hR
        go_simp
        exact ⟨_, rfl, hgoal _ _ (Below.refl _ _) rfl⟩
      | 4, ho =>
        simp at ho
        subst ho
        refine step_guard (j := 2) (s := 15) (b := false) hF rfl rfl (by kernel_rfl) (hpre ⟨2, .guard⟩ (by simp) rfl) (hR.2 2 (hpre ⟨2, .guard⟩ (by simp) rfl)) ?_
        have e16 := hF.gave 3 rfl (hpre ⟨3, .data⟩ (by simp) rfl) rfl
        have v3 := hR.2 3 (hpre ⟨3, .data⟩ (by simp) rfl)
        rw [show val 3 = .agg #[.slice AX X.length cx, .slice AY Y.length cy, .slice AV V.length cv] from v3] at e16
        clear v3
        have hgoal : ∀ v W', Below x.heap.size x W' → QGB w.heap.size AX X.length cx AY Y.length cy AV V.length cv 4 v W' → RQ (QGB w.heap.size AX X.length cx AY Y.length cy AV V.length cv) W0 (upd val 4 v) (L.setIfInBounds 4 true) W' := fun v W' hb hq => hR.step hst hb hq
        have q0 := cell_keep hR.1 t0
        have q1 := cell_keep hR.1 t1
        have q2 := cell_keep hR.1 t2
        have hM := Lib.hid hR.1
        clear hF hpre hl hR
        go_simp
        refine ⟨trivial, ?_⟩
        refine CallsIn.mono (callsIn_wide.2 (HRC.out _ (HW0.out.trans (hM.out.mono HW0.out.size)))) ?_
        rintro e y9 ⟨rfl, hb9⟩
        rw [HE.out]
        exact ⟨_, rfl, hgoal _ _ hb9 rfl⟩
      | 5, ho =>
        simp at ho
        subst ho
        refine step_guard (j := 2) (s := 15) (b := false) hF rfl rfl (by kernel_rfl) (hpre ⟨2, .guard⟩ (by simp) rfl) (hR.2 2 (hpre ⟨2, .guard⟩ (by simp) rfl)) ?_
        have e17 := hF.gave 4 rfl (hpre ⟨4, .data⟩ (by simp) rfl) rfl
        have v4 := hR.2 4 (hpre ⟨4, .data⟩ (by simp) rfl)
        rw [show val 4 = .int .i64 11 from v4] at e17
        clear v4
        have hgoal : ∀ v W', Below x.heap.size x W' → QGB w.heap.size AX X.length cx AY Y.length cy AV V.length cv 5 v W' → RQ (QGB w.heap.size AX X.length cx AY Y.length cy AV V.length cv) W0 (upd val 5 v) (L.setIfInBounds 5 true) W' := fun v W' hb hq => hR.step hst hb hq
        clear hF hpre hl hR
        go_simp
        exact ⟨_, rfl, hgoal _ _ (Below.refl _ _) rfl⟩
      | 6, ho =>
        simp at ho
        subst ho
        refine step_guard (j := 2) (s := 15) (b := false) hF rfl rfl (by kernel_rfl) (hpre ⟨2, .guard⟩ (by simp) rfl) (hR.2 2 (hpre ⟨2, .guard⟩ (by simp) rfl)) ?_
        have e18 := hF.gave 5 rfl (hpre ⟨5, .data⟩ (by simp) rfl) rfl
        have v5 := hR.2 5 (hpre ⟨5, .data⟩ (by simp) rfl)
        rw [show val 5 = .bool false from v5] at e18
        clear v5
        have hgoal : ∀ v W', Below x.heap.size x W' → QGB w.heap.size AX X.length cx AY Y.length cy AV V.length cv 6 v W' → RQ (QGB w.heap.size AX X.length cx AY Y.length cy AV V.length cv) W0 (upd val 6 v) (L.setIfInBounds 6 true) W' := fun v W' hb hq => hR.step hst hb hq
        clear hF hpre hl hR
        go_simp
        exact ⟨_, rfl, hgoal _ _ (Below.refl _ _) rfl⟩
      | 7, ho =>
        simp at ho
        subst ho
        refine step_skip (j := 6) (s := 19) (b := true) hF rfl rfl (by kernel_rfl) (hpre ⟨6, .guard⟩ (by simp) rfl) (hR.2 6 (hpre ⟨6, .guard⟩ (by simp) rfl)) (by simp) ?_
        exact ⟨fun _ _ => trivial, hR.step hst (Below.refl _ _) rfl⟩
      | 8, ho =>
        simp at ho
        subst ho
        refine step_skip (j := 6) (s := 19) (b := true) hF rfl rfl (by kernel_rfl) (hpre ⟨6, .guard⟩ (by simp) rfl) (hR.2 6 (hpre ⟨6, .guard⟩ (by simp) rfl)) (by simp) ?_
        exact ⟨fun _ _ => trivial, hR.step hst (Below.refl _ _) rfl⟩
      | 9, ho =>
        simp at ho
        subst ho
        refine step_skip (j := 6) (s := 19) (b := true) hF rfl rfl (by kernel_rfl) (hpre ⟨6, .guard⟩ (by simp) rfl) (hR.2 6 (hpre ⟨6, .guard⟩ (by simp) rfl)) (by simp) ?_
        exact ⟨fun _ _ => trivial, hR.step hst (Below.refl _ _) rfl⟩
      | 10, ho =>
        simp at ho
        subst ho
        refine step_skip (j := 6) (s := 19) (b := true) hF rfl rfl (by kernel_rfl) (hpre ⟨6, .guard⟩ (by simp) rfl) (hR.2 6 (hpre ⟨6, .guard⟩ (by simp) rfl)) (by simp) ?_
        exact ⟨fun _ _ => trivial, hR.step hst (Below.refl _ _) rfl⟩
      | 11, ho =>
        simp at ho
        subst ho
        refine step_skip (j := 6) (s := 19) (b := true) hF rfl rfl (by kernel_rfl) (hpre ⟨6, .guard⟩ (by simp) rfl) (hR.2 6 (hpre ⟨6, .guard⟩ (by simp) rfl)) (by simp) ?_
        exact ⟨fun _ _ => trivial, hR.step hst (Below.refl _ _) rfl⟩
      | 12, ho =>
        simp at ho
        subst ho
        refine step_skip (j := 6) (s := 19) (b := true) hF rfl rfl (by kernel_rfl) (hpre ⟨6, .guard⟩ (by simp) rfl) (hR.2 6 (hpre ⟨6, .guard⟩ (by simp) rfl)) (by simp) ?_
        exact ⟨fun _ _ => trivial, hR.step hst (Below.refl _ _) rfl⟩
      | 13, ho =>
        simp at ho
        subst ho
        refine step_skip (j := 6) (s := 19) (b := true) hF rfl rfl (by kernel_rfl) (hpre ⟨6, .guard⟩ (by simp) rfl) (hR.2 6 (hpre ⟨6, .guard⟩ (by simp) rfl)) (by simp) ?_
        exact ⟨fun _ _ => trivial, hR.step hst (Below.refl _ _) rfl⟩
      | 14, ho =>
        simp at ho
        subst ho
        refine step_skip (j := 6) (s := 19) (b := true) hF rfl rfl (by kernel_rfl) (hpre ⟨6, .guard⟩ (by simp) rfl) (hR.2 6 (hpre ⟨6, .guard⟩ (by simp) rfl)) (by simp) ?_
        exact ⟨fun _ _ => trivial, hR.step hst (Below.refl _ _) rfl⟩
      | 15, ho =>
        simp at ho
        subst ho
        refine step_skip (j := 6) (s := 19) (b := true) hF rfl rfl (by kernel_rfl) (hpre ⟨6, .guard⟩ (by simp) rfl) (hR.2 6 (hpre ⟨6, .guard⟩ (by simp) rfl)) (by simp) ?_
        exact ⟨fun _ _ => trivial, hR.step hst (Below.refl _ _) rfl⟩
      | 16, ho =>
        simp at ho
        subst ho
        refine step_skip (j := 6) (s := 19) (b := true) hF rfl rfl (by kernel_rfl) (hpre ⟨6, .guard⟩ (by simp) rfl) (hR.2 6 (hpre ⟨6, .guard⟩ (by simp) rfl)) (by simp) ?_
        exact ⟨fun _ _ => trivial, hR.step hst (Below.refl _ _) rfl⟩
      | 17, ho =>
        simp at ho
        subst ho
        refine step_skip (j := 6) (s := 19) (b := true) hF rfl rfl (by kernel_rfl) (hpre ⟨6, .guard⟩ (by simp) rfl) (hR.2 6 (hpre ⟨6, .guard⟩ (by simp) rfl)) (by simp) ?_
        exact ⟨fun _ _ => trivial, hR.step hst (Below.refl _ _) rfl⟩
      | 18, ho =>
        simp at ho
        subst ho
        refine step_skip (j := 6) (s := 19) (b := true) hF rfl rfl (by kernel_rfl) (hpre ⟨6, .guard⟩ (by simp) rfl) (hR.2 6 (hpre ⟨6, .guard⟩ (by simp) rfl)) (by simp) ?_
        exact ⟨fun _ _ => trivial, hR.step hst (Below.refl _ _) rfl⟩
      | 19, ho =>
        simp at ho
        subst ho
        refine step_skip (j := 6) (s := 19) (b := true) hF rfl rfl (by kernel_rfl) (hpre ⟨6, .guard⟩ (by simp) rfl) (hR.2 6 (hpre ⟨6, .guard⟩ (by simp) rfl)) (by simp) ?_
        exact ⟨fun _ _ => trivial, hR.step hst (Below.refl _ _) rfl⟩
      | 20, ho =>
        simp at ho
        subst ho
        refine step_skip (j := 6) (s := 19) (b := true) hF rfl rfl (by kernel_rfl) (hpre ⟨6, .guard⟩ (by simp) rfl) (hR.2 6 (hpre ⟨6, .guard⟩ (by simp) rfl)) (by simp) ?_
        exact ⟨fun _ _ => trivial, hR.step hst (Below.refl _ _) rfl⟩
      | 21, ho =>
        simp at ho
        subst ho
        refine step_guard (j := 2) (s := 15) (b := false) hF rfl rfl (by kernel_rfl) (hpre ⟨2, .guard⟩ (by simp) rfl) (hR.2 2 (hpre ⟨2, .guard⟩ (by simp) rfl)) ?_
        have e19 := hF.gave 6 rfl (hpre ⟨6, .data⟩ (by simp) rfl) rfl
        have v6 := hR.2 6 (hpre ⟨6, .data⟩ (by simp) rfl)
        rw [show val 6 = .bool false from v6] at e19
        clear v6
        have e33 := hF.gave 20 rfl (hpre ⟨20, .data⟩ (by simp) rfl) rfl
        have v20 := hR.2 20 (hpre ⟨20, .data⟩ (by simp) rfl)
        rw [show val 20 = undef from v20] at e33
        clear v20
        have hgoal : ∀ v W', Below x.heap.size x W' → QGB w.heap.size AX X.length cx AY Y.length cy AV V.length cv 21 v W' → RQ (QGB w.heap.size AX X.length cx AY Y.length cy AV V.length cv) W0 (upd val 21 v) (L.setIfInBounds 21 true) W' := fun v W' hb hq => hR.step hst hb hq
        clear hF hpre hl hR
        go_simp
        exact ⟨_, rfl, hgoal _ _ (Below.refl _ _) rfl⟩
      | 22, ho =>
        simp at ho
        subst ho
        refine step_plain rfl ?_
        have e15 := hF.gave 2 rfl (hpre ⟨2, .data⟩ (by simp) rfl) rfl
        have v2 := hR.2 2 (hpre ⟨2, .data⟩ (by simp) rfl)
        rw [show val 2 = .bool false from v2] at e15
        clear v2
        have e34 := hF.gave 21 rfl (hpre ⟨21, .data⟩ (by simp) rfl) rfl
        have v21 := hR.2 21 (hpre ⟨21, .data⟩ (by simp) rfl)
        rw [show val 21 = .bool false from v21] at e34
        clear v21
        have hgoal : ∀ v W', Below x.heap.size x W' → QGB w.heap.size AX X.length cx AY Y.length cy AV V.length cv 22 v W' → RQ (QGB w.heap.size AX X.length cx AY Y.length cy AV V.length cv) W0 (upd val 22 v) (L.setIfInBounds 22 true) W' := fun v W' hb hq => hR.step hst hb hq
        clear hF hpre hl hR
        go_simp
        exact ⟨_, rfl, hgoal _ _ (Below.refl _ _) rfl⟩
      | i + 23, ho => simp at ho
    case hend =>
    intro val L b' w1 hF hall hR
    have e := hF.all (by kernel_rfl) hall
    have v22 := hR.2 22 (hall 22 (by decide))
    have hb1 := hR.1
    clear hF hall hR hst
    subst e
    simp [final, dstOf, List.range, List.range.loop]
    rw [show val 22 = .bool false from v22]
    clear v22
    generalize val 0 = v0, val 1 = v1, val 2 = v2, val 3 = v3, val 4 = v4, val 5 = v5, val 6 = v6, val 7 = v7, val 8 = v8, val 9 = v9, val 10 = v10, val 11 = v11, val 12 = v12, val 13 = v13, val 14 = v14, val 15 = v15, val 16 = v16, val 17 = v17, val 18 = v18, val 19 = v19, val 20 = v20, val 21 = v21
    have HB1 := Lib.hid (HW0.out.trans (hb1.mono HW0.out.size))
    have S2 := HS1.out.next hb1
    have HS2 := Lib.hid S2
    clear hb1 t0 t1 t2 p0 p1 n0 n1 l9 HS1 HW0
    obtain ⟨t0, t1, t2, p0, p1, n0, n1, l9, _⟩ := S2
    have HCP := Lib.hid (fun (W : World) (hW : Below w.heap.size w W) => copy_any AX AY AV _ cx _ cy _ cv B X Y V W rfl rfl rfl hnx hny hnv hnr (by have := hW.size; omega) (HT.out.below (hW.mono hB)))
    have HRG := Lib.hid (fun (W : World) (hW : Below w.heap.size w W) => rgreatest_any AX AY AV _ cx _ cy _ cv B X Y V y1 y2 l0 W rfl rfl rfl hmx hmy hmv hmr (by have := hW.size; omega) (HT.out.below (hW.mono hB)))
    have hmono := grS_mono (X := X) (Y := Y) (V := V) (y1 := y1) (y2 := y2) (l0 := l0) (l1 := l1)
    generalize hga : grS X Y V y1 y2 l0 = ga at *
    generalize hgb : grS X Y V y1 y2 l1 = gb at *
    obtain ⟨ga0, ga1⟩ := ga
    obtain ⟨gb0, gb1⟩ := gb
    have HGA := Lib.hid hga
    have HGB := Lib.hid hgb
    have HMO := Lib.hid hmono
    clear hga hgb hmono
    go_upto_region 3 with fail
    have hst := QG3_stays w.heap.size (AX) X.length cx AY Y.length cy AV V.length cv y1 y2 l0 ga0 ga1 X Y V
    refine wpIn_wide.1 (region_inv2 (n := 9) (by kernel_rfl) (RQ (QG3 w.heap.size (AX) X.length cx AY Y.length cy AV V.length cv y1 y2 l0 ga0 ga1 X Y V) w1) (by kernel_rfl) rfl (RQ.start _ _ _) ?hstep ?hend)
    case hstep =>
      intro i' o ho val L b' x hF hR hpre hl
      match i', ho with
      | 0, ho =>
        simp at ho
        subst ho
        refine step_plain rfl ?_
        have e3 := hF.was 3 (by kernel_rfl) rfl
        have hgoal : ∀ v W', Below x.heap.size x W' → QG3 w.heap.size (AX) X.length cx AY Y.length cy AV V.length cv y1 y2 l0 ga0 ga1 X Y V 0 v W' → RQ (QG3 w.heap.size (AX) X.length cx AY Y.length cy AV V.length cv y1 y2 l0 ga0 ga1 X Y V) w1 (upd val 0 v) (L.setIfInBounds 0 true) W' := fun v W' hb hq => hR.step hst hb hq
        have q0 := cell_keep hR.1 t0
        have q1 := cell_keep hR.1 t1
        have q2 := cell_keep hR.1 t2
        have q3 := cell_keep hR.1 p0
        have q4 := cell_keep hR.1 p1
        have q5 := cell_keep hR.1 n0
        have q6 := cell_keep hR.1 n1
        clear hF hpre hl hR
        go_simp
        exact ⟨_, rfl, hgoal _ _ (Below.refl _ _) rfl⟩
      | 1, ho =>
        simp at ho
        subst ho
        refine step_plain rfl ?_
        have e38 := hF.gave 0 rfl (hpre ⟨0, .data⟩ (by simp) rfl) rfl
        have v0 := hR.2 0 (hpre ⟨0, .data⟩ (by simp) rfl)
        rw [show val 0 = .agg #[.slice (AX) X.length cx, .slice AY Y.length cy, .slice AV V.length cv] from v0] at e38
        clear v0
        have hgoal : ∀ v W', Below x.heap.size x W' → QG3 w.heap.size (AX) X.length cx AY Y.length cy AV V.length cv y1 y2 l0 ga0 ga1 X Y V 1 v W' → RQ (QG3 w.heap.size (AX) X.length cx AY Y.length cy AV V.length cv y1 y2 l0 ga0 ga1 X Y V) w1 (upd val 1 v) (L.setIfInBounds 1 true) W' := fun v W' hb hq => hR.step hst hb hq
        have q0 := cell_keep hR.1 t0
        have q1 := cell_keep hR.1 t1
        have q2 := cell_keep hR.1 t2
        have q3 := cell_keep hR.1 p0
        have q4 := cell_keep hR.1 p1
        have q5 := cell_keep hR.1 n0
        have q6 := cell_keep hR.1 n1
        have hM := Lib.hid hR.1
        clear hF hpre hl hR
        go_simp
        refine ⟨trivial, ?_⟩
        refine CallsIn.mono (callsIn_wide.2 (HCP.out _ (HB1.out.trans (hM.out.mono HB1.out.size)))) ?_
        rintro e y9 ⟨AX', cx', AY', cy', AV', cv', rfl, htb, hb9⟩
        exact ⟨_, rfl, hgoal _ _ hb9 ⟨AX', cx', AY', cy', AV', cv', rfl, htb⟩⟩
      | 2, ho =>
        simp at ho
        subst ho
        refine step_plain rfl ?_
        have e4 := hF.was 4 (by kernel_rfl) rfl
        have hgoal : ∀ v W', Below x.heap.size x W' → QG3 w.heap.size (AX) X.length cx AY Y.length cy AV V.length cv y1 y2 l0 ga0 ga1 X Y V 2 v W' → RQ (QG3 w.heap.size (AX) X.length cx AY Y.length cy AV V.length cv y1 y2 l0 ga0 ga1 X Y V) w1 (upd val 2 v) (L.setIfInBounds 2 true) W' := fun v W' hb hq => hR.step hst hb hq
        have q0 := cell_keep hR.1 t0
        have q1 := cell_keep hR.1 t1
        have q2 := cell_keep hR.1 t2
        have q3 := cell_keep hR.1 p0
        have q4 := cell_keep hR.1 p1
        have q5 := cell_keep hR.1 n0
        have q6 := cell_keep hR.1 n1
        clear hF hpre hl hR
        go_simp
        exact ⟨_, rfl, hgoal _ _ (Below.refl _ _) rfl⟩
      | 3, ho =>
        simp at ho
        subst ho
        refine step_plain rfl ?_
        have e5 := hF.was 5 (by kernel_rfl) rfl
        have hgoal : ∀ v W', Below x.heap.size x W' → QG3 w.heap.size (AX) X.length cx AY Y.length cy AV V.length cv y1 y2 l0 ga0 ga1 X Y V 3 v W' → RQ (QG3 w.heap.size (AX) X.length cx AY Y.length cy AV V.length cv y1 y2 l0 ga0 ga1 X Y V) w1 (upd val 3 v) (L.setIfInBounds 3 true) W' := fun v W' hb hq => hR.step hst hb hq
        clear hF hpre hl hR
        go_simp
        exact ⟨_, rfl, hgoal _ _ (Below.refl _ _) rfl⟩
      | 4, ho =>
        simp at ho
        subst ho
        refine step_plain rfl ?_
        have e41 := hF.gave 3 rfl (hpre ⟨3, .data⟩ (by simp) rfl) rfl
        have v3 := hR.2 3 (hpre ⟨3, .data⟩ (by simp) rfl)
        rw [show val 3 = .pointer (some ⟨w.heap.size + 1 + 1, 0, none⟩) from v3] at e41
        clear v3
        have hgoal : ∀ v W', Below x.heap.size x W' → QG3 w.heap.size (AX) X.length cx AY Y.length cy AV V.length cv y1 y2 l0 ga0 ga1 X Y V 4 v W' → RQ (QG3 w.heap.size (AX) X.length cx AY Y.length cy AV V.length cv y1 y2 l0 ga0 ga1 X Y V) w1 (upd val 4 v) (L.setIfInBounds 4 true) W' := fun v W' hb hq => hR.step hst hb hq
        have q0 := cell_keep hR.1 t0
        have q1 := cell_keep hR.1 t1
        have q2 := cell_keep hR.1 t2
        have q3 := cell_keep hR.1 p0
        have q4 := cell_keep hR.1 p1
        have q5 := cell_keep hR.1 n0
        have q6 := cell_keep hR.1 n1
        clear hF hpre hl hR
        go_simp
        exact ⟨_, rfl, hgoal _ _ (Below.refl _ _) rfl⟩
      | 5, ho =>
        simp at ho
        subst ho
        refine step_plain rfl ?_
        have e39 := hF.gave 1 rfl (hpre ⟨1, .data⟩ (by simp) rfl) rfl
        have v1 := hR.2 1 (hpre ⟨1, .data⟩ (by simp) rfl)
        have e40 := hF.gave 2 rfl (hpre ⟨2, .data⟩ (by simp) rfl) rfl
        have v2 := hR.2 2 (hpre ⟨2, .data⟩ (by simp) rfl)
        rw [show val 2 = .agg #[.int .i64 y1, .int .i64 y2] from v2] at e40
        clear v2
        have e42 := hF.gave 4 rfl (hpre ⟨4, .data⟩ (by simp) rfl) rfl
        have v4 := hR.2 4 (hpre ⟨4, .data⟩ (by simp) rfl)
        rw [show val 4 = .int .i64 l0 from v4] at e42
        clear v4
        have hgoal : ∀ v W', Below x.heap.size x W' → QG3 w.heap.size (AX) X.length cx AY Y.length cy AV V.length cv y1 y2 l0 ga0 ga1 X Y V 5 v W' → RQ (QG3 w.heap.size (AX) X.length cx AY Y.length cy AV V.length cv y1 y2 l0 ga0 ga1 X Y V) w1 (upd val 5 v) (L.setIfInBounds 5 true) W' := fun v W' hb hq => hR.step hst hb hq
        have q0 := cell_keep hR.1 t0
        have q1 := cell_keep hR.1 t1
        have q2 := cell_keep hR.1 t2
        have q3 := cell_keep hR.1 p0
        have q4 := cell_keep hR.1 p1
        have q5 := cell_keep hR.1 n0
        have q6 := cell_keep hR.1 n1
        have hM := Lib.hid hR.1
        clear hF hpre hl hR
        obtain ⟨AX', cx', AY', cy', AV', cv', e1, htb⟩ := v1
        rw [e1] at e39
        go_simp
        refine ⟨trivial, ?_⟩
        refine CallsIn.mono (callsIn_wide.2 (greatest_any AX' AY' AV' _ cx' _ cy' _ cv' _ X Y V y1 y2 l0 _ rfl rfl rfl hmx hmy hmv hmr (Nat.le_refl _) htb)) ?_
        rintro e y9 ⟨rfl, hb9⟩
        rw [HGA.out]
        exact ⟨_, rfl, hgoal _ _ hb9 rfl⟩
      | 6, ho =>
        simp at ho
        subst ho
        refine step_plain rfl ?_
        have e43 := hF.gave 5 rfl (hpre ⟨5, .data⟩ (by simp) rfl) rfl
        have v5 := hR.2 5 (hpre ⟨5, .data⟩ (by simp) rfl)
        rw [show val 5 = .tuple #[.int .i64 ga0, .int .i64 ga1] from v5] at e43
        clear v5
        have hgoal : ∀ v W', Below x.heap.size x W' → QG3 w.heap.size (AX) X.length cx AY Y.length cy AV V.length cv y1 y2 l0 ga0 ga1 X Y V 6 v W' → RQ (QG3 w.heap.size (AX) X.length cx AY Y.length cy AV V.length cv y1 y2 l0 ga0 ga1 X Y V) w1 (upd val 6 v) (L.setIfInBounds 6 true) W' := fun v W' hb hq => hR.step hst hb hq
        clear hF hpre hl hR
        go_simp
        exact ⟨_, rfl, hgoal _ _ (Below.refl _ _) rfl⟩
      | 7, ho =>
        simp at ho
        subst ho
        refine step_plain rfl ?_
        have e37 := hF.gave 6 rfl (hpre ⟨6, .data⟩ (by simp) rfl) rfl
        have v6 := hR.2 6 (hpre ⟨6, .data⟩ (by simp) rfl)
        rw [show val 6 = .tuple #[.int .i64 ga0, .int .i64 ga1] from v6] at e37
        clear v6
        have hgoal : ∀ v W', Below x.heap.size x W' → QG3 w.heap.size (AX) X.length cx AY Y.length cy AV V.length cv y1 y2 l0 ga0 ga1 X Y V 7 v W' → RQ (QG3 w.heap.size (AX) X.length cx AY Y.length cy AV V.length cv y1 y2 l0 ga0 ga1 X Y V) w1 (upd val 7 v) (L.setIfInBounds 7 true) W' := fun v W' hb hq => hR.step hst hb hq
        clear hF hpre hl hR
        go_simp
        exact ⟨_, rfl, hgoal _ _ (Below.refl _ _) rfl⟩
      | 8, ho =>
        simp at ho
        subst ho
        refine step_plain rfl ?_
        have e37 := hF.gave 6 rfl (hpre ⟨6, .data⟩ (by simp) rfl) rfl
        have v6 := hR.2 6 (hpre ⟨6, .data⟩ (by simp) rfl)
        rw [show val 6 = .tuple #[.int .i64 ga0, .int .i64 ga1] from v6] at e37
        clear v6
        have hgoal : ∀ v W', Below x.heap.size x W' → QG3 w.heap.size (AX) X.length cx AY Y.length cy AV V.length cv y1 y2 l0 ga0 ga1 X Y V 8 v W' → RQ (QG3 w.heap.size (AX) X.length cx AY Y.length cy AV V.length cv y1 y2 l0 ga0 ga1 X Y V) w1 (upd val 8 v) (L.setIfInBounds 8 true) W' := fun v W' hb hq => hR.step hst hb hq
        clear hF hpre hl hR
        go_simp
        exact ⟨_, rfl, hgoal _ _ (Below.refl _ _) rfl⟩
      | 9, ho =>
        simp at ho
        subst ho
        refine step_plain rfl ?_
        have e44 := hF.gave 7 rfl (hpre ⟨7, .data⟩ (by simp) rfl) rfl
        have v7 := hR.2 7 (hpre ⟨7, .data⟩ (by simp) rfl)
        rw [show val 7 = .int .i64 ga0 from v7] at e44
        clear v7
        have hgoal : ∀ v W', Below x.heap.size x W' → QG3 w.heap.size (AX) X.length cx AY Y.length cy AV V.length cv y1 y2 l0 ga0 ga1 X Y V 9 v W' → RQ (QG3 w.heap.size (AX) X.length cx AY Y.length cy AV V.length cv y1 y2 l0 ga0 ga1 X Y V) w1 (upd val 9 v) (L.setIfInBounds 9 true) W' := fun v W' hb hq => hR.step hst hb hq
        clear hF hpre hl hR
        go_simp
        exact ⟨_, rfl, hgoal _ _ (Below.refl _ _) rfl⟩
      | 10, ho =>
        simp at ho
        subst ho
        refine step_plain rfl ?_
        have e45 := hF.gave 8 rfl (hpre ⟨8, .data⟩ (by simp) rfl) rfl
        have v8 := hR.2 8 (hpre ⟨8, .data⟩ (by simp) rfl)
        rw [show val 8 = .int .i64 ga1 from v8] at e45
        clear v8
        have hgoal : ∀ v W', Below x.heap.size x W' → QG3 w.heap.size (AX) X.length cx AY Y.length cy AV V.length cv y1 y2 l0 ga0 ga1 X Y V 10 v W' → RQ (QG3 w.heap.size (AX) X.length cx AY Y.length cy AV V.length cv y1 y2 l0 ga0 ga1 X Y V) w1 (upd val 10 v) (L.setIfInBounds 10 true) W' := fun v W' hb hq => hR.step hst hb hq
        clear hF hpre hl hR
        go_simp
        exact ⟨_, rfl, hgoal _ _ (Below.refl _ _) rfl⟩
      | i + 11, ho => simp at ho
    case hend =>
    intro val L b' w2 hF hall hR
    have e := hF.all (by kernel_rfl) hall
    have v9 := hR.2 9 (hall 9 (by decide))
    have v10 := hR.2 10 (hall 10 (by decide))
    have hb2 := hR.1
    have S3 := HS2.out.next hb2
    have HS3 := Lib.hid S3
    clear hF hall hR hst t0 t1 t2 p0 p1 n0 n1 l9 HS2 HB1 hb2
    obtain ⟨t0, t1, t2, p0, p1, n0, n1, l9, _⟩ := S3
    subst e
    simp [final, dstOf, List.range, List.range.loop]
    rw [show val 9 = .int .i64 ga0 from v9, show val 10 = .int .i64 ga1 from v10]
    clear v9 v10
    generalize val 0 = v0, val 1 = v1, val 2 = v2, val 3 = v3, val 4 = v4, val 5 = v5, val 6 = v6, val 7 = v7, val 8 = v8
    go_upto_region 7 with (go_at_call 56; refine Calls.mono (HRG.out _ HS3.out.b) ?_; rintro e w4 ⟨rfl, hb4⟩)
    have S5 := HS3.out.next hb4
    have HS5 := Lib.hid S5
    have HB4 := Lib.hid HS5.out.b
    clear hb4 t0 t1 t2 p0 p1 n0 n1 l9 HS3
    obtain ⟨t0, t1, t2, p0, p1, n0, n1, l9, _⟩ := S5
    have hst := QG7_stays w.heap.size (AX) X.length cx AY Y.length cy AV V.length cv y1 y2 l1 gb0 gb1 X Y V
    refine wpIn_wide.1 (region_inv2 (n := 9) (by kernel_rfl) (RQ (QG7 w.heap.size (AX) X.length cx AY Y.length cy AV V.length cv y1 y2 l1 gb0 gb1 X Y V) w4) (by kernel_rfl) rfl (RQ.start _ _ _) ?hstep ?hend)
    case hstep =>
      intro i' o ho val L b' x hF hR hpre hl
      match i', ho with
      | 0, ho =>
        simp at ho
        subst ho
        refine step_plain rfl ?_
        have e3 := hF.was 3 (by kernel_rfl) rfl
        have hgoal : ∀ v W', Below x.heap.size x W' → QG7 w.heap.size (AX) X.length cx AY Y.length cy AV V.length cv y1 y2 l1 gb0 gb1 X Y V 0 v W' → RQ (QG7 w.heap.size (AX) X.length cx AY Y.length cy AV V.length cv y1 y2 l1 gb0 gb1 X Y V) w4 (upd val 0 v) (L.setIfInBounds 0 true) W' := fun v W' hb hq => hR.step hst hb hq
        have q0 := cell_keep hR.1 t0
        have q1 := cell_keep hR.1 t1
        have q2 := cell_keep hR.1 t2
        have q3 := cell_keep hR.1 p0
        have q4 := cell_keep hR.1 p1
        have q5 := cell_keep hR.1 n0
        have q6 := cell_keep hR.1 n1
        clear hF hpre hl hR
        go_simp
        exact ⟨_, rfl, hgoal _ _ (Below.refl _ _) rfl⟩
      | 1, ho =>
        simp at ho
        subst ho
        refine step_plain rfl ?_
        have e63 := hF.gave 0 rfl (hpre ⟨0, .data⟩ (by simp) rfl) rfl
        have v0 := hR.2 0 (hpre ⟨0, .data⟩ (by simp) rfl)
        rw [show val 0 = .agg #[.slice (AX) X.length cx, .slice AY Y.length cy, .slice AV V.length cv] from v0] at e63
        clear v0
        have hgoal : ∀ v W', Below x.heap.size x W' → QG7 w.heap.size (AX) X.length cx AY Y.length cy AV V.length cv y1 y2 l1 gb0 gb1 X Y V 1 v W' → RQ (QG7 w.heap.size (AX) X.length cx AY Y.length cy AV V.length cv y1 y2 l1 gb0 gb1 X Y V) w4 (upd val 1 v) (L.setIfInBounds 1 true) W' := fun v W' hb hq => hR.step hst hb hq
        have q0 := cell_keep hR.1 t0
        have q1 := cell_keep hR.1 t1
        have q2 := cell_keep hR.1 t2
        have q3 := cell_keep hR.1 p0
        have q4 := cell_keep hR.1 p1
        have q5 := cell_keep hR.1 n0
        have q6 := cell_keep hR.1 n1
        have hM := Lib.hid hR.1
        clear hF hpre hl hR
        go_simp
        refine ⟨trivial, ?_⟩
        refine CallsIn.mono (callsIn_wide.2 (HCP.out _ (HB4.out.trans (hM.out.mono HB4.out.size)))) ?_
        rintro e y9 ⟨AX', cx', AY', cy', AV', cv', rfl, htb, hb9⟩
        exact ⟨_, rfl, hgoal _ _ hb9 ⟨AX', cx', AY', cy', AV', cv', rfl, htb⟩⟩
      | 2, ho =>
        simp at ho
        subst ho
        refine step_plain rfl ?_
        have e4 := hF.was 4 (by kernel_rfl) rfl
        have hgoal : ∀ v W', Below x.heap.size x W' → QG7 w.heap.size (AX) X.length cx AY Y.length cy AV V.length cv y1 y2 l1 gb0 gb1 X Y V 2 v W' → RQ (QG7 w.heap.size (AX) X.length cx AY Y.length cy AV V.length cv y1 y2 l1 gb0 gb1 X Y V) w4 (upd val 2 v) (L.setIfInBounds 2 true) W' := fun v W' hb hq => hR.step hst hb hq
        have q0 := cell_keep hR.1 t0
        have q1 := cell_keep hR.1 t1
        have q2 := cell_keep hR.1 t2
        have q3 := cell_keep hR.1 p0
        have q4 := cell_keep hR.1 p1
        have q5 := cell_keep hR.1 n0
        have q6 := cell_keep hR.1 n1
        clear hF hpre hl hR
        go_simp
        exact ⟨_, rfl, hgoal _ _ (Below.refl _ _) rfl⟩
      | 3, ho =>
        simp at ho
        subst ho
        refine step_plain rfl ?_
        have e5 := hF.was 5 (by kernel_rfl) rfl
        have hgoal : ∀ v W', Below x.heap.size x W' → QG7 w.heap.size (AX) X.length cx AY Y.length cy AV V.length cv y1 y2 l1 gb0 gb1 X Y V 3 v W' → RQ (QG7 w.heap.size (AX) X.length cx AY Y.length cy AV V.length cv y1 y2 l1 gb0 gb1 X Y V) w4 (upd val 3 v) (L.setIfInBounds 3 true) W' := fun v W' hb hq => hR.step hst hb hq
        clear hF hpre hl hR
        go_simp
        exact ⟨_, rfl, hgoal _ _ (Below.refl _ _) rfl⟩
      | 4, ho =>
        simp at ho
        subst ho
        refine step_plain rfl ?_
        have e66 := hF.gave 3 rfl (hpre ⟨3, .data⟩ (by simp) rfl) rfl
        have v3 := hR.2 3 (hpre ⟨3, .data⟩ (by simp) rfl)
        rw [show val 3 = .pointer (some ⟨w.heap.size + 1 + 1, 1, none⟩) from v3] at e66
        clear v3
        have hgoal : ∀ v W', Below x.heap.size x W' → QG7 w.heap.size (AX) X.length cx AY Y.length cy AV V.length cv y1 y2 l1 gb0 gb1 X Y V 4 v W' → RQ (QG7 w.heap.size (AX) X.length cx AY Y.length cy AV V.length cv y1 y2 l1 gb0 gb1 X Y V) w4 (upd val 4 v) (L.setIfInBounds 4 true) W' := fun v W' hb hq => hR.step hst hb hq
        have q0 := cell_keep hR.1 t0
        have q1 := cell_keep hR.1 t1
        have q2 := cell_keep hR.1 t2
        have q3 := cell_keep hR.1 p0
        have q4 := cell_keep hR.1 p1
        have q5 := cell_keep hR.1 n0
        have q6 := cell_keep hR.1 n1
        clear hF hpre hl hR
        go_simp
        exact ⟨_, rfl, hgoal _ _ (Below.refl _ _) rfl⟩
      | 5, ho =>
        simp at ho
        subst ho
        refine step_plain rfl ?_
        have e64 := hF.gave 1 rfl (hpre ⟨1, .data⟩ (by simp) rfl) rfl
        have v1 := hR.2 1 (hpre ⟨1, .data⟩ (by simp) rfl)
        have e65 := hF.gave 2 rfl (hpre ⟨2, .data⟩ (by simp) rfl) rfl
        have v2 := hR.2 2 (hpre ⟨2, .data⟩ (by simp) rfl)
        rw [show val 2 = .agg #[.int .i64 y1, .int .i64 y2] from v2] at e65
        clear v2
        have e67 := hF.gave 4 rfl (hpre ⟨4, .data⟩ (by simp) rfl) rfl
        have v4 := hR.2 4 (hpre ⟨4, .data⟩ (by simp) rfl)
        rw [show val 4 = .int .i64 l1 from v4] at e67
        clear v4
        have hgoal : ∀ v W', Below x.heap.size x W' → QG7 w.heap.size (AX) X.length cx AY Y.length cy AV V.length cv y1 y2 l1 gb0 gb1 X Y V 5 v W' → RQ (QG7 w.heap.size (AX) X.length cx AY Y.length cy AV V.length cv y1 y2 l1 gb0 gb1 X Y V) w4 (upd val 5 v) (L.setIfInBounds 5 true) W' := fun v W' hb hq => hR.step hst hb hq
        have q0 := cell_keep hR.1 t0
        have q1 := cell_keep hR.1 t1
        have q2 := cell_keep hR.1 t2
        have q3 := cell_keep hR.1 p0
        have q4 := cell_keep hR.1 p1
        have q5 := cell_keep hR.1 n0
        have q6 := cell_keep hR.1 n1
        have hM := Lib.hid hR.1
        clear hF hpre hl hR
        obtain ⟨AX', cx', AY', cy', AV', cv', e1, htb⟩ := v1
        rw [e1] at e64
        go_simp
        refine ⟨trivial, ?_⟩
        refine CallsIn.mono (callsIn_wide.2 (greatest_any AX' AY' AV' _ cx' _ cy' _ cv' _ X Y V y1 y2 l1 _ rfl rfl rfl hmx hmy hmv hmr (Nat.le_refl _) htb)) ?_
        rintro e y9 ⟨rfl, hb9⟩
        rw [HGB.out]
        exact ⟨_, rfl, hgoal _ _ hb9 rfl⟩
      | 6, ho =>
        simp at ho
        subst ho
        refine step_plain rfl ?_
        have e68 := hF.gave 5 rfl (hpre ⟨5, .data⟩ (by simp) rfl) rfl
        have v5 := hR.2 5 (hpre ⟨5, .data⟩ (by simp) rfl)
        rw [show val 5 = .tuple #[.int .i64 gb0, .int .i64 gb1] from v5] at e68
        clear v5
        have hgoal : ∀ v W', Below x.heap.size x W' → QG7 w.heap.size (AX) X.length cx AY Y.length cy AV V.length cv y1 y2 l1 gb0 gb1 X Y V 6 v W' → RQ (QG7 w.heap.size (AX) X.length cx AY Y.length cy AV V.length cv y1 y2 l1 gb0 gb1 X Y V) w4 (upd val 6 v) (L.setIfInBounds 6 true) W' := fun v W' hb hq => hR.step hst hb hq
        clear hF hpre hl hR
        go_simp
        exact ⟨_, rfl, hgoal _ _ (Below.refl _ _) rfl⟩
      | 7, ho =>
        simp at ho
        subst ho
        refine step_plain rfl ?_
        have e62 := hF.gave 6 rfl (hpre ⟨6, .data⟩ (by simp) rfl) rfl
        have v6 := hR.2 6 (hpre ⟨6, .data⟩ (by simp) rfl)
        rw [show val 6 = .tuple #[.int .i64 gb0, .int .i64 gb1] from v6] at e62
        clear v6
        have hgoal : ∀ v W', Below x.heap.size x W' → QG7 w.heap.size (AX) X.length cx AY Y.length cy AV V.length cv y1 y2 l1 gb0 gb1 X Y V 7 v W' → RQ (QG7 w.heap.size (AX) X.length cx AY Y.length cy AV V.length cv y1 y2 l1 gb0 gb1 X Y V) w4 (upd val 7 v) (L.setIfInBounds 7 true) W' := fun v W' hb hq => hR.step hst hb hq
        clear hF hpre hl hR
        go_simp
        exact ⟨_, rfl, hgoal _ _ (Below.refl _ _) rfl⟩
      | 8, ho =>
        simp at ho
        subst ho
        refine step_plain rfl ?_
        have e62 := hF.gave 6 rfl (hpre ⟨6, .data⟩ (by simp) rfl) rfl
        have v6 := hR.2 6 (hpre ⟨6, .data⟩ (by simp) rfl)
        rw [show val 6 = .tuple #[.int .i64 gb0, .int .i64 gb1] from v6] at e62
        clear v6
        have hgoal : ∀ v W', Below x.heap.size x W' → QG7 w.heap.size (AX) X.length cx AY Y.length cy AV V.length cv y1 y2 l1 gb0 gb1 X Y V 8 v W' → RQ (QG7 w.heap.size (AX) X.length cx AY Y.length cy AV V.length cv y1 y2 l1 gb0 gb1 X Y V) w4 (upd val 8 v) (L.setIfInBounds 8 true) W' := fun v W' hb hq => hR.step hst hb hq
        clear hF hpre hl hR
        go_simp
        exact ⟨_, rfl, hgoal _ _ (Below.refl _ _) rfl⟩
      | 9, ho =>
        simp at ho
        subst ho
        refine step_plain rfl ?_
        have e69 := hF.gave 7 rfl (hpre ⟨7, .data⟩ (by simp) rfl) rfl
        have v7 := hR.2 7 (hpre ⟨7, .data⟩ (by simp) rfl)
        rw [show val 7 = .int .i64 gb0 from v7] at e69
        clear v7
        have hgoal : ∀ v W', Below x.heap.size x W' → QG7 w.heap.size (AX) X.length cx AY Y.length cy AV V.length cv y1 y2 l1 gb0 gb1 X Y V 9 v W' → RQ (QG7 w.heap.size (AX) X.length cx AY Y.length cy AV V.length cv y1 y2 l1 gb0 gb1 X Y V) w4 (upd val 9 v) (L.setIfInBounds 9 true) W' := fun v W' hb hq => hR.step hst hb hq
        clear hF hpre hl hR
        go_simp
        exact ⟨_, rfl, hgoal _ _ (Below.refl _ _) rfl⟩
      | 10, ho =>
        simp at ho
        subst ho
        refine step_plain rfl ?_
        have e70 := hF.gave 8 rfl (hpre ⟨8, .data⟩ (by simp) rfl) rfl
        have v8 := hR.2 8 (hpre ⟨8, .data⟩ (by simp) rfl)
        rw [show val 8 = .int .i64 gb1 from v8] at e70
        clear v8
        have hgoal : ∀ v W', Below x.heap.size x W' → QG7 w.heap.size (AX) X.length cx AY Y.length cy AV V.length cv y1 y2 l1 gb0 gb1 X Y V 10 v W' → RQ (QG7 w.heap.size (AX) X.length cx AY Y.length cy AV V.length cv y1 y2 l1 gb0 gb1 X Y V) w4 (upd val 10 v) (L.setIfInBounds 10 true) W' := fun v W' hb hq => hR.step hst hb hq
        clear hF hpre hl hR
        go_simp
        exact ⟨_, rfl, hgoal _ _ (Below.refl _ _) rfl⟩
      | i + 11, ho => simp at ho
    case hend =>
    intro val L b' w6 hF hall hR
    have e := hF.all (by kernel_rfl) hall
    have v9 := hR.2 9 (hall 9 (by decide))
    have v10 := hR.2 10 (hall 10 (by decide))
    have hb6 := hR.1
    have S7 := HS5.out.next hb6
    have HS7 := Lib.hid S7
    clear hF hall hR hst t0 t1 t2 p0 p1 n0 n1 l9 HS5 HB4 hb6
    obtain ⟨t0, t1, t2, p0, p1, n0, n1, l9, _⟩ := S7
    subst e
    simp [final, dstOf, List.range, List.range.loop]
    rw [show val 9 = .int .i64 gb0 from v9, show val 10 = .int .i64 gb1 from v10]
    clear v9 v10
    generalize val 0 = u0, val 1 = u1, val 2 = u2, val 3 = u3, val 4 = u4, val 5 = u5, val 6 = u6, val 7 = u7, val 8 = u8
    by_cases hl : l1 < l0
    · go_wp2_with (go_at_call 18; refine Calls.mono (HWK.out _) ?_; rintro e w5 ⟨rfl, hb5⟩)
      go_ret
      exact ⟨rfl, HS7.out.b.trans (hb5.mono HS7.out.b.size)⟩
    by_cases hg : ga1 = 0
    · obtain ⟨m1, m2⟩ := HMO.out (by omega) hg
      subst hg
      try simp only at m1 m2
      subst m1
      go_wp2_with (go_at_call 18; refine Calls.mono (HWK.out _) ?_; rintro e w5 ⟨rfl, hb5⟩)
      go_ret
      exact ⟨rfl, HS7.out.b.trans (hb5.mono HS7.out.b.size)⟩
    · have hg' : (ga1 != 0) = true := by rw [bne_iff_ne]; exact hg
      go_wp2_with (go_at_call 18; refine Calls.mono (HWK.out _) ?_; rintro e w5 ⟨rfl, hb5⟩)
      go_ret
      exact ⟨rfl, HS7.out.b.trans (hb5.mono HS7.out.b.size)⟩
  | true =>
    obtain ⟨ha, hb, hlv, _⟩ := ctB_get hct
    obtain ⟨q1, q2, q3, q4⟩ := axB_get ha
    have HE := Lib.hid (ctE_yes hct)
    obtain ⟨bx, ox, xa, hAX, hbx, hxa, hcx0⟩ := HT.out.x.at_ (k := 0) (by omega)
    obtain ⟨bx2, ox2, xb, hA, _, hxb, hcx1⟩ := HT.out.x.at_ (k := X.length - 1) (by omega)
    obtain ⟨rfl, rfl⟩ : bx = bx2 ∧ ox = ox2 := by rw [hAX] at hA; simpa using hA
    subst hAX
    obtain ⟨a1, a2⟩ := wB_mem q3 hxa
    obtain ⟨a3, a4⟩ := wB_mem q3 hxb
    have i0 : 0 < X.length := by omega
    have i1 : IntKind.i64.wrap ((X.length : Int) - 1) = (X.length : Int) - 1 := IntWalk.i64_in _ (by omega)
    have i2 : ((X.length : Int) - 1).toNat = X.length - 1 := by omega
    have i3 : (0 : Int) ≤ (X.length : Int) - 1 := by omega
    have i4 : (X.length : Int) - 1 < (X.length : Int) := by omega
    have i5 : (1 : Int) ≤ X.length := by omega
    have i6 : IntKind.i64.wrap (xb - xa) = xb - xa := IntWalk.i64_in _ (by omega)
    simp only [Nat.add_zero] at hcx0
    have hbxw : bx < w.heap.size := by omega
    clear hct ha hb hlv hA hxa hxb q3 q4
    go_enter Try.func12, Try.ntmps12
    go_upto_region 1 with fail
    have S1 := HS0.out
    generalize hW0 : (((w.alloc _).alloc _).alloc _) = W0 at *
    have HW0 := Lib.hid S1.b
    have HS1 := Lib.hid S1
    obtain ⟨t0, t1, t2, p0, p1, n0, n1, l9, _⟩ := S1
    have x0 : W0.cell? ⟨bx, ox, none⟩ = some (.int .i64 xa) := (HW0.out.cell (p := ⟨bx, ox, none⟩) hbxw).trans hcx0
    have x1 : W0.cell? ⟨bx, ox + (X.length - 1), none⟩ = some (.int .i64 xb) := (HW0.out.cell (p := ⟨bx, ox + (X.length - 1), none⟩) hbxw).trans hcx1
    clear hW0 HS0 hcx0 hcx1
    by_cases hwd : 3000 < xb - xa
    · skip
      have hst := QGC_stays w.heap.size X.length cx AY Y.length cy AV V.length cv bx ox xa xb
      refine wpIn_wide.1 (region_inv2 (n := 9) (by kernel_rfl) (RQ (QGC w.heap.size X.length cx AY Y.length cy AV V.length cv bx ox xa xb) W0) (by kernel_rfl) rfl (RQ.start _ _ _) ?hstep ?hend)
      case hstep =>
        intro i' o ho val L b' x hF hR hpre hl
        match i', ho with
        | 0, ho =>
          simp at ho
          subst ho
          refine step_plain rfl ?_
          have e3 := hF.was 3 (by kernel_rfl) rfl
          have hgoal : ∀ v W', Below x.heap.size x W' → QGC w.heap.size X.length cx AY Y.length cy AV V.length cv bx ox xa xb 0 v W' → RQ (QGC w.heap.size X.length cx AY Y.length cy AV V.length cv bx ox xa xb) W0 (upd val 0 v) (L.setIfInBounds 0 true) W' := fun v W' hb hq => hR.step hst hb hq
          have q0 := cell_keep hR.1 t0
          have q1 := cell_keep hR.1 t1
          have q2 := cell_keep hR.1 t2
          have q3 := cell_keep hR.1 x0
          have q4 := cell_keep hR.1 x1
          clear hF hpre hl hR
          go_simp
          exact ⟨_, rfl, hgoal _ _ (Below.refl _ _) rfl⟩
        | 1, ho =>
          simp at ho
          subst ho
          refine step_plain rfl ?_
          have e13 := hF.gave 0 rfl (hpre ⟨0, .data⟩ (by simp) rfl) rfl
          have v0 := hR.2 0 (hpre ⟨0, .data⟩ (by simp) rfl)
          rw [show val 0 = .agg #[.slice (some ⟨bx, ox, none⟩) X.length cx, .slice AY Y.length cy, .slice AV V.length cv] from v0] at e13
          clear v0
          have hgoal : ∀ v W', Below x.heap.size x W' → QGC w.heap.size X.length cx AY Y.length cy AV V.length cv bx ox xa xb 1 v W' → RQ (QGC w.heap.size X.length cx AY Y.length cy AV V.length cv bx ox xa xb) W0 (upd val 1 v) (L.setIfInBounds 1 true) W' := fun v W' hb hq => hR.step hst hb hq
          have q0 := cell_keep hR.1 t0
          have q1 := cell_keep hR.1 t1
          have q2 := cell_keep hR.1 t2
          have q3 := cell_keep hR.1 x0
          have q4 := cell_keep hR.1 x1
          have hM := Lib.hid hR.1
          clear hF hpre hl hR
          go_simp
          refine ⟨trivial, ?_⟩
          refine CallsIn.mono (callsIn_wide.2 (HFAR.out _ (HW0.out.trans (hM.out.mono HW0.out.size)))) ?_
          rintro e y9 ⟨rfl, hb9⟩
          rw [HF.out]
          exact ⟨_, rfl, hgoal _ _ hb9 rfl⟩
        | 2, ho =>
          simp at ho
          subst ho
          refine step_plain rfl ?_
          have e14 := hF.gave 1 rfl (hpre ⟨1, .data⟩ (by simp) rfl) rfl
          have v1 := hR.2 1 (hpre ⟨1, .data⟩ (by simp) rfl)
          rw [show val 1 = .bool false from v1] at e14
          clear v1
          have hgoal : ∀ v W', Below x.heap.size x W' → QGC w.heap.size X.length cx AY Y.length cy AV V.length cv bx ox xa xb 2 v W' → RQ (QGC w.heap.size X.length cx AY Y.length cy AV V.length cv bx ox xa xb) W0 (upd val 2 v) (L.setIfInBounds 2 true) W' := fun v W' hb hq => hR.step hst hb hq
          clear hF hpre hl hR
          go_simp
          exact ⟨_, rfl, hgoal _ _ (Below.refl _ _) rfl⟩
        | 3, ho =>
          simp at ho
          subst ho
          refine step_guard (j := 2) (s := 15) (b := false) hF rfl rfl (by kernel_rfl) (hpre ⟨2, .guard⟩ (by simp) rfl) (hR.2 2 (hpre ⟨2, .guard⟩ (by simp) rfl)) ?_
          have e3 := hF.was 3 (by kernel_rfl) rfl
          have hgoal : ∀ v W', Below x.heap.size x W' → QGC w.heap.size X.length cx AY Y.length cy AV V.length cv bx ox xa xb 3 v W' → RQ (QGC w.heap.size X.length cx AY Y.length cy AV V.length cv bx ox xa xb) W0 (upd val 3 v) (L.setIfInBounds 3 true) W' := fun v W' hb hq => hR.step hst hb hq
          have q0 := cell_keep hR.1 t0
          have q1 := cell_keep hR.1 t1
          have q2 := cell_keep hR.1 t2
          have q3 := cell_keep hR.1 x0
          have q4 := cell_keep hR.1 x1
          clear hF hpre hl hR
          go_simp
          exact ⟨_, rfl, hgoal _ _ (Below.refl _ _) rfl⟩
        | 4, ho =>
          simp at ho
          subst ho
          refine step_guard (j := 2) (s := 15) (b := false) hF rfl rfl (by kernel_rfl) (hpre ⟨2, .guard⟩ (by simp) rfl) (hR.2 2 (hpre ⟨2, .guard⟩ (by simp) rfl)) ?_
          have e16 := hF.gave 3 rfl (hpre ⟨3, .data⟩ (by simp) rfl) rfl
          have v3 := hR.2 3 (hpre ⟨3, .data⟩ (by simp) rfl)
          rw [show val 3 = .agg #[.slice (some ⟨bx, ox, none⟩) X.length cx, .slice AY Y.length cy, .slice AV V.length cv] from v3] at e16
          clear v3
          have hgoal : ∀ v W', Below x.heap.size x W' → QGC w.heap.size X.length cx AY Y.length cy AV V.length cv bx ox xa xb 4 v W' → RQ (QGC w.heap.size X.length cx AY Y.length cy AV V.length cv bx ox xa xb) W0 (upd val 4 v) (L.setIfInBounds 4 true) W' := fun v W' hb hq => hR.step hst hb hq
          have q0 := cell_keep hR.1 t0
          have q1 := cell_keep hR.1 t1
          have q2 := cell_keep hR.1 t2
          have q3 := cell_keep hR.1 x0
          have q4 := cell_keep hR.1 x1
          have hM := Lib.hid hR.1
          clear hF hpre hl hR
          go_simp
          refine ⟨trivial, ?_⟩
          refine CallsIn.mono (callsIn_wide.2 (HRC.out _ (HW0.out.trans (hM.out.mono HW0.out.size)))) ?_
          rintro e y9 ⟨rfl, hb9⟩
          rw [HE.out]
          exact ⟨_, rfl, hgoal _ _ hb9 rfl⟩
        | 5, ho =>
          simp at ho
          subst ho
          refine step_guard (j := 2) (s := 15) (b := false) hF rfl rfl (by kernel_rfl) (hpre ⟨2, .guard⟩ (by simp) rfl) (hR.2 2 (hpre ⟨2, .guard⟩ (by simp) rfl)) ?_
          have e17 := hF.gave 4 rfl (hpre ⟨4, .data⟩ (by simp) rfl) rfl
          have v4 := hR.2 4 (hpre ⟨4, .data⟩ (by simp) rfl)
          rw [show val 4 = .int .i64 0 from v4] at e17
          clear v4
          have hgoal : ∀ v W', Below x.heap.size x W' → QGC w.heap.size X.length cx AY Y.length cy AV V.length cv bx ox xa xb 5 v W' → RQ (QGC w.heap.size X.length cx AY Y.length cy AV V.length cv bx ox xa xb) W0 (upd val 5 v) (L.setIfInBounds 5 true) W' := fun v W' hb hq => hR.step hst hb hq
          clear hF hpre hl hR
          go_simp
          exact ⟨_, rfl, hgoal _ _ (Below.refl _ _) rfl⟩
        | 6, ho =>
          simp at ho
          subst ho
          refine step_guard (j := 2) (s := 15) (b := false) hF rfl rfl (by kernel_rfl) (hpre ⟨2, .guard⟩ (by simp) rfl) (hR.2 2 (hpre ⟨2, .guard⟩ (by simp) rfl)) ?_
          have e18 := hF.gave 5 rfl (hpre ⟨5, .data⟩ (by simp) rfl) rfl
          have v5 := hR.2 5 (hpre ⟨5, .data⟩ (by simp) rfl)
          rw [show val 5 = .bool true from v5] at e18
          clear v5
          have hgoal : ∀ v W', Below x.heap.size x W' → QGC w.heap.size X.length cx AY Y.length cy AV V.length cv bx ox xa xb 6 v W' → RQ (QGC w.heap.size X.length cx AY Y.length cy AV V.length cv bx ox xa xb) W0 (upd val 6 v) (L.setIfInBounds 6 true) W' := fun v W' hb hq => hR.step hst hb hq
          clear hF hpre hl hR
          go_simp
          exact ⟨_, rfl, hgoal _ _ (Below.refl _ _) rfl⟩
        | 7, ho =>
          simp at ho
          subst ho
          refine step_guard (j := 6) (s := 19) (b := true) hF rfl rfl (by kernel_rfl) (hpre ⟨6, .guard⟩ (by simp) rfl) (hR.2 6 (hpre ⟨6, .guard⟩ (by simp) rfl)) ?_
          have e3 := hF.was 3 (by kernel_rfl) rfl
          have hgoal : ∀ v W', Below x.heap.size x W' → QGC w.heap.size X.length cx AY Y.length cy AV V.length cv bx ox xa xb 7 v W' → RQ (QGC w.heap.size X.length cx AY Y.length cy AV V.length cv bx ox xa xb) W0 (upd val 7 v) (L.setIfInBounds 7 true) W' := fun v W' hb hq => hR.step hst hb hq
          clear hF hpre hl hR
          go_simp
          exact ⟨_, rfl, hgoal _ _ (Below.refl _ _) rfl⟩
        | 8, ho =>
          simp at ho
          subst ho
          refine step_guard (j := 6) (s := 19) (b := true) hF rfl rfl (by kernel_rfl) (hpre ⟨6, .guard⟩ (by simp) rfl) (hR.2 6 (hpre ⟨6, .guard⟩ (by simp) rfl)) ?_
          have e20 := hF.gave 7 rfl (hpre ⟨7, .data⟩ (by simp) rfl) rfl
          have v7 := hR.2 7 (hpre ⟨7, .data⟩ (by simp) rfl)
          rw [show val 7 = .pointer (some ⟨w.heap.size, 0, none⟩) from v7] at e20
          clear v7
          have hgoal : ∀ v W', Below x.heap.size x W' → QGC w.heap.size X.length cx AY Y.length cy AV V.length cv bx ox xa xb 8 v W' → RQ (QGC w.heap.size X.length cx AY Y.length cy AV V.length cv bx ox xa xb) W0 (upd val 8 v) (L.setIfInBounds 8 true) W' := fun v W' hb hq => hR.step hst hb hq
          have q0 := cell_keep hR.1 t0
          have q1 := cell_keep hR.1 t1
          have q2 := cell_keep hR.1 t2
          have q3 := cell_keep hR.1 x0
          have q4 := cell_keep hR.1 x1
          clear hF hpre hl hR
          go_simp
          exact ⟨_, rfl, hgoal _ _ (Below.refl _ _) rfl⟩
        | 9, ho =>
          simp at ho
          subst ho
          refine step_guard (j := 6) (s := 19) (b := true) hF rfl rfl (by kernel_rfl) (hpre ⟨6, .guard⟩ (by simp) rfl) (hR.2 6 (hpre ⟨6, .guard⟩ (by simp) rfl)) ?_
          have e3 := hF.was 3 (by kernel_rfl) rfl
          have hgoal : ∀ v W', Below x.heap.size x W' → QGC w.heap.size X.length cx AY Y.length cy AV V.length cv bx ox xa xb 9 v W' → RQ (QGC w.heap.size X.length cx AY Y.length cy AV V.length cv bx ox xa xb) W0 (upd val 9 v) (L.setIfInBounds 9 true) W' := fun v W' hb hq => hR.step hst hb hq
          clear hF hpre hl hR
          go_simp
          exact ⟨_, rfl, hgoal _ _ (Below.refl _ _) rfl⟩
        | 10, ho =>
          simp at ho
          subst ho
          refine step_guard (j := 6) (s := 19) (b := true) hF rfl rfl (by kernel_rfl) (hpre ⟨6, .guard⟩ (by simp) rfl) (hR.2 6 (hpre ⟨6, .guard⟩ (by simp) rfl)) ?_
          have e22 := hF.gave 9 rfl (hpre ⟨9, .data⟩ (by simp) rfl) rfl
          have v9 := hR.2 9 (hpre ⟨9, .data⟩ (by simp) rfl)
          rw [show val 9 = .pointer (some ⟨w.heap.size, 0, none⟩) from v9] at e22
          clear v9
          have hgoal : ∀ v W', Below x.heap.size x W' → QGC w.heap.size X.length cx AY Y.length cy AV V.length cv bx ox xa xb 10 v W' → RQ (QGC w.heap.size X.length cx AY Y.length cy AV V.length cv bx ox xa xb) W0 (upd val 10 v) (L.setIfInBounds 10 true) W' := fun v W' hb hq => hR.step hst hb hq
          have q0 := cell_keep hR.1 t0
          have q1 := cell_keep hR.1 t1
          have q2 := cell_keep hR.1 t2
          have q3 := cell_keep hR.1 x0
          have q4 := cell_keep hR.1 x1
          clear hF hpre hl hR
          go_simp
          exact ⟨_, rfl, hgoal _ _ (Below.refl _ _) rfl⟩
        | 11, ho =>
          simp at ho
          subst ho
          refine step_guard (j := 6) (s := 19) (b := true) hF rfl rfl (by kernel_rfl) (hpre ⟨6, .guard⟩ (by simp) rfl) (hR.2 6 (hpre ⟨6, .guard⟩ (by simp) rfl)) ?_
          have e23 := hF.gave 10 rfl (hpre ⟨10, .data⟩ (by simp) rfl) rfl
          have v10 := hR.2 10 (hpre ⟨10, .data⟩ (by simp) rfl)
          rw [show val 10 = .slice (some ⟨bx, ox, none⟩) X.length cx from v10] at e23
          clear v10
          have hgoal : ∀ v W', Below x.heap.size x W' → QGC w.heap.size X.length cx AY Y.length cy AV V.length cv bx ox xa xb 11 v W' → RQ (QGC w.heap.size X.length cx AY Y.length cy AV V.length cv bx ox xa xb) W0 (upd val 11 v) (L.setIfInBounds 11 true) W' := fun v W' hb hq => hR.step hst hb hq
          clear hF hpre hl hR
          go_simp
          exact ⟨_, rfl, hgoal _ _ (Below.refl _ _) rfl⟩
        | 12, ho =>
          simp at ho
          subst ho
          refine step_guard (j := 6) (s := 19) (b := true) hF rfl rfl (by kernel_rfl) (hpre ⟨6, .guard⟩ (by simp) rfl) (hR.2 6 (hpre ⟨6, .guard⟩ (by simp) rfl)) ?_
          have e24 := hF.gave 11 rfl (hpre ⟨11, .data⟩ (by simp) rfl) rfl
          have v11 := hR.2 11 (hpre ⟨11, .data⟩ (by simp) rfl)
          rw [show val 11 = .int .i64 (X.length : Nat) from v11] at e24
          clear v11
          have hgoal : ∀ v W', Below x.heap.size x W' → QGC w.heap.size X.length cx AY Y.length cy AV V.length cv bx ox xa xb 12 v W' → RQ (QGC w.heap.size X.length cx AY Y.length cy AV V.length cv bx ox xa xb) W0 (upd val 12 v) (L.setIfInBounds 12 true) W' := fun v W' hb hq => hR.step hst hb hq
          clear hF hpre hl hR
          go_simp
          exact ⟨_, rfl, hgoal _ _ (Below.refl _ _) rfl⟩
        | 13, ho =>
          simp at ho
          subst ho
          refine step_guard (j := 6) (s := 19) (b := true) hF rfl rfl (by kernel_rfl) (hpre ⟨6, .guard⟩ (by simp) rfl) (hR.2 6 (hpre ⟨6, .guard⟩ (by simp) rfl)) ?_
          have e21 := hF.gave 8 rfl (hpre ⟨8, .data⟩ (by simp) rfl) rfl
          have v8 := hR.2 8 (hpre ⟨8, .data⟩ (by simp) rfl)
          rw [show val 8 = .slice (some ⟨bx, ox, none⟩) X.length cx from v8] at e21
          clear v8
          have e25 := hF.gave 12 rfl (hpre ⟨12, .data⟩ (by simp) rfl) rfl
          have v12 := hR.2 12 (hpre ⟨12, .data⟩ (by simp) rfl)
          rw [show val 12 = .int .i64 ((X.length : Nat) - 1) from v12] at e25
          clear v12
          have hgoal : ∀ v W', Below x.heap.size x W' → QGC w.heap.size X.length cx AY Y.length cy AV V.length cv bx ox xa xb 13 v W' → RQ (QGC w.heap.size X.length cx AY Y.length cy AV V.length cv bx ox xa xb) W0 (upd val 13 v) (L.setIfInBounds 13 true) W' := fun v W' hb hq => hR.step hst hb hq
          clear hF hpre hl hR
          go_simp
          exact ⟨_, rfl, hgoal _ _ (Below.refl _ _) rfl⟩
        | 14, ho =>
          simp at ho
          subst ho
          refine step_guard (j := 6) (s := 19) (b := true) hF rfl rfl (by kernel_rfl) (hpre ⟨6, .guard⟩ (by simp) rfl) (hR.2 6 (hpre ⟨6, .guard⟩ (by simp) rfl)) ?_
          have e26 := hF.gave 13 rfl (hpre ⟨13, .data⟩ (by simp) rfl) rfl
          have v13 := hR.2 13 (hpre ⟨13, .data⟩ (by simp) rfl)
          rw [show val 13 = .pointer (some ⟨bx, ox + (X.length - 1), none⟩) from v13] at e26
          clear v13
          have hgoal : ∀ v W', Below x.heap.size x W' → QGC w.heap.size X.length cx AY Y.length cy AV V.length cv bx ox xa xb 14 v W' → RQ (QGC w.heap.size X.length cx AY Y.length cy AV V.length cv bx ox xa xb) W0 (upd val 14 v) (L.setIfInBounds 14 true) W' := fun v W' hb hq => hR.step hst hb hq
          have q0 := cell_keep hR.1 t0
          have q1 := cell_keep hR.1 t1
          have q2 := cell_keep hR.1 t2
          have q3 := cell_keep hR.1 x0
          have q4 := cell_keep hR.1 x1
          clear hF hpre hl hR
          go_simp
          exact ⟨_, rfl, hgoal _ _ (Below.refl _ _) rfl⟩
        | 15, ho =>
          simp at ho
          subst ho
          refine step_guard (j := 6) (s := 19) (b := true) hF rfl rfl (by kernel_rfl) (hpre ⟨6, .guard⟩ (by simp) rfl) (hR.2 6 (hpre ⟨6, .guard⟩ (by simp) rfl)) ?_
          have e3 := hF.was 3 (by kernel_rfl) rfl
          have hgoal : ∀ v W', Below x.heap.size x W' → QGC w.heap.size X.length cx AY Y.length cy AV V.length cv bx ox xa xb 15 v W' → RQ (QGC w.heap.size X.length cx AY Y.length cy AV V.length cv bx ox xa xb) W0 (upd val 15 v) (L.setIfInBounds 15 true) W' := fun v W' hb hq => hR.step hst hb hq
          clear hF hpre hl hR
          go_simp
          exact ⟨_, rfl, hgoal _ _ (Below.refl _ _) rfl⟩
        | 16, ho =>
          simp at ho
          subst ho
          refine step_guard (j := 6) (s := 19) (b := true) hF rfl rfl (by kernel_rfl) (hpre ⟨6, .guard⟩ (by simp) rfl) (hR.2 6 (hpre ⟨6, .guard⟩ (by simp) rfl)) ?_
          have e28 := hF.gave 15 rfl (hpre ⟨15, .data⟩ (by simp) rfl) rfl
          have v15 := hR.2 15 (hpre ⟨15, .data⟩ (by simp) rfl)
          rw [show val 15 = .pointer (some ⟨w.heap.size, 0, none⟩) from v15] at e28
          clear v15
          have hgoal : ∀ v W', Below x.heap.size x W' → QGC w.heap.size X.length cx AY Y.length cy AV V.length cv bx ox xa xb 16 v W' → RQ (QGC w.heap.size X.length cx AY Y.length cy AV V.length cv bx ox xa xb) W0 (upd val 16 v) (L.setIfInBounds 16 true) W' := fun v W' hb hq => hR.step hst hb hq
          have q0 := cell_keep hR.1 t0
          have q1 := cell_keep hR.1 t1
          have q2 := cell_keep hR.1 t2
          have q3 := cell_keep hR.1 x0
          have q4 := cell_keep hR.1 x1
          clear hF hpre hl hR
          go_simp
          exact ⟨_, rfl, hgoal _ _ (Below.refl _ _) rfl⟩
        | 17, ho =>
          simp at ho
          subst ho
          refine step_guard (j := 6) (s := 19) (b := true) hF rfl rfl (by kernel_rfl) (hpre ⟨6, .guard⟩ (by simp) rfl) (hR.2 6 (hpre ⟨6, .guard⟩ (by simp) rfl)) ?_
          have e29 := hF.gave 16 rfl (hpre ⟨16, .data⟩ (by simp) rfl) rfl
          have v16 := hR.2 16 (hpre ⟨16, .data⟩ (by simp) rfl)
          rw [show val 16 = .slice (some ⟨bx, ox, none⟩) X.length cx from v16] at e29
          clear v16
          have hgoal : ∀ v W', Below x.heap.size x W' → QGC w.heap.size X.length cx AY Y.length cy AV V.length cv bx ox xa xb 17 v W' → RQ (QGC w.heap.size X.length cx AY Y.length cy AV V.length cv bx ox xa xb) W0 (upd val 17 v) (L.setIfInBounds 17 true) W' := fun v W' hb hq => hR.step hst hb hq
          clear hF hpre hl hR
          go_simp
          exact ⟨_, rfl, hgoal _ _ (Below.refl _ _) rfl⟩
        | 18, ho =>
          simp at ho
          subst ho
          refine step_guard (j := 6) (s := 19) (b := true) hF rfl rfl (by kernel_rfl) (hpre ⟨6, .guard⟩ (by simp) rfl) (hR.2 6 (hpre ⟨6, .guard⟩ (by simp) rfl)) ?_
          have e30 := hF.gave 17 rfl (hpre ⟨17, .data⟩ (by simp) rfl) rfl
          have v17 := hR.2 17 (hpre ⟨17, .data⟩ (by simp) rfl)
          rw [show val 17 = .pointer (some ⟨bx, ox, none⟩) from v17] at e30
          clear v17
          have hgoal : ∀ v W', Below x.heap.size x W' → QGC w.heap.size X.length cx AY Y.length cy AV V.length cv bx ox xa xb 18 v W' → RQ (QGC w.heap.size X.length cx AY Y.length cy AV V.length cv bx ox xa xb) W0 (upd val 18 v) (L.setIfInBounds 18 true) W' := fun v W' hb hq => hR.step hst hb hq
          have q0 := cell_keep hR.1 t0
          have q1 := cell_keep hR.1 t1
          have q2 := cell_keep hR.1 t2
          have q3 := cell_keep hR.1 x0
          have q4 := cell_keep hR.1 x1
          clear hF hpre hl hR
          go_simp
          exact ⟨_, rfl, hgoal _ _ (Below.refl _ _) rfl⟩
        | 19, ho =>
          simp at ho
          subst ho
          refine step_guard (j := 6) (s := 19) (b := true) hF rfl rfl (by kernel_rfl) (hpre ⟨6, .guard⟩ (by simp) rfl) (hR.2 6 (hpre ⟨6, .guard⟩ (by simp) rfl)) ?_
          have e27 := hF.gave 14 rfl (hpre ⟨14, .data⟩ (by simp) rfl) rfl
          have v14 := hR.2 14 (hpre ⟨14, .data⟩ (by simp) rfl)
          rw [show val 14 = .int .i64 xb from v14] at e27
          clear v14
          have e31 := hF.gave 18 rfl (hpre ⟨18, .data⟩ (by simp) rfl) rfl
          have v18 := hR.2 18 (hpre ⟨18, .data⟩ (by simp) rfl)
          rw [show val 18 = .int .i64 xa from v18] at e31
          clear v18
          have hgoal : ∀ v W', Below x.heap.size x W' → QGC w.heap.size X.length cx AY Y.length cy AV V.length cv bx ox xa xb 19 v W' → RQ (QGC w.heap.size X.length cx AY Y.length cy AV V.length cv bx ox xa xb) W0 (upd val 19 v) (L.setIfInBounds 19 true) W' := fun v W' hb hq => hR.step hst hb hq
          clear hF hpre hl hR
          go_simp
          exact ⟨_, rfl, hgoal _ _ (Below.refl _ _) rfl⟩
        | 20, ho =>
          simp at ho
          subst ho
          refine step_guard (j := 6) (s := 19) (b := true) hF rfl rfl (by kernel_rfl) (hpre ⟨6, .guard⟩ (by simp) rfl) (hR.2 6 (hpre ⟨6, .guard⟩ (by simp) rfl)) ?_
          have e32 := hF.gave 19 rfl (hpre ⟨19, .data⟩ (by simp) rfl) rfl
          have v19 := hR.2 19 (hpre ⟨19, .data⟩ (by simp) rfl)
          rw [show val 19 = .int .i64 (xb - xa) from v19] at e32
          clear v19
          have hgoal : ∀ v W', Below x.heap.size x W' → QGC w.heap.size X.length cx AY Y.length cy AV V.length cv bx ox xa xb 20 v W' → RQ (QGC w.heap.size X.length cx AY Y.length cy AV V.length cv bx ox xa xb) W0 (upd val 20 v) (L.setIfInBounds 20 true) W' := fun v W' hb hq => hR.step hst hb hq
          clear hF hpre hl hR
          go_simp
          exact ⟨_, rfl, hgoal _ _ (Below.refl _ _) rfl⟩
        | 21, ho =>
          simp at ho
          subst ho
          refine step_guard (j := 2) (s := 15) (b := false) hF rfl rfl (by kernel_rfl) (hpre ⟨2, .guard⟩ (by simp) rfl) (hR.2 2 (hpre ⟨2, .guard⟩ (by simp) rfl)) ?_
          have e19 := hF.gave 6 rfl (hpre ⟨6, .data⟩ (by simp) rfl) rfl
          have v6 := hR.2 6 (hpre ⟨6, .data⟩ (by simp) rfl)
          rw [show val 6 = .bool true from v6] at e19
          clear v6
          have e33 := hF.gave 20 rfl (hpre ⟨20, .data⟩ (by simp) rfl) rfl
          have v20 := hR.2 20 (hpre ⟨20, .data⟩ (by simp) rfl)
          rw [show val 20 = .bool true from v20] at e33
          clear v20
          have hgoal : ∀ v W', Below x.heap.size x W' → QGC w.heap.size X.length cx AY Y.length cy AV V.length cv bx ox xa xb 21 v W' → RQ (QGC w.heap.size X.length cx AY Y.length cy AV V.length cv bx ox xa xb) W0 (upd val 21 v) (L.setIfInBounds 21 true) W' := fun v W' hb hq => hR.step hst hb hq
          clear hF hpre hl hR
          go_simp
          exact ⟨_, rfl, hgoal _ _ (Below.refl _ _) rfl⟩
        | 22, ho =>
          simp at ho
          subst ho
          refine step_plain rfl ?_
          have e15 := hF.gave 2 rfl (hpre ⟨2, .data⟩ (by simp) rfl) rfl
          have v2 := hR.2 2 (hpre ⟨2, .data⟩ (by simp) rfl)
          rw [show val 2 = .bool false from v2] at e15
          clear v2
          have e34 := hF.gave 21 rfl (hpre ⟨21, .data⟩ (by simp) rfl) rfl
          have v21 := hR.2 21 (hpre ⟨21, .data⟩ (by simp) rfl)
          rw [show val 21 = .bool true from v21] at e34
          clear v21
          have hgoal : ∀ v W', Below x.heap.size x W' → QGC w.heap.size X.length cx AY Y.length cy AV V.length cv bx ox xa xb 22 v W' → RQ (QGC w.heap.size X.length cx AY Y.length cy AV V.length cv bx ox xa xb) W0 (upd val 22 v) (L.setIfInBounds 22 true) W' := fun v W' hb hq => hR.step hst hb hq
          clear hF hpre hl hR
          go_simp
          exact ⟨_, rfl, hgoal _ _ (Below.refl _ _) rfl⟩
        | i + 23, ho => simp at ho
      case hend =>
      intro val L b' w1 hF hall hR
      have e := hF.all (by kernel_rfl) hall
      have v22 := hR.2 22 (hall 22 (by decide))
      have hb1 := hR.1
      clear hF hall hR hst
      subst e
      simp [final, dstOf, List.range, List.range.loop]
      rw [show val 22 = .bool true from v22]
      clear v22
      generalize val 0 = v0, val 1 = v1, val 2 = v2, val 3 = v3, val 4 = v4, val 5 = v5, val 6 = v6, val 7 = v7, val 8 = v8, val 9 = v9, val 10 = v10, val 11 = v11, val 12 = v12, val 13 = v13, val 14 = v14, val 15 = v15, val 16 = v16, val 17 = v17, val 18 = v18, val 19 = v19, val 20 = v20, val 21 = v21
      go_wp2_with (go_at_call 18; refine Calls.mono (HWK.out _) ?_; rintro e w5 ⟨rfl, hb5⟩)
      go_ret
      have hb := HW0.out.trans (hb1.mono HW0.out.size)
      exact ⟨rfl, hb.trans (hb5.mono hb.size)⟩
    · have hwd' : xb - xa ≤ 3000 := by omega
      have hst := QGD_stays w.heap.size X.length cx AY Y.length cy AV V.length cv bx ox xa xb
      refine wpIn_wide.1 (region_inv2 (n := 9) (by kernel_rfl) (RQ (QGD w.heap.size X.length cx AY Y.length cy AV V.length cv bx ox xa xb) W0) (by kernel_rfl) rfl (RQ.start _ _ _) ?hstep ?hend)
      case hstep =>
        intro i' o ho val L b' x hF hR hpre hl
        match i', ho with
        | 0, ho =>
          simp at ho
          subst ho
          refine step_plain rfl ?_
          have e3 := hF.was 3 (by kernel_rfl) rfl
          have hgoal : ∀ v W', Below x.heap.size x W' → QGD w.heap.size X.length cx AY Y.length cy AV V.length cv bx ox xa xb 0 v W' → RQ (QGD w.heap.size X.length cx AY Y.length cy AV V.length cv bx ox xa xb) W0 (upd val 0 v) (L.setIfInBounds 0 true) W' := fun v W' hb hq => hR.step hst hb hq
          have q0 := cell_keep hR.1 t0
          have q1 := cell_keep hR.1 t1
          have q2 := cell_keep hR.1 t2
          have q3 := cell_keep hR.1 x0
          have q4 := cell_keep hR.1 x1
          clear hF hpre hl hR
          go_simp
          exact ⟨_, rfl, hgoal _ _ (Below.refl _ _) rfl⟩
        | 1, ho =>
          simp at ho
          subst ho
          refine step_plain rfl ?_
          have e13 := hF.gave 0 rfl (hpre ⟨0, .data⟩ (by simp) rfl) rfl
          have v0 := hR.2 0 (hpre ⟨0, .data⟩ (by simp) rfl)
          rw [show val 0 = .agg #[.slice (some ⟨bx, ox, none⟩) X.length cx, .slice AY Y.length cy, .slice AV V.length cv] from v0] at e13
          clear v0
          have hgoal : ∀ v W', Below x.heap.size x W' → QGD w.heap.size X.length cx AY Y.length cy AV V.length cv bx ox xa xb 1 v W' → RQ (QGD w.heap.size X.length cx AY Y.length cy AV V.length cv bx ox xa xb) W0 (upd val 1 v) (L.setIfInBounds 1 true) W' := fun v W' hb hq => hR.step hst hb hq
          have q0 := cell_keep hR.1 t0
          have q1 := cell_keep hR.1 t1
          have q2 := cell_keep hR.1 t2
          have q3 := cell_keep hR.1 x0
          have q4 := cell_keep hR.1 x1
          have hM := Lib.hid hR.1
          clear hF hpre hl hR
          go_simp
          refine ⟨trivial, ?_⟩
          refine CallsIn.mono (callsIn_wide.2 (HFAR.out _ (HW0.out.trans (hM.out.mono HW0.out.size)))) ?_
          rintro e y9 ⟨rfl, hb9⟩
          rw [HF.out]
          exact ⟨_, rfl, hgoal _ _ hb9 rfl⟩
        | 2, ho =>
          simp at ho
          subst ho
          refine step_plain rfl ?_
          have e14 := hF.gave 1 rfl (hpre ⟨1, .data⟩ (by simp) rfl) rfl
          have v1 := hR.2 1 (hpre ⟨1, .data⟩ (by simp) rfl)
          rw [show val 1 = .bool false from v1] at e14
          clear v1
          have hgoal : ∀ v W', Below x.heap.size x W' → QGD w.heap.size X.length cx AY Y.length cy AV V.length cv bx ox xa xb 2 v W' → RQ (QGD w.heap.size X.length cx AY Y.length cy AV V.length cv bx ox xa xb) W0 (upd val 2 v) (L.setIfInBounds 2 true) W' := fun v W' hb hq => hR.step hst hb hq
          clear hF hpre hl hR
          go_simp
          exact ⟨_, rfl, hgoal _ _ (Below.refl _ _) rfl⟩
        | 3, ho =>
          simp at ho
          subst ho
          refine step_guard (j := 2) (s := 15) (b := false) hF rfl rfl (by kernel_rfl) (hpre ⟨2, .guard⟩ (by simp) rfl) (hR.2 2 (hpre ⟨2, .guard⟩ (by simp) rfl)) ?_
          have e3 := hF.was 3 (by kernel_rfl) rfl
          have hgoal : ∀ v W', Below x.heap.size x W' → QGD w.heap.size X.length cx AY Y.length cy AV V.length cv bx ox xa xb 3 v W' → RQ (QGD w.heap.size X.length cx AY Y.length cy AV V.length cv bx ox xa xb) W0 (upd val 3 v) (L.setIfInBounds 3 true) W' := fun v W' hb hq => hR.step hst hb hq
          have q0 := cell_keep hR.1 t0
          have q1 := cell_keep hR.1 t1
          have q2 := cell_keep hR.1 t2
          have q3 := cell_keep hR.1 x0
          have q4 := cell_keep hR.1 x1
          clear hF hpre hl hR
          go_simp
          exact ⟨_, rfl, hgoal _ _ (Below.refl _ _) rfl⟩
        | 4, ho =>
          simp at ho
          subst ho
          refine step_guard (j := 2) (s := 15) (b := false) hF rfl rfl (by kernel_rfl) (hpre ⟨2, .guard⟩ (by simp) rfl) (hR.2 2 (hpre ⟨2, .guard⟩ (by simp) rfl)) ?_
          have e16 := hF.gave 3 rfl (hpre ⟨3, .data⟩ (by simp) rfl) rfl
          have v3 := hR.2 3 (hpre ⟨3, .data⟩ (by simp) rfl)
          rw [show val 3 = .agg #[.slice (some ⟨bx, ox, none⟩) X.length cx, .slice AY Y.length cy, .slice AV V.length cv] from v3] at e16
          clear v3
          have hgoal : ∀ v W', Below x.heap.size x W' → QGD w.heap.size X.length cx AY Y.length cy AV V.length cv bx ox xa xb 4 v W' → RQ (QGD w.heap.size X.length cx AY Y.length cy AV V.length cv bx ox xa xb) W0 (upd val 4 v) (L.setIfInBounds 4 true) W' := fun v W' hb hq => hR.step hst hb hq
          have q0 := cell_keep hR.1 t0
          have q1 := cell_keep hR.1 t1
          have q2 := cell_keep hR.1 t2
          have q3 := cell_keep hR.1 x0
          have q4 := cell_keep hR.1 x1
          have hM := Lib.hid hR.1
          clear hF hpre hl hR
          go_simp
          refine ⟨trivial, ?_⟩
          refine CallsIn.mono (callsIn_wide.2 (HRC.out _ (HW0.out.trans (hM.out.mono HW0.out.size)))) ?_
          rintro e y9 ⟨rfl, hb9⟩
          rw [HE.out]
          exact ⟨_, rfl, hgoal _ _ hb9 rfl⟩
        | 5, ho =>
          simp at ho
          subst ho
          refine step_guard (j := 2) (s := 15) (b := false) hF rfl rfl (by kernel_rfl) (hpre ⟨2, .guard⟩ (by simp) rfl) (hR.2 2 (hpre ⟨2, .guard⟩ (by simp) rfl)) ?_
          have e17 := hF.gave 4 rfl (hpre ⟨4, .data⟩ (by simp) rfl) rfl
          have v4 := hR.2 4 (hpre ⟨4, .data⟩ (by simp) rfl)
          rw [show val 4 = .int .i64 0 from v4] at e17
          clear v4
          have hgoal : ∀ v W', Below x.heap.size x W' → QGD w.heap.size X.length cx AY Y.length cy AV V.length cv bx ox xa xb 5 v W' → RQ (QGD w.heap.size X.length cx AY Y.length cy AV V.length cv bx ox xa xb) W0 (upd val 5 v) (L.setIfInBounds 5 true) W' := fun v W' hb hq => hR.step hst hb hq
          clear hF hpre hl hR
          go_simp
          exact ⟨_, rfl, hgoal _ _ (Below.refl _ _) rfl⟩
        | 6, ho =>
          simp at ho
          subst ho
          refine step_guard (j := 2) (s := 15) (b := false) hF rfl rfl (by kernel_rfl) (hpre ⟨2, .guard⟩ (by simp) rfl) (hR.2 2 (hpre ⟨2, .guard⟩ (by simp) rfl)) ?_
          have e18 := hF.gave 5 rfl (hpre ⟨5, .data⟩ (by simp) rfl) rfl
          have v5 := hR.2 5 (hpre ⟨5, .data⟩ (by simp) rfl)
          rw [show val 5 = .bool true from v5] at e18
          clear v5
          have hgoal : ∀ v W', Below x.heap.size x W' → QGD w.heap.size X.length cx AY Y.length cy AV V.length cv bx ox xa xb 6 v W' → RQ (QGD w.heap.size X.length cx AY Y.length cy AV V.length cv bx ox xa xb) W0 (upd val 6 v) (L.setIfInBounds 6 true) W' := fun v W' hb hq => hR.step hst hb hq
          clear hF hpre hl hR
          go_simp
          exact ⟨_, rfl, hgoal _ _ (Below.refl _ _) rfl⟩
        | 7, ho =>
          simp at ho
          subst ho
          refine step_guard (j := 6) (s := 19) (b := true) hF rfl rfl (by kernel_rfl) (hpre ⟨6, .guard⟩ (by simp) rfl) (hR.2 6 (hpre ⟨6, .guard⟩ (by simp) rfl)) ?_
          have e3 := hF.was 3 (by kernel_rfl) rfl
          have hgoal : ∀ v W', Below x.heap.size x W' → QGD w.heap.size X.length cx AY Y.length cy AV V.length cv bx ox xa xb 7 v W' → RQ (QGD w.heap.size X.length cx AY Y.length cy AV V.length cv bx ox xa xb) W0 (upd val 7 v) (L.setIfInBounds 7 true) W' := fun v W' hb hq => hR.step hst hb hq
          clear hF hpre hl hR
          go_simp
          exact ⟨_, rfl, hgoal _ _ (Below.refl _ _) rfl⟩
        | 8, ho =>
          simp at ho
          subst ho
          refine step_guard (j := 6) (s := 19) (b := true) hF rfl rfl (by kernel_rfl) (hpre ⟨6, .guard⟩ (by simp) rfl) (hR.2 6 (hpre ⟨6, .guard⟩ (by simp) rfl)) ?_
          have e20 := hF.gave 7 rfl (hpre ⟨7, .data⟩ (by simp) rfl) rfl
          have v7 := hR.2 7 (hpre ⟨7, .data⟩ (by simp) rfl)
          rw [show val 7 = .pointer (some ⟨w.heap.size, 0, none⟩) from v7] at e20
          clear v7
          have hgoal : ∀ v W', Below x.heap.size x W' → QGD w.heap.size X.length cx AY Y.length cy AV V.length cv bx ox xa xb 8 v W' → RQ (QGD w.heap.size X.length cx AY Y.length cy AV V.length cv bx ox xa xb) W0 (upd val 8 v) (L.setIfInBounds 8 true) W' := fun v W' hb hq => hR.step hst hb hq
          have q0 := cell_keep hR.1 t0
          have q1 := cell_keep hR.1 t1
          have q2 := cell_keep hR.1 t2
          have q3 := cell_keep hR.1 x0
          have q4 := cell_keep hR.1 x1
          clear hF hpre hl hR
          go_simp
          exact ⟨_, rfl, hgoal _ _ (Below.refl _ _) rfl⟩
        | 9, ho =>
          simp at ho
          subst ho
          refine step_guard (j := 6) (s := 19) (b := true) hF rfl rfl (by kernel_rfl) (hpre ⟨6, .guard⟩ (by simp) rfl) (hR.2 6 (hpre ⟨6, .guard⟩ (by simp) rfl)) ?_
          have e3 := hF.was 3 (by kernel_rfl) rfl
          have hgoal : ∀ v W', Below x.heap.size x W' → QGD w.heap.size X.length cx AY Y.length cy AV V.length cv bx ox xa xb 9 v W' → RQ (QGD w.heap.size X.length cx AY Y.length cy AV V.length cv bx ox xa xb) W0 (upd val 9 v) (L.setIfInBounds 9 true) W' := fun v W' hb hq => hR.step hst hb hq
          clear hF hpre hl hR
          go_simp
          exact ⟨_, rfl, hgoal _ _ (Below.refl _ _) rfl⟩
        | 10, ho =>
          simp at ho
          subst ho
          refine step_guard (j := 6) (s := 19) (b := true) hF rfl rfl (by kernel_rfl) (hpre ⟨6, .guard⟩ (by simp) rfl) (hR.2 6 (hpre ⟨6, .guard⟩ (by simp) rfl)) ?_
          have e22 := hF.gave 9 rfl (hpre ⟨9, .data⟩ (by simp) rfl) rfl
          have v9 := hR.2 9 (hpre ⟨9, .data⟩ (by simp) rfl)
          rw [show val 9 = .pointer (some ⟨w.heap.size, 0, none⟩) from v9] at e22
          clear v9
          have hgoal : ∀ v W', Below x.heap.size x W' → QGD w.heap.size X.length cx AY Y.length cy AV V.length cv bx ox xa xb 10 v W' → RQ (QGD w.heap.size X.length cx AY Y.length cy AV V.length cv bx ox xa xb) W0 (upd val 10 v) (L.setIfInBounds 10 true) W' := fun v W' hb hq => hR.step hst hb hq
          have q0 := cell_keep hR.1 t0
          have q1 := cell_keep hR.1 t1
          have q2 := cell_keep hR.1 t2
          have q3 := cell_keep hR.1 x0
          have q4 := cell_keep hR.1 x1
          clear hF hpre hl hR
          go_simp
          exact ⟨_, rfl, hgoal _ _ (Below.refl _ _) rfl⟩
        | 11, ho =>
          simp at ho
          subst ho
          refine step_guard (j := 6) (s := 19) (b := true) hF rfl rfl (by kernel_rfl) (hpre ⟨6, .guard⟩ (by simp) rfl) (hR.2 6 (hpre ⟨6, .guard⟩ (by simp) rfl)) ?_
          have e23 := hF.gave 10 rfl (hpre ⟨10, .data⟩ (by simp) rfl) rfl
          have v10 := hR.2 10 (hpre ⟨10, .data⟩ (by simp) rfl)
          rw [show val 10 = .slice (some ⟨bx, ox, none⟩) X.length cx from v10] at e23
          clear v10
          have hgoal : ∀ v W', Below x.heap.size x W' → QGD w.heap.size X.length cx AY Y.length cy AV V.length cv bx ox xa xb 11 v W' → RQ (QGD w.heap.size X.length cx AY Y.length cy AV V.length cv bx ox xa xb) W0 (upd val 11 v) (L.setIfInBounds 11 true) W' := fun v W' hb hq => hR.step hst hb hq
          clear hF hpre hl hR
          go_simp
          exact ⟨_, rfl, hgoal _ _ (Below.refl _ _) rfl⟩
        | 12, ho =>
          simp at ho
          subst ho
          refine step_guard (j := 6) (s := 19) (b := true) hF rfl rfl (by kernel_rfl) (hpre ⟨6, .guard⟩ (by simp) rfl) (hR.2 6 (hpre ⟨6, .guard⟩ (by simp) rfl)) ?_
          have e24 := hF.gave 11 rfl (hpre ⟨11, .data⟩ (by simp) rfl) rfl
          have v11 := hR.2 11 (hpre ⟨11, .data⟩ (by simp) rfl)
          rw [show val 11 = .int .i64 (X.length : Nat) from v11] at e24
          clear v11
          have hgoal : ∀ v W', Below x.heap.size x W' → QGD w.heap.size X.length cx AY Y.length cy AV V.length cv bx ox xa xb 12 v W' → RQ (QGD w.heap.size X.length cx AY Y.length cy AV V.length cv bx ox xa xb) W0 (upd val 12 v) (L.setIfInBounds 12 true) W' := fun v W' hb hq => hR.step hst hb hq
          clear hF hpre hl hR
          go_simp
          exact ⟨_, rfl, hgoal _ _ (Below.refl _ _) rfl⟩
        | 13, ho =>
          simp at ho
          subst ho
          refine step_guard (j := 6) (s := 19) (b := true) hF rfl rfl (by kernel_rfl) (hpre ⟨6, .guard⟩ (by simp) rfl) (hR.2 6 (hpre ⟨6, .guard⟩ (by simp) rfl)) ?_
          have e21 := hF.gave 8 rfl (hpre ⟨8, .data⟩ (by simp) rfl) rfl
          have v8 := hR.2 8 (hpre ⟨8, .data⟩ (by simp) rfl)
          rw [show val 8 = .slice (some ⟨bx, ox, none⟩) X.length cx from v8] at e21
          clear v8
          have e25 := hF.gave 12 rfl (hpre ⟨12, .data⟩ (by simp) rfl) rfl
          have v12 := hR.2 12 (hpre ⟨12, .data⟩ (by simp) rfl)
          rw [show val 12 = .int .i64 ((X.length : Nat) - 1) from v12] at e25
          clear v12
          have hgoal : ∀ v W', Below x.heap.size x W' → QGD w.heap.size X.length cx AY Y.length cy AV V.length cv bx ox xa xb 13 v W' → RQ (QGD w.heap.size X.length cx AY Y.length cy AV V.length cv bx ox xa xb) W0 (upd val 13 v) (L.setIfInBounds 13 true) W' := fun v W' hb hq => hR.step hst hb hq
          clear hF hpre hl hR
          go_simp
          exact ⟨_, rfl, hgoal _ _ (Below.refl _ _) rfl⟩
        | 14, ho =>
          simp at ho
          subst ho
          refine step_guard (j := 6) (s := 19) (b := true) hF rfl rfl (by kernel_rfl) (hpre ⟨6, .guard⟩ (by simp) rfl) (hR.2 6 (hpre ⟨6, .guard⟩ (by simp) rfl)) ?_
          have e26 := hF.gave 13 rfl (hpre ⟨13, .data⟩ (by simp) rfl) rfl
          have v13 := hR.2 13 (hpre ⟨13, .data⟩ (by simp) rfl)
          rw [show val 13 = .pointer (some ⟨bx, ox + (X.length - 1), none⟩) from v13] at e26
          clear v13
          have hgoal : ∀ v W', Below x.heap.size x W' → QGD w.heap.size X.length cx AY Y.length cy AV V.length cv bx ox xa xb 14 v W' → RQ (QGD w.heap.size X.length cx AY Y.length cy AV V.length cv bx ox xa xb) W0 (upd val 14 v) (L.setIfInBounds 14 true) W' := fun v W' hb hq => hR.step hst hb hq
          have q0 := cell_keep hR.1 t0
          have q1 := cell_keep hR.1 t1
          have q2 := cell_keep hR.1 t2
          have q3 := cell_keep hR.1 x0
          have q4 := cell_keep hR.1 x1
          clear hF hpre hl hR
          go_simp
          exact ⟨_, rfl, hgoal _ _ (Below.refl _ _) rfl⟩
        | 15, ho =>
          simp at ho
          subst ho
          refine step_guard (j := 6) (s := 19) (b := true) hF rfl rfl (by kernel_rfl) (hpre ⟨6, .guard⟩ (by simp) rfl) (hR.2 6 (hpre ⟨6, .guard⟩ (by simp) rfl)) ?_
          have e3 := hF.was 3 (by kernel_rfl) rfl
          have hgoal : ∀ v W', Below x.heap.size x W' → QGD w.heap.size X.length cx AY Y.length cy AV V.length cv bx ox xa xb 15 v W' → RQ (QGD w.heap.size X.length cx AY Y.length cy AV V.length cv bx ox xa xb) W0 (upd val 15 v) (L.setIfInBounds 15 true) W' := fun v W' hb hq => hR.step hst hb hq
          clear hF hpre hl hR
          go_simp
          exact ⟨_, rfl, hgoal _ _ (Below.refl _ _) rfl⟩
        | 16, ho =>
          simp at ho
          subst ho
          refine step_guard (j := 6) (s := 19) (b := true) hF rfl rfl (by kernel_rfl) (hpre ⟨6, .guard⟩ (by simp) rfl) (hR.2 6 (hpre ⟨6, .guard⟩ (by simp) rfl)) ?_
          have e28 := hF.gave 15 rfl (hpre ⟨15, .data⟩ (by simp) rfl) rfl
          have v15 := hR.2 15 (hpre ⟨15, .data⟩ (by simp) rfl)
          rw [show val 15 = .pointer (some ⟨w.heap.size, 0, none⟩) from v15] at e28
          clear v15
          have hgoal : ∀ v W', Below x.heap.size x W' → QGD w.heap.size X.length cx AY Y.length cy AV V.length cv bx ox xa xb 16 v W' → RQ (QGD w.heap.size X.length cx AY Y.length cy AV V.length cv bx ox xa xb) W0 (upd val 16 v) (L.setIfInBounds 16 true) W' := fun v W' hb hq => hR.step hst hb hq
          have q0 := cell_keep hR.1 t0
          have q1 := cell_keep hR.1 t1
          have q2 := cell_keep hR.1 t2
          have q3 := cell_keep hR.1 x0
          have q4 := cell_keep hR.1 x1
          clear hF hpre hl hR
          go_simp
          exact ⟨_, rfl, hgoal _ _ (Below.refl _ _) rfl⟩
        | 17, ho =>
          simp at ho
          subst ho
          refine step_guard (j := 6) (s := 19) (b := true) hF rfl rfl (by kernel_rfl) (hpre ⟨6, .guard⟩ (by simp) rfl) (hR.2 6 (hpre ⟨6, .guard⟩ (by simp) rfl)) ?_
          have e29 := hF.gave 16 rfl (hpre ⟨16, .data⟩ (by simp) rfl) rfl
          have v16 := hR.2 16 (hpre ⟨16, .data⟩ (by simp) rfl)
          rw [show val 16 = .slice (some ⟨bx, ox, none⟩) X.length cx from v16] at e29
          clear v16
          have hgoal : ∀ v W', Below x.heap.size x W' → QGD w.heap.size X.length cx AY Y.length cy AV V.length cv bx ox xa xb 17 v W' → RQ (QGD w.heap.size X.length cx AY Y.length cy AV V.length cv bx ox xa xb) W0 (upd val 17 v) (L.setIfInBounds 17 true) W' := fun v W' hb hq => hR.step hst hb hq
          clear hF hpre hl hR
          go_simp
          exact ⟨_, rfl, hgoal _ _ (Below.refl _ _) rfl⟩
        | 18, ho =>
          simp at ho
          subst ho
          refine step_guard (j := 6) (s := 19) (b := true) hF rfl rfl (by kernel_rfl) (hpre ⟨6, .guard⟩ (by simp) rfl) (hR.2 6 (hpre ⟨6, .guard⟩ (by simp) rfl)) ?_
          have e30 := hF.gave 17 rfl (hpre ⟨17, .data⟩ (by simp) rfl) rfl
          have v17 := hR.2 17 (hpre ⟨17, .data⟩ (by simp) rfl)
          rw [show val 17 = .pointer (some ⟨bx, ox, none⟩) from v17] at e30
          clear v17
          have hgoal : ∀ v W', Below x.heap.size x W' → QGD w.heap.size X.length cx AY Y.length cy AV V.length cv bx ox xa xb 18 v W' → RQ (QGD w.heap.size X.length cx AY Y.length cy AV V.length cv bx ox xa xb) W0 (upd val 18 v) (L.setIfInBounds 18 true) W' := fun v W' hb hq => hR.step hst hb hq
          have q0 := cell_keep hR.1 t0
          have q1 := cell_keep hR.1 t1
          have q2 := cell_keep hR.1 t2
          have q3 := cell_keep hR.1 x0
          have q4 := cell_keep hR.1 x1
          clear hF hpre hl hR
          go_simp
          exact ⟨_, rfl, hgoal _ _ (Below.refl _ _) rfl⟩
        | 19, ho =>
          simp at ho
          subst ho
          refine step_guard (j := 6) (s := 19) (b := true) hF rfl rfl (by kernel_rfl) (hpre ⟨6, .guard⟩ (by simp) rfl) (hR.2 6 (hpre ⟨6, .guard⟩ (by simp) rfl)) ?_
          have e27 := hF.gave 14 rfl (hpre ⟨14, .data⟩ (by simp) rfl) rfl
          have v14 := hR.2 14 (hpre ⟨14, .data⟩ (by simp) rfl)
          rw [show val 14 = .int .i64 xb from v14] at e27
          clear v14
          have e31 := hF.gave 18 rfl (hpre ⟨18, .data⟩ (by simp) rfl) rfl
          have v18 := hR.2 18 (hpre ⟨18, .data⟩ (by simp) rfl)
          rw [show val 18 = .int .i64 xa from v18] at e31
          clear v18
          have hgoal : ∀ v W', Below x.heap.size x W' → QGD w.heap.size X.length cx AY Y.length cy AV V.length cv bx ox xa xb 19 v W' → RQ (QGD w.heap.size X.length cx AY Y.length cy AV V.length cv bx ox xa xb) W0 (upd val 19 v) (L.setIfInBounds 19 true) W' := fun v W' hb hq => hR.step hst hb hq
          clear hF hpre hl hR
          go_simp
          exact ⟨_, rfl, hgoal _ _ (Below.refl _ _) rfl⟩
        | 20, ho =>
          simp at ho
          subst ho
          refine step_guard (j := 6) (s := 19) (b := true) hF rfl rfl (by kernel_rfl) (hpre ⟨6, .guard⟩ (by simp) rfl) (hR.2 6 (hpre ⟨6, .guard⟩ (by simp) rfl)) ?_
          have e32 := hF.gave 19 rfl (hpre ⟨19, .data⟩ (by simp) rfl) rfl
          have v19 := hR.2 19 (hpre ⟨19, .data⟩ (by simp) rfl)
          rw [show val 19 = .int .i64 (xb - xa) from v19] at e32
          clear v19
          have hgoal : ∀ v W', Below x.heap.size x W' → QGD w.heap.size X.length cx AY Y.length cy AV V.length cv bx ox xa xb 20 v W' → RQ (QGD w.heap.size X.length cx AY Y.length cy AV V.length cv bx ox xa xb) W0 (upd val 20 v) (L.setIfInBounds 20 true) W' := fun v W' hb hq => hR.step hst hb hq
          clear hF hpre hl hR
          go_simp
          exact ⟨_, rfl, hgoal _ _ (Below.refl _ _) rfl⟩
        | 21, ho =>
          simp at ho
          subst ho
          refine step_guard (j := 2) (s := 15) (b := false) hF rfl rfl (by kernel_rfl) (hpre ⟨2, .guard⟩ (by simp) rfl) (hR.2 2 (hpre ⟨2, .guard⟩ (by simp) rfl)) ?_
          have e19 := hF.gave 6 rfl (hpre ⟨6, .data⟩ (by simp) rfl) rfl
          have v6 := hR.2 6 (hpre ⟨6, .data⟩ (by simp) rfl)
          rw [show val 6 = .bool true from v6] at e19
          clear v6
          have e33 := hF.gave 20 rfl (hpre ⟨20, .data⟩ (by simp) rfl) rfl
          have v20 := hR.2 20 (hpre ⟨20, .data⟩ (by simp) rfl)
          rw [show val 20 = .bool false from v20] at e33
          clear v20
          have hgoal : ∀ v W', Below x.heap.size x W' → QGD w.heap.size X.length cx AY Y.length cy AV V.length cv bx ox xa xb 21 v W' → RQ (QGD w.heap.size X.length cx AY Y.length cy AV V.length cv bx ox xa xb) W0 (upd val 21 v) (L.setIfInBounds 21 true) W' := fun v W' hb hq => hR.step hst hb hq
          clear hF hpre hl hR
          go_simp
          exact ⟨_, rfl, hgoal _ _ (Below.refl _ _) rfl⟩
        | 22, ho =>
          simp at ho
          subst ho
          refine step_plain rfl ?_
          have e15 := hF.gave 2 rfl (hpre ⟨2, .data⟩ (by simp) rfl) rfl
          have v2 := hR.2 2 (hpre ⟨2, .data⟩ (by simp) rfl)
          rw [show val 2 = .bool false from v2] at e15
          clear v2
          have e34 := hF.gave 21 rfl (hpre ⟨21, .data⟩ (by simp) rfl) rfl
          have v21 := hR.2 21 (hpre ⟨21, .data⟩ (by simp) rfl)
          rw [show val 21 = .bool false from v21] at e34
          clear v21
          have hgoal : ∀ v W', Below x.heap.size x W' → QGD w.heap.size X.length cx AY Y.length cy AV V.length cv bx ox xa xb 22 v W' → RQ (QGD w.heap.size X.length cx AY Y.length cy AV V.length cv bx ox xa xb) W0 (upd val 22 v) (L.setIfInBounds 22 true) W' := fun v W' hb hq => hR.step hst hb hq
          clear hF hpre hl hR
          go_simp
          exact ⟨_, rfl, hgoal _ _ (Below.refl _ _) rfl⟩
        | i + 23, ho => simp at ho
      case hend =>
      intro val L b' w1 hF hall hR
      have e := hF.all (by kernel_rfl) hall
      have v22 := hR.2 22 (hall 22 (by decide))
      have hb1 := hR.1
      clear hF hall hR hst
      subst e
      simp [final, dstOf, List.range, List.range.loop]
      rw [show val 22 = .bool false from v22]
      clear v22
      generalize val 0 = v0, val 1 = v1, val 2 = v2, val 3 = v3, val 4 = v4, val 5 = v5, val 6 = v6, val 7 = v7, val 8 = v8, val 9 = v9, val 10 = v10, val 11 = v11, val 12 = v12, val 13 = v13, val 14 = v14, val 15 = v15, val 16 = v16, val 17 = v17, val 18 = v18, val 19 = v19, val 20 = v20, val 21 = v21
      have HB1 := Lib.hid (HW0.out.trans (hb1.mono HW0.out.size))
      have S2 := HS1.out.next hb1
      have HS2 := Lib.hid S2
      clear hb1 t0 t1 t2 p0 p1 n0 n1 l9 HS1 HW0 x0 x1
      obtain ⟨t0, t1, t2, p0, p1, n0, n1, l9, _⟩ := S2
      have HCP := Lib.hid (fun (W : World) (hW : Below w.heap.size w W) => copy_any (some ⟨bx, ox, none⟩) AY AV _ cx _ cy _ cv B X Y V W rfl rfl rfl hnx hny hnv hnr (by have := hW.size; omega) (HT.out.below (hW.mono hB)))
      have HRG := Lib.hid (fun (W : World) (hW : Below w.heap.size w W) => rgreatest_any (some ⟨bx, ox, none⟩) AY AV _ cx _ cy _ cv B X Y V y1 y2 l0 W rfl rfl rfl hmx hmy hmv hmr (by have := hW.size; omega) (HT.out.below (hW.mono hB)))
      have hmono := grS_mono (X := X) (Y := Y) (V := V) (y1 := y1) (y2 := y2) (l0 := l0) (l1 := l1)
      generalize hga : grS X Y V y1 y2 l0 = ga at *
      generalize hgb : grS X Y V y1 y2 l1 = gb at *
      obtain ⟨ga0, ga1⟩ := ga
      obtain ⟨gb0, gb1⟩ := gb
      have HGA := Lib.hid hga
      have HGB := Lib.hid hgb
      have HMO := Lib.hid hmono
      clear hga hgb hmono
      go_upto_region 3 with fail
      have hst := QG3_stays w.heap.size ((some ⟨bx, ox, none⟩)) X.length cx AY Y.length cy AV V.length cv y1 y2 l0 ga0 ga1 X Y V
      refine wpIn_wide.1 (region_inv2 (n := 9) (by kernel_rfl) (RQ (QG3 w.heap.size ((some ⟨bx, ox, none⟩)) X.length cx AY Y.length cy AV V.length cv y1 y2 l0 ga0 ga1 X Y V) w1) (by kernel_rfl) rfl (RQ.start _ _ _) ?hstep ?hend)
      case hstep =>
        intro i' o ho val L b' x hF hR hpre hl
        match i', ho with
        | 0, ho =>
          simp at ho
          subst ho
          refine step_plain rfl ?_
          have e3 := hF.was 3 (by kernel_rfl) rfl
          have hgoal : ∀ v W', Below x.heap.size x W' → QG3 w.heap.size ((some ⟨bx, ox, none⟩)) X.length cx AY Y.length cy AV V.length cv y1 y2 l0 ga0 ga1 X Y V 0 v W' → RQ (QG3 w.heap.size ((some ⟨bx, ox, none⟩)) X.length cx AY Y.length cy AV V.length cv y1 y2 l0 ga0 ga1 X Y V) w1 (upd val 0 v) (L.setIfInBounds 0 true) W' := fun v W' hb hq => hR.step hst hb hq
          have q0 := cell_keep hR.1 t0
          have q1 := cell_keep hR.1 t1
          have q2 := cell_keep hR.1 t2
          have q3 := cell_keep hR.1 p0
          have q4 := cell_keep hR.1 p1
          have q5 := cell_keep hR.1 n0
          have q6 := cell_keep hR.1 n1
          clear hF hpre hl hR
          go_simp
          exact ⟨_, rfl, hgoal _ _ (Below.refl _ _) rfl⟩
        | 1, ho =>
          simp at ho
          subst ho
          refine step_plain rfl ?_
          have e38 := hF.gave 0 rfl (hpre ⟨0, .data⟩ (by simp) rfl) rfl
          have v0 := hR.2 0 (hpre ⟨0, .data⟩ (by simp) rfl)
          rw [show val 0 = .agg #[.slice ((some ⟨bx, ox, none⟩)) X.length cx, .slice AY Y.length cy, .slice AV V.length cv] from v0] at e38
          clear v0
          have hgoal : ∀ v W', Below x.heap.size x W' → QG3 w.heap.size ((some ⟨bx, ox, none⟩)) X.length cx AY Y.length cy AV V.length cv y1 y2 l0 ga0 ga1 X Y V 1 v W' → RQ (QG3 w.heap.size ((some ⟨bx, ox, none⟩)) X.length cx AY Y.length cy AV V.length cv y1 y2 l0 ga0 ga1 X Y V) w1 (upd val 1 v) (L.setIfInBounds 1 true) W' := fun v W' hb hq => hR.step hst hb hq
          have q0 := cell_keep hR.1 t0
          have q1 := cell_keep hR.1 t1
          have q2 := cell_keep hR.1 t2
          have q3 := cell_keep hR.1 p0
          have q4 := cell_keep hR.1 p1
          have q5 := cell_keep hR.1 n0
          have q6 := cell_keep hR.1 n1
          have hM := Lib.hid hR.1
          clear hF hpre hl hR
          go_simp
          refine ⟨trivial, ?_⟩
          refine CallsIn.mono (callsIn_wide.2 (HCP.out _ (HB1.out.trans (hM.out.mono HB1.out.size)))) ?_
          rintro e y9 ⟨AX', cx', AY', cy', AV', cv', rfl, htb, hb9⟩
          exact ⟨_, rfl, hgoal _ _ hb9 ⟨AX', cx', AY', cy', AV', cv', rfl, htb⟩⟩
        | 2, ho =>
          simp at ho
          subst ho
          refine step_plain rfl ?_
          have e4 := hF.was 4 (by kernel_rfl) rfl
          have hgoal : ∀ v W', Below x.heap.size x W' → QG3 w.heap.size ((some ⟨bx, ox, none⟩)) X.length cx AY Y.length cy AV V.length cv y1 y2 l0 ga0 ga1 X Y V 2 v W' → RQ (QG3 w.heap.size ((some ⟨bx, ox, none⟩)) X.length cx AY Y.length cy AV V.length cv y1 y2 l0 ga0 ga1 X Y V) w1 (upd val 2 v) (L.setIfInBounds 2 true) W' := fun v W' hb hq => hR.step hst hb hq
          have q0 := cell_keep hR.1 t0
          have q1 := cell_keep hR.1 t1
          have q2 := cell_keep hR.1 t2
          have q3 := cell_keep hR.1 p0
          have q4 := cell_keep hR.1 p1
          have q5 := cell_keep hR.1 n0
          have q6 := cell_keep hR.1 n1
          clear hF hpre hl hR
          go_simp
          exact ⟨_, rfl, hgoal _ _ (Below.refl _ _) rfl⟩
        | 3, ho =>
          simp at ho
          subst ho
          refine step_plain rfl ?_
          have e5 := hF.was 5 (by kernel_rfl) rfl
          have hgoal : ∀ v W', Below x.heap.size x W' → QG3 w.heap.size ((some ⟨bx, ox, none⟩)) X.length cx AY Y.length cy AV V.length cv y1 y2 l0 ga0 ga1 X Y V 3 v W' → RQ (QG3 w.heap.size ((some ⟨bx, ox, none⟩)) X.length cx AY Y.length cy AV V.length cv y1 y2 l0 ga0 ga1 X Y V) w1 (upd val 3 v) (L.setIfInBounds 3 true) W' := fun v W' hb hq => hR.step hst hb hq
          clear hF hpre hl hR
          go_simp
          exact ⟨_, rfl, hgoal _ _ (Below.refl _ _) rfl⟩
        | 4, ho =>
          simp at ho
          subst ho
          refine step_plain rfl ?_
          have e41 := hF.gave 3 rfl (hpre ⟨3, .data⟩ (by simp) rfl) rfl
          have v3 := hR.2 3 (hpre ⟨3, .data⟩ (by simp) rfl)
          rw [show val 3 = .pointer (some ⟨w.heap.size + 1 + 1, 0, none⟩) from v3] at e41
          clear v3
          have hgoal : ∀ v W', Below x.heap.size x W' → QG3 w.heap.size ((some ⟨bx, ox, none⟩)) X.length cx AY Y.length cy AV V.length cv y1 y2 l0 ga0 ga1 X Y V 4 v W' → RQ (QG3 w.heap.size ((some ⟨bx, ox, none⟩)) X.length cx AY Y.length cy AV V.length cv y1 y2 l0 ga0 ga1 X Y V) w1 (upd val 4 v) (L.setIfInBounds 4 true) W' := fun v W' hb hq => hR.step hst hb hq
          have q0 := cell_keep hR.1 t0
          have q1 := cell_keep hR.1 t1
          have q2 := cell_keep hR.1 t2
          have q3 := cell_keep hR.1 p0
          have q4 := cell_keep hR.1 p1
          have q5 := cell_keep hR.1 n0
          have q6 := cell_keep hR.1 n1
          clear hF hpre hl hR
          go_simp
          exact ⟨_, rfl, hgoal _ _ (Below.refl _ _) rfl⟩
        | 5, ho =>
          simp at ho
          subst ho
          refine step_plain rfl ?_
          have e39 := hF.gave 1 rfl (hpre ⟨1, .data⟩ (by simp) rfl) rfl
          have v1 := hR.2 1 (hpre ⟨1, .data⟩ (by simp) rfl)
          have e40 := hF.gave 2 rfl (hpre ⟨2, .data⟩ (by simp) rfl) rfl
          have v2 := hR.2 2 (hpre ⟨2, .data⟩ (by simp) rfl)
          rw [show val 2 = .agg #[.int .i64 y1, .int .i64 y2] from v2] at e40
          clear v2
          have e42 := hF.gave 4 rfl (hpre ⟨4, .data⟩ (by simp) rfl) rfl
          have v4 := hR.2 4 (hpre ⟨4, .data⟩ (by simp) rfl)
          rw [show val 4 = .int .i64 l0 from v4] at e42
          clear v4
          have hgoal : ∀ v W', Below x.heap.size x W' → QG3 w.heap.size ((some ⟨bx, ox, none⟩)) X.length cx AY Y.length cy AV V.length cv y1 y2 l0 ga0 ga1 X Y V 5 v W' → RQ (QG3 w.heap.size ((some ⟨bx, ox, none⟩)) X.length cx AY Y.length cy AV V.length cv y1 y2 l0 ga0 ga1 X Y V) w1 (upd val 5 v) (L.setIfInBounds 5 true) W' := fun v W' hb hq => hR.step hst hb hq
          have q0 := cell_keep hR.1 t0
          have q1 := cell_keep hR.1 t1
          have q2 := cell_keep hR.1 t2
          have q3 := cell_keep hR.1 p0
          have q4 := cell_keep hR.1 p1
          have q5 := cell_keep hR.1 n0
          have q6 := cell_keep hR.1 n1
          have hM := Lib.hid hR.1
          clear hF hpre hl hR
          obtain ⟨AX', cx', AY', cy', AV', cv', e1, htb⟩ := v1
          rw [e1] at e39
          go_simp
          refine ⟨trivial, ?_⟩
          refine CallsIn.mono (callsIn_wide.2 (greatest_any AX' AY' AV' _ cx' _ cy' _ cv' _ X Y V y1 y2 l0 _ rfl rfl rfl hmx hmy hmv hmr (Nat.le_refl _) htb)) ?_
          rintro e y9 ⟨rfl, hb9⟩
          rw [HGA.out]
          exact ⟨_, rfl, hgoal _ _ hb9 rfl⟩
        | 6, ho =>
          simp at ho
          subst ho
          refine step_plain rfl ?_
          have e43 := hF.gave 5 rfl (hpre ⟨5, .data⟩ (by simp) rfl) rfl
          have v5 := hR.2 5 (hpre ⟨5, .data⟩ (by simp) rfl)
          rw [show val 5 = .tuple #[.int .i64 ga0, .int .i64 ga1] from v5] at e43
          clear v5
          have hgoal : ∀ v W', Below x.heap.size x W' → QG3 w.heap.size ((some ⟨bx, ox, none⟩)) X.length cx AY Y.length cy AV V.length cv y1 y2 l0 ga0 ga1 X Y V 6 v W' → RQ (QG3 w.heap.size ((some ⟨bx, ox, none⟩)) X.length cx AY Y.length cy AV V.length cv y1 y2 l0 ga0 ga1 X Y V) w1 (upd val 6 v) (L.setIfInBounds 6 true) W' := fun v W' hb hq => hR.step hst hb hq
          clear hF hpre hl hR
          go_simp
          exact ⟨_, rfl, hgoal _ _ (Below.refl _ _) rfl⟩
        | 7, ho =>
          simp at ho
          subst ho
          refine step_plain rfl ?_
          have e37 := hF.gave 6 rfl (hpre ⟨6, .data⟩ (by simp) rfl) rfl
          have v6 := hR.2 6 (hpre ⟨6, .data⟩ (by simp) rfl)
          rw [show val 6 = .tuple #[.int .i64 ga0, .int .i64 ga1] from v6] at e37
          clear v6
          have hgoal : ∀ v W', Below x.heap.size x W' → QG3 w.heap.size ((some ⟨bx, ox, none⟩)) X.length cx AY Y.length cy AV V.length cv y1 y2 l0 ga0 ga1 X Y V 7 v W' → RQ (QG3 w.heap.size ((some ⟨bx, ox, none⟩)) X.length cx AY Y.length cy AV V.length cv y1 y2 l0 ga0 ga1 X Y V) w1 (upd val 7 v) (L.setIfInBounds 7 true) W' := fun v W' hb hq => hR.step hst hb hq
          clear hF hpre hl hR
          go_simp
          exact ⟨_, rfl, hgoal _ _ (Below.refl _ _) rfl⟩
        | 8, ho =>
          simp at ho
          subst ho
          refine step_plain rfl ?_
          have e37 := hF.gave 6 rfl (hpre ⟨6, .data⟩ (by simp) rfl) rfl
          have v6 := hR.2 6 (hpre ⟨6, .data⟩ (by simp) rfl)
          rw [show val 6 = .tuple #[.int .i64 ga0, .int .i64 ga1] from v6] at e37
          clear v6
          have hgoal : ∀ v W', Below x.heap.size x W' → QG3 w.heap.size ((some ⟨bx, ox, none⟩)) X.length cx AY Y.length cy AV V.length cv y1 y2 l0 ga0 ga1 X Y V 8 v W' → RQ (QG3 w.heap.size ((some ⟨bx, ox, none⟩)) X.length cx AY Y.length cy AV V.length cv y1 y2 l0 ga0 ga1 X Y V) w1 (upd val 8 v) (L.setIfInBounds 8 true) W' := fun v W' hb hq => hR.step hst hb hq
          clear hF hpre hl hR
          go_simp
          exact ⟨_, rfl, hgoal _ _ (Below.refl _ _) rfl⟩
        | 9, ho =>
          simp at ho
          subst ho
          refine step_plain rfl ?_
          have e44 := hF.gave 7 rfl (hpre ⟨7, .data⟩ (by simp) rfl) rfl
          have v7 := hR.2 7 (hpre ⟨7, .data⟩ (by simp) rfl)
          rw [show val 7 = .int .i64 ga0 from v7] at e44
          clear v7
          have hgoal : ∀ v W', Below x.heap.size x W' → QG3 w.heap.size ((some ⟨bx, ox, none⟩)) X.length cx AY Y.length cy AV V.length cv y1 y2 l0 ga0 ga1 X Y V 9 v W' → RQ (QG3 w.heap.size ((some ⟨bx, ox, none⟩)) X.length cx AY Y.length cy AV V.length cv y1 y2 l0 ga0 ga1 X Y V) w1 (upd val 9 v) (L.setIfInBounds 9 true) W' := fun v W' hb hq => hR.step hst hb hq
          clear hF hpre hl hR
          go_simp
          exact ⟨_, rfl, hgoal _ _ (Below.refl _ _) rfl⟩
        | 10, ho =>
          simp at ho
          subst ho
          refine step_plain rfl ?_
          have e45 := hF.gave 8 rfl (hpre ⟨8, .data⟩ (by simp) rfl) rfl
          have v8 := hR.2 8 (hpre ⟨8, .data⟩ (by simp) rfl)
          rw [show val 8 = .int .i64 ga1 from v8] at e45
          clear v8
          have hgoal : ∀ v W', Below x.heap.size x W' → QG3 w.heap.size ((some ⟨bx, ox, none⟩)) X.length cx AY Y.length cy AV V.length cv y1 y2 l0 ga0 ga1 X Y V 10 v W' → RQ (QG3 w.heap.size ((some ⟨bx, ox, none⟩)) X.length cx AY Y.length cy AV V.length cv y1 y2 l0 ga0 ga1 X Y V) w1 (upd val 10 v) (L.setIfInBounds 10 true) W' := fun v W' hb hq => hR.step hst hb hq
          clear hF hpre hl hR
          go_simp
          exact ⟨_, rfl, hgoal _ _ (Below.refl _ _) rfl⟩
        | i + 11, ho => simp at ho
      case hend =>
      intro val L b' w2 hF hall hR
      have e := hF.all (by kernel_rfl) hall
      have v9 := hR.2 9 (hall 9 (by decide))
      have v10 := hR.2 10 (hall 10 (by decide))
      have hb2 := hR.1
      have S3 := HS2.out.next hb2
      have HS3 := Lib.hid S3
      clear hF hall hR hst t0 t1 t2 p0 p1 n0 n1 l9 HS2 HB1 hb2
      obtain ⟨t0, t1, t2, p0, p1, n0, n1, l9, _⟩ := S3
      subst e
      simp [final, dstOf, List.range, List.range.loop]
      rw [show val 9 = .int .i64 ga0 from v9, show val 10 = .int .i64 ga1 from v10]
      clear v9 v10
      generalize val 0 = v0, val 1 = v1, val 2 = v2, val 3 = v3, val 4 = v4, val 5 = v5, val 6 = v6, val 7 = v7, val 8 = v8
      go_upto_region 7 with (go_at_call 56; refine Calls.mono (HRG.out _ HS3.out.b) ?_; rintro e w4 ⟨rfl, hb4⟩)
      have S5 := HS3.out.next hb4
      have HS5 := Lib.hid S5
      have HB4 := Lib.hid HS5.out.b
      clear hb4 t0 t1 t2 p0 p1 n0 n1 l9 HS3
      obtain ⟨t0, t1, t2, p0, p1, n0, n1, l9, _⟩ := S5
      have hst := QG7_stays w.heap.size ((some ⟨bx, ox, none⟩)) X.length cx AY Y.length cy AV V.length cv y1 y2 l1 gb0 gb1 X Y V
      refine wpIn_wide.1 (region_inv2 (n := 9) (by kernel_rfl) (RQ (QG7 w.heap.size ((some ⟨bx, ox, none⟩)) X.length cx AY Y.length cy AV V.length cv y1 y2 l1 gb0 gb1 X Y V) w4) (by kernel_rfl) rfl (RQ.start _ _ _) ?hstep ?hend)
      case hstep =>
        intro i' o ho val L b' x hF hR hpre hl
        match i', ho with
        | 0, ho =>
          simp at ho
          subst ho
          refine step_plain rfl ?_
          have e3 := hF.was 3 (by kernel_rfl) rfl
          have hgoal : ∀ v W', Below x.heap.size x W' → QG7 w.heap.size ((some ⟨bx, ox, none⟩)) X.length cx AY Y.length cy AV V.length cv y1 y2 l1 gb0 gb1 X Y V 0 v W' → RQ (QG7 w.heap.size ((some ⟨bx, ox, none⟩)) X.length cx AY Y.length cy AV V.length cv y1 y2 l1 gb0 gb1 X Y V) w4 (upd val 0 v) (L.setIfInBounds 0 true) W' := fun v W' hb hq => hR.step hst hb hq
          have q0 := cell_keep hR.1 t0
          have q1 := cell_keep hR.1 t1
          have q2 := cell_keep hR.1 t2
          have q3 := cell_keep hR.1 p0
          have q4 := cell_keep hR.1 p1
          have q5 := cell_keep hR.1 n0
          have q6 := cell_keep hR.1 n1
          clear hF hpre hl hR
          go_simp
          exact ⟨_, rfl, hgoal _ _ (Below.refl _ _) rfl⟩
        | 1, ho =>
          simp at ho
          subst ho
          refine step_plain rfl ?_
          have e63 := hF.gave 0 rfl (hpre ⟨0, .data⟩ (by simp) rfl) rfl
          have v0 := hR.2 0 (hpre ⟨0, .data⟩ (by simp) rfl)
          rw [show val 0 = .agg #[.slice ((some ⟨bx, ox, none⟩)) X.length cx, .slice AY Y.length cy, .slice AV V.length cv] from v0] at e63
          clear v0
          have hgoal : ∀ v W', Below x.heap.size x W' → QG7 w.heap.size ((some ⟨bx, ox, none⟩)) X.length cx AY Y.length cy AV V.length cv y1 y2 l1 gb0 gb1 X Y V 1 v W' → RQ (QG7 w.heap.size ((some ⟨bx, ox, none⟩)) X.length cx AY Y.length cy AV V.length cv y1 y2 l1 gb0 gb1 X Y V) w4 (upd val 1 v) (L.setIfInBounds 1 true) W' := fun v W' hb hq => hR.step hst hb hq
          have q0 := cell_keep hR.1 t0
          have q1 := cell_keep hR.1 t1
          have q2 := cell_keep hR.1 t2
          have q3 := cell_keep hR.1 p0
          have q4 := cell_keep hR.1 p1
          have q5 := cell_keep hR.1 n0
          have q6 := cell_keep hR.1 n1
          have hM := Lib.hid hR.1
          clear hF hpre hl hR
          go_simp
          refine ⟨trivial, ?_⟩
          refine CallsIn.mono (callsIn_wide.2 (HCP.out _ (HB4.out.trans (hM.out.mono HB4.out.size)))) ?_
          rintro e y9 ⟨AX', cx', AY', cy', AV', cv', rfl, htb, hb9⟩
          exact ⟨_, rfl, hgoal _ _ hb9 ⟨AX', cx', AY', cy', AV', cv', rfl, htb⟩⟩
        | 2, ho =>
          simp at ho
          subst ho
          refine step_plain rfl ?_
          have e4 := hF.was 4 (by kernel_rfl) rfl
          have hgoal : ∀ v W', Below x.heap.size x W' → QG7 w.heap.size ((some ⟨bx, ox, none⟩)) X.length cx AY Y.length cy AV V.length cv y1 y2 l1 gb0 gb1 X Y V 2 v W' → RQ (QG7 w.heap.size ((some ⟨bx, ox, none⟩)) X.length cx AY Y.length cy AV V.length cv y1 y2 l1 gb0 gb1 X Y V) w4 (upd val 2 v) (L.setIfInBounds 2 true) W' := fun v W' hb hq => hR.step hst hb hq
          have q0 := cell_keep hR.1 t0
          have q1 := cell_keep hR.1 t1
          have q2 := cell_keep hR.1 t2
          have q3 := cell_keep hR.1 p0
          have q4 := cell_keep hR.1 p1
          have q5 := cell_keep hR.1 n0
          have q6 := cell_keep hR.1 n1
          clear hF hpre hl hR
          go_simp
          exact ⟨_, rfl, hgoal _ _ (Below.refl _ _) rfl⟩
        | 3, ho =>
          simp at ho
          subst ho
          refine step_plain rfl ?_
          have e5 := hF.was 5 (by kernel_rfl) rfl
          have hgoal : ∀ v W', Below x.heap.size x W' → QG7 w.heap.size ((some ⟨bx, ox, none⟩)) X.length cx AY Y.length cy AV V.length cv y1 y2 l1 gb0 gb1 X Y V 3 v W' → RQ (QG7 w.heap.size ((some ⟨bx, ox, none⟩)) X.length cx AY Y.length cy AV V.length cv y1 y2 l1 gb0 gb1 X Y V) w4 (upd val 3 v) (L.setIfInBounds 3 true) W' := fun v W' hb hq => hR.step hst hb hq
          clear hF hpre hl hR
          go_simp
          exact ⟨_, rfl, hgoal _ _ (Below.refl _ _) rfl⟩
        | 4, ho =>
          simp at ho
          subst ho
          refine step_plain rfl ?_
          have e66 := hF.gave 3 rfl (hpre ⟨3, .data⟩ (by simp) rfl) rfl
          have v3 := hR.2 3 (hpre ⟨3, .data⟩ (by simp) rfl)
          rw [show val 3 = .pointer (some ⟨w.heap.size + 1 + 1, 1, none⟩) from v3] at e66
          clear v3
          have hgoal : ∀ v W', Below x.heap.size x W' → QG7 w.heap.size ((some ⟨bx, ox, none⟩)) X.length cx AY Y.length cy AV V.length cv y1 y2 l1 gb0 gb1 X Y V 4 v W' → RQ (QG7 w.heap.size ((some ⟨bx, ox, none⟩)) X.length cx AY Y.length cy AV V.length cv y1 y2 l1 gb0 gb1 X Y V) w4 (upd val 4 v) (L.setIfInBounds 4 true) W' := fun v W' hb hq => hR.step hst hb hq
          have q0 := cell_keep hR.1 t0
          have q1 := cell_keep hR.1 t1
          have q2 := cell_keep hR.1 t2
          have q3 := cell_keep hR.1 p0
          have q4 := cell_keep hR.1 p1
          have q5 := cell_keep hR.1 n0
          have q6 := cell_keep hR.1 n1
          clear hF hpre hl hR
          go_simp
          exact ⟨_, rfl, hgoal _ _ (Below.refl _ _) rfl⟩
        | 5, ho =>
          simp at ho
          subst ho
          refine step_plain rfl ?_
          have e64 := hF.gave 1 rfl (hpre ⟨1, .data⟩ (by simp) rfl) rfl
          have v1 := hR.2 1 (hpre ⟨1, .data⟩ (by simp) rfl)
          have e65 := hF.gave 2 rfl (hpre ⟨2, .data⟩ (by simp) rfl) rfl
          have v2 := hR.2 2 (hpre ⟨2, .data⟩ (by simp) rfl)
          rw [show val 2 = .agg #[.int .i64 y1, .int .i64 y2] from v2] at e65
          clear v2
          have e67 := hF.gave 4 rfl (hpre ⟨4, .data⟩ (by simp) rfl) rfl
          have v4 := hR.2 4 (hpre ⟨4, .data⟩ (by simp) rfl)
          rw [show val 4 = .int .i64 l1 from v4] at e67
          clear v4
          have hgoal : ∀ v W', Below x.heap.size x W' → QG7 w.heap.size ((some ⟨bx, ox, none⟩)) X.length cx AY Y.length cy AV V.length cv y1 y2 l1 gb0 gb1 X Y V 5 v W' → RQ (QG7 w.heap.size ((some ⟨bx, ox, none⟩)) X.length cx AY Y.length cy AV V.length cv y1 y2 l1 gb0 gb1 X Y V) w4 (upd val 5 v) (L.setIfInBounds 5 true) W' := fun v W' hb hq => hR.step hst hb hq
          have q0 := cell_keep hR.1 t0
          have q1 := cell_keep hR.1 t1
          have q2 := cell_keep hR.1 t2
          have q3 := cell_keep hR.1 p0
          have q4 := cell_keep hR.1 p1
          have q5 := cell_keep hR.1 n0
          have q6 := cell_keep hR.1 n1
          have hM := Lib.hid hR.1
          clear hF hpre hl hR
          obtain ⟨AX', cx', AY', cy', AV', cv', e1, htb⟩ := v1
          rw [e1] at e64
          go_simp
          refine ⟨trivial, ?_⟩
          refine CallsIn.mono (callsIn_wide.2 (greatest_any AX' AY' AV' _ cx' _ cy' _ cv' _ X Y V y1 y2 l1 _ rfl rfl rfl hmx hmy hmv hmr (Nat.le_refl _) htb)) ?_
          rintro e y9 ⟨rfl, hb9⟩
          rw [HGB.out]
          exact ⟨_, rfl, hgoal _ _ hb9 rfl⟩
        | 6, ho =>
          simp at ho
          subst ho
          refine step_plain rfl ?_
          have e68 := hF.gave 5 rfl (hpre ⟨5, .data⟩ (by simp) rfl) rfl
          have v5 := hR.2 5 (hpre ⟨5, .data⟩ (by simp) rfl)
          rw [show val 5 = .tuple #[.int .i64 gb0, .int .i64 gb1] from v5] at e68
          clear v5
          have hgoal : ∀ v W', Below x.heap.size x W' → QG7 w.heap.size ((some ⟨bx, ox, none⟩)) X.length cx AY Y.length cy AV V.length cv y1 y2 l1 gb0 gb1 X Y V 6 v W' → RQ (QG7 w.heap.size ((some ⟨bx, ox, none⟩)) X.length cx AY Y.length cy AV V.length cv y1 y2 l1 gb0 gb1 X Y V) w4 (upd val 6 v) (L.setIfInBounds 6 true) W' := fun v W' hb hq => hR.step hst hb hq
          clear hF hpre hl hR
          go_simp
          exact ⟨_, rfl, hgoal _ _ (Below.refl _ _) rfl⟩
        | 7, ho =>
          simp at ho
          subst ho
          refine step_plain rfl ?_
          have e62 := hF.gave 6 rfl (hpre ⟨6, .data⟩ (by simp) rfl) rfl
          have v6 := hR.2 6 (hpre ⟨6, .data⟩ (by simp) rfl)
          rw [show val 6 = .tuple #[.int .i64 gb0, .int .i64 gb1] from v6] at e62
          clear v6
          have hgoal : ∀ v W', Below x.heap.size x W' → QG7 w.heap.size ((some ⟨bx, ox, none⟩)) X.length cx AY Y.length cy AV V.length cv y1 y2 l1 gb0 gb1 X Y V 7 v W' → RQ (QG7 w.heap.size ((some ⟨bx, ox, none⟩)) X.length cx AY Y.length cy AV V.length cv y1 y2 l1 gb0 gb1 X Y V) w4 (upd val 7 v) (L.setIfInBounds 7 true) W' := fun v W' hb hq => hR.step hst hb hq
          clear hF hpre hl hR
          go_simp
          exact ⟨_, rfl, hgoal _ _ (Below.refl _ _) rfl⟩
        | 8, ho =>
          simp at ho
          subst ho
          refine step_plain rfl ?_
          have e62 := hF.gave 6 rfl (hpre ⟨6, .data⟩ (by simp) rfl) rfl
          have v6 := hR.2 6 (hpre ⟨6, .data⟩ (by simp) rfl)
          rw [show val 6 = .tuple #[.int .i64 gb0, .int .i64 gb1] from v6] at e62
          clear v6
          have hgoal : ∀ v W', Below x.heap.size x W' → QG7 w.heap.size ((some ⟨bx, ox, none⟩)) X.length cx AY Y.length cy AV V.length cv y1 y2 l1 gb0 gb1 X Y V 8 v W' → RQ (QG7 w.heap.size ((some ⟨bx, ox, none⟩)) X.length cx AY Y.length cy AV V.length cv y1 y2 l1 gb0 gb1 X Y V) w4 (upd val 8 v) (L.setIfInBounds 8 true) W' := fun v W' hb hq => hR.step hst hb hq
          clear hF hpre hl hR
          go_simp
          exact ⟨_, rfl, hgoal _ _ (Below.refl _ _) rfl⟩
        | 9, ho =>
          simp at ho
          subst ho
          refine step_plain rfl ?_
          have e69 := hF.gave 7 rfl (hpre ⟨7, .data⟩ (by simp) rfl) rfl
          have v7 := hR.2 7 (hpre ⟨7, .data⟩ (by simp) rfl)
          rw [show val 7 = .int .i64 gb0 from v7] at e69
          clear v7
          have hgoal : ∀ v W', Below x.heap.size x W' → QG7 w.heap.size ((some ⟨bx, ox, none⟩)) X.length cx AY Y.length cy AV V.length cv y1 y2 l1 gb0 gb1 X Y V 9 v W' → RQ (QG7 w.heap.size ((some ⟨bx, ox, none⟩)) X.length cx AY Y.length cy AV V.length cv y1 y2 l1 gb0 gb1 X Y V) w4 (upd val 9 v) (L.setIfInBounds 9 true) W' := fun v W' hb hq => hR.step hst hb hq
          clear hF hpre hl hR
          go_simp
          exact ⟨_, rfl, hgoal _ _ (Below.refl _ _) rfl⟩
        | 10, ho =>
          simp at ho
          subst ho
          refine step_plain rfl ?_
          have e70 := hF.gave 8 rfl (hpre ⟨8, .data⟩ (by simp) rfl) rfl
          have v8 := hR.2 8 (hpre ⟨8, .data⟩ (by simp) rfl)
          rw [show val 8 = .int .i64 gb1 from v8] at e70
          clear v8
          have hgoal : ∀ v W', Below x.heap.size x W' → QG7 w.heap.size ((some ⟨bx, ox, none⟩)) X.length cx AY Y.length cy AV V.length cv y1 y2 l1 gb0 gb1 X Y V 10 v W' → RQ (QG7 w.heap.size ((some ⟨bx, ox, none⟩)) X.length cx AY Y.length cy AV V.length cv y1 y2 l1 gb0 gb1 X Y V) w4 (upd val 10 v) (L.setIfInBounds 10 true) W' := fun v W' hb hq => hR.step hst hb hq
          clear hF hpre hl hR
          go_simp
          exact ⟨_, rfl, hgoal _ _ (Below.refl _ _) rfl⟩
        | i + 11, ho => simp at ho
      case hend =>
      intro val L b' w6 hF hall hR
      have e := hF.all (by kernel_rfl) hall
      have v9 := hR.2 9 (hall 9 (by decide))
      have v10 := hR.2 10 (hall 10 (by decide))
      have hb6 := hR.1
      have S7 := HS5.out.next hb6
      have HS7 := Lib.hid S7
      clear hF hall hR hst t0 t1 t2 p0 p1 n0 n1 l9 HS5 HB4 hb6
      obtain ⟨t0, t1, t2, p0, p1, n0, n1, l9, _⟩ := S7
      subst e
      simp [final, dstOf, List.range, List.range.loop]
      rw [show val 9 = .int .i64 gb0 from v9, show val 10 = .int .i64 gb1 from v10]
      clear v9 v10
      generalize val 0 = u0, val 1 = u1, val 2 = u2, val 3 = u3, val 4 = u4, val 5 = u5, val 6 = u6, val 7 = u7, val 8 = u8
      by_cases hl : l1 < l0
      · go_wp2_with (go_at_call 18; refine Calls.mono (HWK.out _) ?_; rintro e w5 ⟨rfl, hb5⟩)
        go_ret
        exact ⟨rfl, HS7.out.b.trans (hb5.mono HS7.out.b.size)⟩
      by_cases hg : ga1 = 0
      · obtain ⟨m1, m2⟩ := HMO.out (by omega) hg
        subst hg
        try simp only at m1 m2
        subst m1
        go_wp2_with (go_at_call 18; refine Calls.mono (HWK.out _) ?_; rintro e w5 ⟨rfl, hb5⟩)
        go_ret
        exact ⟨rfl, HS7.out.b.trans (hb5.mono HS7.out.b.size)⟩
      · have hg' : (ga1 != 0) = true := by rw [bne_iff_ne]; exact hg
        go_wp2_with (go_at_call 18; refine Calls.mono (HWK.out _) ?_; rintro e w5 ⟨rfl, hb5⟩)
        go_ret
        exact ⟨rfl, HS7.out.b.trans (hb5.mono HS7.out.b.size)⟩

end Go.Proofs.Ytjdahphnmeaolaa

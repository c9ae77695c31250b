/- The reference's Worst. -/
import Derived.Test.YtjdahphnmeaolaaBnd2
import Derived.Test.YtjdahphnmeaolaaCmp
namespace Go.Proofs.Ytjdahphnmeaolaa
open Go.RowKit

def wstStep (s c : Cn) : Cn := if ltF s.1 s.2.1 c.1 c.2.1 then c else s
/-- The first greatest of corners. -/
def wstL (l : List Cn) : Cn := l.foldl wstStep (-1000001, 1, 0, 0)
def wstR (c : Cn) (l : List Cn) : Cn := l.foldl wstStep c
theorem wstR_snoc (c : Cn) (l : List Cn) (x : Cn) : wstR c (l ++ [x]) = wstStep (wstR c l) x := by simp [wstR]
theorem wstL_snoc (l : List Cn) (x : Cn) : wstL (l ++ [x]) = wstStep (wstL l) x := by simp [wstL]
theorem Good.gd {c : Cn} (h : Good c) : Gd c.1 c.2.1 := by
  obtain ⟨a, b, c, d⟩ := h
  exact ⟨a, b, by omega, by omega⟩
theorem wst_good {s c : Cn} (h : Gd s.1 s.2.1) (k : Good c) : Gd (wstStep s c).1 (wstStep s c).2.1 := by
  unfold wstStep
  split
  · exact k.gd
  · exact h
theorem ltF_self (n d : Int) : ltF n d n d = false := by unfold ltF; simp
theorem ltF_first {c : Cn} (h : Good c) : ltF (-1000001) 1 c.1 c.2.1 = true := by
  obtain ⟨a, b, c1, d⟩ := h
  have h1 : fl (-1000001) 1 = -1000001 := by decide
  have h2 : -1000000 ≤ fl c.1 c.2.1 := by unfold fl; exact (Int.le_ediv_iff_mul_le (by omega)).2 (by omega)
  unfold ltF
  rw [h1, if_neg (by omega)]
  simp
  omega
theorem wstL_wstR {l : List Cn} {c : Cn} (hl : l[0]? = some c) (h : Good c) : wstR c l = wstL l := by
  match l, hl with
  | x :: l, hl =>
    simp at hl
    subst hl
    unfold wstR wstL
    simp only [List.foldl_cons]
    congr 1
    unfold wstStep
    rw [ltF_self, ltF_first h]
    simp
def wstS (X Y : List Int) (V : List (List Int)) (x1 x2 y1 y2 : Int) : Int × Int × Int :=
  if cbE X Y V x1 x2 y1 y2 = 0 then ((wstL (cornersL X Y V (endsL X x1 x2) (endsL Y y1 y2))).2.2.1, (wstL (cornersL X Y V (endsL X x1 x2) (endsL Y y1 y2))).2.2.2, 0) else (0, 0, cbE X Y V x1 x2 y1 y2)

def QW1 (g : Nat) (AX : Option Addr) (nx : Nat) (cx : Nat) (AY : Option Addr) (ny : Nat) (cy : Nat) (x1 : Int) (x2 : Int) (y1 : Int) (y2 : Int) (EX : List Int) (EY : List Int) (j : Nat) (v : Value) (W : World) : Prop :=
  match j with
  | 0 => v = .pointer (some ⟨g, 0, none⟩)
  | 1 => v = .slice AX nx cx
  | 2 => v = .agg #[.int .i64 x1, .int .i64 x2]
  | 3 => GI EX v W
  | 4 => v = .pointer (some ⟨g, 1, none⟩)
  | 5 => v = .slice AY ny cy
  | 6 => v = .agg #[.int .i64 y1, .int .i64 y2]
  | 7 => GI EY v W
  | 8 => GI EX v W
  | 9 => GI EY v W
  | _ => True
theorem QW1_stays (g : Nat) (AX : Option Addr) (nx : Nat) (cx : Nat) (AY : Option Addr) (ny : Nat) (cy : Nat) (x1 : Int) (x2 : Int) (y1 : Int) (y2 : Int) (EX : List Int) (EY : List Int) : Stays (QW1 g AX nx cx AY ny cy x1 x2 y1 y2 EX EY) := fun j v W W' h hb => by
  unfold QW1 at h ⊢
  split at h <;> first | exact h | exact h.stay hb
def QW3 (g : Nat) (AX : Option Addr) (nx : Nat) (cx : Nat) (AY : Option Addr) (ny : Nat) (cy : Nat) (AV : Option Addr) (nv : Nat) (cv : Nat) (gx : Nat) (lx : Nat) (ccx : Nat) (gy : Nat) (ly : Nat) (ccy : Nat) (i : Nat) (k : Nat) (a : Int) (b : Int) (N : Int) (D : Int) (j : Nat) (v : Value) (_ : World) : Prop :=
  match j with
  | 0 => v = .agg #[.slice AX nx cx, .slice AY ny cy, .slice AV nv cv]
  | 1 => v = .slice (some ⟨gx, 0, none⟩) lx ccx
  | 2 => v = .int .i64 (i : Nat)
  | 3 => v = .pointer (some ⟨gx, i, none⟩)
  | 4 => v = .int .i64 a
  | 5 => v = .slice (some ⟨gy, 0, none⟩) ly ccy
  | 6 => v = .int .i64 (k : Nat)
  | 7 => v = .pointer (some ⟨gy, k, none⟩)
  | 8 => v = .int .i64 b
  | 9 => v = .tuple #[.int .i64 N, .int .i64 D]
  | 10 => v = .tuple #[.int .i64 N, .int .i64 D]
  | 11 => v = .int .i64 N
  | 12 => v = .int .i64 D
  | 13 => v = .int .i64 N
  | 14 => v = .int .i64 D
  | _ => True
theorem QW3_stays (g : Nat) (AX : Option Addr) (nx : Nat) (cx : Nat) (AY : Option Addr) (ny : Nat) (cy : Nat) (AV : Option Addr) (nv : Nat) (cv : Nat) (gx : Nat) (lx : Nat) (ccx : Nat) (gy : Nat) (ly : Nat) (ccy : Nat) (i : Nat) (k : Nat) (a : Int) (b : Int) (N : Int) (D : Int) : Stays (QW3 g AX nx cx AY ny cy AV nv cv gx lx ccx gy ly ccy i k a b N D) := fun j v W W' h _ => by
  unfold QW3 at h ⊢
  split at h <;> exact h

set_option maxRecDepth 100000 in
set_option maxHeartbeats 4000000 in
theorem rworst_any (AX AY AV : Option Addr) (nx cx ny cy nv cv B : Nat) (X Y : List Int) (V : List (List Int)) (x1 x2 y1 y2 : Int) (w : World) (hx : X.length = nx) (hy : Y.length = ny) (hv : V.length = nv) (hnx : nx ≤ maxLen) (hny : ny ≤ maxLen) (hnv : nv ≤ maxLen) (hnr : ∀ r ∈ V, r.length ≤ maxLen)
    (hB : B ≤ w.heap.size) (h : TB w B AX AY AV X Y V) :
    Calls Try.prog 52 #[.agg #[.slice AX nx cx, .slice AY ny cy, .slice AV nv cv], .agg #[.int .i64 x1, .int .i64 x2], .agg #[.int .i64 y1, .int .i64 y2]] w fun e w' =>
      e = .returned (.tuple #[.int .i64 (wstS X Y V x1 x2 y1 y2).1, .int .i64 (wstS X Y V x1 x2 y1 y2).2.1, .int .i64 (wstS X Y V x1 x2 y1 y2).2.2]) ∧ Below w.heap.size w w' := by
  subst hx hy hv
  have HT := Lib.hid h
  have HCB := Lib.hid (fun (W : World) (hW : Below w.heap.size w W) => checkBound_any AX AY AV _ cx _ cy _ cv B X Y V x1 x2 y1 y2 W rfl rfl rfl hnx hny hnv hnr (by have := hW.size; omega) (h.below (hW.mono hB)))
  have S0 := S3.start w AX AY AV X.length cx Y.length cy V.length cv x1 x2 y1 y2 27 37 37
  have HS0 := Lib.hid S0
  clear S0
  by_cases hc : cbE X Y V x1 x2 y1 y2 = 0
  rotate_left
  · rw [show wstS X Y V x1 x2 y1 y2 = (0, 0, cbE X Y V x1 x2 y1 y2) by unfold wstS; rw [if_neg hc]]
    generalize cbE X Y V x1 x2 y1 y2 = c at *
    have hc' : (c != 0) = true := by rw [bne_iff_ne]; exact hc
    clear hc h
    go_enter Try.func52, Try.ntmps52
    go_wp2_with (go_at_call 63; refine Calls.mono (HCB.out _ (by go_grown)) ?_; rintro e w1 ⟨rfl, hb1⟩; have HB1 := Lib.hid (HS0.out.next hb1).b; clear hb1)
    go_ret3
    exact ⟨rfl, HB1.out⟩
  obtain ⟨hct, _, _, ox1, ox2, oy1, oy2⟩ := cbE_ok hc
  obtain ⟨l1, l2, l3, l4⟩ := ctB_len hct
  rw [show wstS X Y V x1 x2 y1 y2 = ((wstL (cornersL X Y V (endsL X x1 x2) (endsL Y y1 y2))).2.2.1, (wstL (cornersL X Y V (endsL X x1 x2) (endsL Y y1 y2))).2.2.2, 0) by unfold wstS; rw [if_pos hc]]
  have HC := Lib.hid hc
  have HCX0 := Lib.hid (fun (W : World) (hW : Below w.heap.size w W) => rcorners_any AX _ cx B X x1 x2 W rfl (by omega) (by have := hW.size; omega) (h.x.below (hW.mono hB)))
  have HCY0 := Lib.hid (fun (W : World) (hW : Below w.heap.size w W) => rcorners_any AY _ cy B Y y1 y2 W rfl (by omega) (by have := hW.size; omega) (h.y.below (hW.mono hB)))
  have HV0 := Lib.hid (fun (W : World) (hW : Below w.heap.size w W) (x y : Int) (hx : On X x) (hy : On Y y) => rvalue_any AX AY AV _ cx _ cy _ cv B X Y V x y W rfl rfl rfl (by have := hW.size; omega) (h.below (hW.mono hB)) hct hx hy)
  have hex0 := endsL_zero X x1 x2
  have hey0 := endsL_zero Y y1 y2
  have hexn := endsL_len X x1 x2
  have heyn := endsL_len Y y1 y2
  have hexo := endsL_on ox1 ox2
  have heyo := endsL_on oy1 oy2
  have HG := Lib.hid (fun (x y : Int) (hx : On X x) (hy : On Y y) => good_of (V := V) hct hx hy)
  generalize hEX : endsL X x1 x2 = EX at *
  generalize hEY : endsL Y y1 y2 = EY at *
  have hel1 : EX.length ≤ 14 := by omega
  have hel2 : EY.length ≤ 14 := by omega
  have HEX := Lib.hid (And.intro hex0 hexo)
  have HEY := Lib.hid (And.intro hey0 heyo)
  have HO := Lib.hid (And.intro ox1 oy1)
  clear hex0 hey0 hexn heyn hexo heyo hct ox1 ox2 oy1 oy2 hEX hEY h hc
  go_enter Try.func52, Try.ntmps52
  go_upto_region 4 with (go_at_call 63; refine Calls.mono (HCB.out _ (by go_grown)) ?_; rintro e w1 ⟨rfl, hb1⟩; rw [HC.out])
  have S1 := HS0.out.next hb1
  have HS1 := Lib.hid S1
  obtain ⟨t0, t1, t2, a0, a1, b0, b1, l9, _⟩ := S1
  clear hb1 HS0 HCB HC
  have HCX := Lib.hid (fun (W : World) (hW : Below w1.heap.size w1 W) => HCX0.out W (HS1.out.b.trans (hW.mono HS1.out.b.size)))
  have HCY := Lib.hid (fun (W : World) (hW : Below w1.heap.size w1 W) => HCY0.out W (HS1.out.b.trans (hW.mono HS1.out.b.size)))
  have hst := QW1_stays w.heap.size AX X.length cx AY Y.length cy x1 x2 y1 y2 EX EY
  clear HCX0 HCY0
  refine wpIn_wide.1 (region_inv2 (n := 9) (by kernel_rfl) (RQ (QW1 w.heap.size AX X.length cx AY Y.length cy x1 x2 y1 y2 EX EY) w1) (by kernel_rfl) rfl (RQ.start _ _ _) ?hstep ?hend)
  case hstep =>
    intro i' o ho val L b' x hF hR hpre hl
    match i', ho with
    | 0, ho =>
      simp at ho
      subst ho
      refine step_plain rfl ?_
      have e3 := hF.was 3 (by kernel_rfl) rfl
      have hgoal : ∀ v W', Below x.heap.size x W' → QW1 w.heap.size AX X.length cx AY Y.length cy x1 x2 y1 y2 EX EY 0 v W' → RQ (QW1 w.heap.size AX X.length cx AY Y.length cy x1 x2 y1 y2 EX EY) w1 (upd val 0 v) (L.setIfInBounds 0 true) W' := fun v W' hb hq => hR.step hst hb hq
      clear hF hpre hl hR
      go_simp
      exact ⟨_, rfl, hgoal _ _ (Below.refl _ _) rfl⟩
    | 1, ho =>
      simp at ho
      subst ho
      refine step_plain rfl ?_
      have e27 := hF.gave 0 rfl (hpre ⟨0, .data⟩ (by simp) rfl) rfl
      have v0 := hR.2 0 (hpre ⟨0, .data⟩ (by simp) rfl)
      rw [show val 0 = .pointer (some ⟨w.heap.size, 0, none⟩) from v0] at e27
      clear v0
      have hgoal : ∀ v W', Below x.heap.size x W' → QW1 w.heap.size AX X.length cx AY Y.length cy x1 x2 y1 y2 EX EY 1 v W' → RQ (QW1 w.heap.size AX X.length cx AY Y.length cy x1 x2 y1 y2 EX EY) w1 (upd val 1 v) (L.setIfInBounds 1 true) W' := fun v W' hb hq => hR.step hst hb hq
      have q0 := cell_keep hR.1 t0
      have q1 := cell_keep hR.1 t1
      have q2 := cell_keep hR.1 a0
      have q3 := cell_keep hR.1 a1
      have q4 := cell_keep hR.1 b0
      have q5 := cell_keep hR.1 b1
      clear hF hpre hl hR
      go_simp
      exact ⟨_, rfl, hgoal _ _ (Below.refl _ _) rfl⟩
    | 2, ho =>
      simp at ho
      subst ho
      refine step_plain rfl ?_
      have e4 := hF.was 4 (by kernel_rfl) rfl
      have hgoal : ∀ v W', Below x.heap.size x W' → QW1 w.heap.size AX X.length cx AY Y.length cy x1 x2 y1 y2 EX EY 2 v W' → RQ (QW1 w.heap.size AX X.length cx AY Y.length cy x1 x2 y1 y2 EX EY) w1 (upd val 2 v) (L.setIfInBounds 2 true) W' := fun v W' hb hq => hR.step hst hb hq
      have q0 := cell_keep hR.1 t0
      have q1 := cell_keep hR.1 t1
      have q2 := cell_keep hR.1 a0
      have q3 := cell_keep hR.1 a1
      have q4 := cell_keep hR.1 b0
      have q5 := cell_keep hR.1 b1
      clear hF hpre hl hR
      go_simp
      exact ⟨_, rfl, hgoal _ _ (Below.refl _ _) rfl⟩
    | 3, ho =>
      simp at ho
      subst ho
      refine step_plain rfl ?_
      have e28 := hF.gave 1 rfl (hpre ⟨1, .data⟩ (by simp) rfl) rfl
      have v1 := hR.2 1 (hpre ⟨1, .data⟩ (by simp) rfl)
      rw [show val 1 = .slice AX X.length cx from v1] at e28
      clear v1
      have e29 := hF.gave 2 rfl (hpre ⟨2, .data⟩ (by simp) rfl) rfl
      have v2 := hR.2 2 (hpre ⟨2, .data⟩ (by simp) rfl)
      rw [show val 2 = .agg #[.int .i64 x1, .int .i64 x2] from v2] at e29
      clear v2
      have hgoal : ∀ v W', Below x.heap.size x W' → QW1 w.heap.size AX X.length cx AY Y.length cy x1 x2 y1 y2 EX EY 3 v W' → RQ (QW1 w.heap.size AX X.length cx AY Y.length cy x1 x2 y1 y2 EX EY) w1 (upd val 3 v) (L.setIfInBounds 3 true) W' := fun v W' hb hq => hR.step hst hb hq
      have q0 := cell_keep hR.1 t0
      have q1 := cell_keep hR.1 t1
      have q2 := cell_keep hR.1 a0
      have q3 := cell_keep hR.1 a1
      have q4 := cell_keep hR.1 b0
      have q5 := cell_keep hR.1 b1
      have hM := Lib.hid hR.1
      clear hF hpre hl hR
      go_simp
      refine ⟨trivial, ?_⟩
      refine CallsIn.mono (callsIn_wide.2 (HCX.out _ hM.out)) ?_
      rintro e y9 ⟨g9, c9, rfl, _, hri9, hb9⟩
      exact ⟨_, rfl, hgoal _ _ hb9 ⟨g9, c9, rfl, hri9⟩⟩
    | 4, ho =>
      simp at ho
      subst ho
      refine step_plain rfl ?_
      have e3 := hF.was 3 (by kernel_rfl) rfl
      have hgoal : ∀ v W', Below x.heap.size x W' → QW1 w.heap.size AX X.length cx AY Y.length cy x1 x2 y1 y2 EX EY 4 v W' → RQ (QW1 w.heap.size AX X.length cx AY Y.length cy x1 x2 y1 y2 EX EY) w1 (upd val 4 v) (L.setIfInBounds 4 true) W' := fun v W' hb hq => hR.step hst hb hq
      clear hF hpre hl hR
      go_simp
      exact ⟨_, rfl, hgoal _ _ (Below.refl _ _) rfl⟩
    | 5, ho =>
      simp at ho
      subst ho
      refine step_plain rfl ?_
      have e31 := hF.gave 4 rfl (hpre ⟨4, .data⟩ (by simp) rfl) rfl
      have v4 := hR.2 4 (hpre ⟨4, .data⟩ (by simp) rfl)
      rw [show val 4 = .pointer (some ⟨w.heap.size, 1, none⟩) from v4] at e31
      clear v4
      have hgoal : ∀ v W', Below x.heap.size x W' → QW1 w.heap.size AX X.length cx AY Y.length cy x1 x2 y1 y2 EX EY 5 v W' → RQ (QW1 w.heap.size AX X.length cx AY Y.length cy x1 x2 y1 y2 EX EY) w1 (upd val 5 v) (L.setIfInBounds 5 true) W' := fun v W' hb hq => hR.step hst hb hq
      have q0 := cell_keep hR.1 t0
      have q1 := cell_keep hR.1 t1
      have q2 := cell_keep hR.1 a0
      have q3 := cell_keep hR.1 a1
      have q4 := cell_keep hR.1 b0
      have q5 := cell_keep hR.1 b1
      clear hF hpre hl hR
      go_simp
      exact ⟨_, rfl, hgoal _ _ (Below.refl _ _) rfl⟩
    | 6, ho =>
      simp at ho
      subst ho
      refine step_plain rfl ?_
      have e5 := hF.was 5 (by kernel_rfl) rfl
      have hgoal : ∀ v W', Below x.heap.size x W' → QW1 w.heap.size AX X.length cx AY Y.length cy x1 x2 y1 y2 EX EY 6 v W' → RQ (QW1 w.heap.size AX X.length cx AY Y.length cy x1 x2 y1 y2 EX EY) w1 (upd val 6 v) (L.setIfInBounds 6 true) W' := fun v W' hb hq => hR.step hst hb hq
      have q0 := cell_keep hR.1 t0
      have q1 := cell_keep hR.1 t1
      have q2 := cell_keep hR.1 a0
      have q3 := cell_keep hR.1 a1
      have q4 := cell_keep hR.1 b0
      have q5 := cell_keep hR.1 b1
      clear hF hpre hl hR
      go_simp
      exact ⟨_, rfl, hgoal _ _ (Below.refl _ _) rfl⟩
    | 7, ho =>
      simp at ho
      subst ho
      refine step_plain rfl ?_
      have e32 := hF.gave 5 rfl (hpre ⟨5, .data⟩ (by simp) rfl) rfl
      have v5 := hR.2 5 (hpre ⟨5, .data⟩ (by simp) rfl)
      rw [show val 5 = .slice AY Y.length cy from v5] at e32
      clear v5
      have e33 := hF.gave 6 rfl (hpre ⟨6, .data⟩ (by simp) rfl) rfl
      have v6 := hR.2 6 (hpre ⟨6, .data⟩ (by simp) rfl)
      rw [show val 6 = .agg #[.int .i64 y1, .int .i64 y2] from v6] at e33
      clear v6
      have hgoal : ∀ v W', Below x.heap.size x W' → QW1 w.heap.size AX X.length cx AY Y.length cy x1 x2 y1 y2 EX EY 7 v W' → RQ (QW1 w.heap.size AX X.length cx AY Y.length cy x1 x2 y1 y2 EX EY) w1 (upd val 7 v) (L.setIfInBounds 7 true) W' := fun v W' hb hq => hR.step hst hb hq
      have q0 := cell_keep hR.1 t0
      have q1 := cell_keep hR.1 t1
      have q2 := cell_keep hR.1 a0
      have q3 := cell_keep hR.1 a1
      have q4 := cell_keep hR.1 b0
      have q5 := cell_keep hR.1 b1
      have hM := Lib.hid hR.1
      clear hF hpre hl hR
      go_simp
      refine ⟨trivial, ?_⟩
      refine CallsIn.mono (callsIn_wide.2 (HCY.out _ hM.out)) ?_
      rintro e y9 ⟨g9, c9, rfl, _, hri9, hb9⟩
      exact ⟨_, rfl, hgoal _ _ hb9 ⟨g9, c9, rfl, hri9⟩⟩
    | 8, ho =>
      simp at ho
      subst ho
      refine step_plain rfl ?_
      have e30 := hF.gave 3 rfl (hpre ⟨3, .data⟩ (by simp) rfl) rfl
      have v3 := hR.2 3 (hpre ⟨3, .data⟩ (by simp) rfl)
      have hgoal : ∀ v W', Below x.heap.size x W' → QW1 w.heap.size AX X.length cx AY Y.length cy x1 x2 y1 y2 EX EY 8 v W' → RQ (QW1 w.heap.size AX X.length cx AY Y.length cy x1 x2 y1 y2 EX EY) w1 (upd val 8 v) (L.setIfInBounds 8 true) W' := fun v W' hb hq => hR.step hst hb hq
      clear hF hpre hl hR
      go_simp
      exact ⟨_, rfl, hgoal _ _ (Below.refl _ _) v3⟩
    | 9, ho =>
      simp at ho
      subst ho
      refine step_plain rfl ?_
      have e34 := hF.gave 7 rfl (hpre ⟨7, .data⟩ (by simp) rfl) rfl
      have v7 := hR.2 7 (hpre ⟨7, .data⟩ (by simp) rfl)
      have hgoal : ∀ v W', Below x.heap.size x W' → QW1 w.heap.size AX X.length cx AY Y.length cy x1 x2 y1 y2 EX EY 9 v W' → RQ (QW1 w.heap.size AX X.length cx AY Y.length cy x1 x2 y1 y2 EX EY) w1 (upd val 9 v) (L.setIfInBounds 9 true) W' := fun v W' hb hq => hR.step hst hb hq
      clear hF hpre hl hR
      go_simp
      exact ⟨_, rfl, hgoal _ _ (Below.refl _ _) v7⟩
    | i + 10, ho => simp at ho
  case hend =>
  intro val L b' w2 hF hall hR
  have e := hF.all (by kernel_rfl) hall
  obtain ⟨gx, ccx, e8, hrx⟩ := hR.2 8 (hall 8 (by decide))
  obtain ⟨gy, ccy, e9, hry⟩ := hR.2 9 (hall 9 (by decide))
  have hb2 := hR.1
  have S2 := HS1.out.next hb2
  have HS2 := Lib.hid S2
  have HRX := Lib.hid hrx
  have HRY := Lib.hid hry
  clear hF hall hR hst HCX HCY hb2 hrx hry t0 t1 t2 a0 a1 b0 b1 l9 HS1
  obtain ⟨t0, t1, t2, a0, a1, b0, b1, l9, _⟩ := S2
  subst e
  simp [final, dstOf, List.range, List.range.loop]
  rw [e8, e9]
  clear e8 e9
  generalize val 0 = v0, val 1 = v1, val 2 = v2, val 3 = v3, val 4 = v4, val 5 = v5, val 6 = v6, val 7 = v7
  have ex0 : w2.cell? ⟨gx, 0, none⟩ = some (.int .i64 x1) := HRX.out.first HEX.out.1
  have ey0 : w2.cell? ⟨gy, 0, none⟩ = some (.int .i64 y1) := HRY.out.first HEY.out.1
  have nx0 : 0 < EX.length := (List.getElem?_eq_some_iff.1 HEX.out.1).1
  have ny0 : 0 < EY.length := (List.getElem?_eq_some_iff.1 HEY.out.1).1
  go_upto_region 5 with fail
  go_quiet (fail)
  have hbq : Below w2.heap.size w2 (w2.drewN nq) := below_drewN (Below.refl _ _) nq
  have SQ := HS2.out.next hbq
  have HSQ := Lib.hid SQ
  have HRX1 := Lib.hid ((HRX.out.below hbq).more hbq.size)
  have HRY1 := Lib.hid ((HRY.out.below hbq).more hbq.size)
  generalize hwq : w2.drewN nq = wq at *
  clear hwq hbq t0 t1 t2 a0 a1 b0 b1 l9 HRX HRY HS2 ex0 ey0
  obtain ⟨t0, t1, t2, a0, a1, b0, b1, l9, _⟩ := SQ
  go_upto_region 7 with (go_at_call 94; refine Calls.mono (HV0.out _ HSQ.out.b x1 y1 HO.out.1 HO.out.2) ?_; rintro e w3 ⟨rfl, hb3⟩)
  have S4 := HSQ.out.next hb3
  have HS4 := Lib.hid S4
  have HRX3 := Lib.hid ((HRX1.out.below hb3).more hb3.size)
  have HRY3 := Lib.hid ((HRY1.out.below hb3).more hb3.size)
  clear hb3 t0 t1 t2 a0 a1 b0 b1 l9 HRX1 HRY1 HSQ
  obtain ⟨t0, t1, t2, a0, a1, b0, b1, l9, _⟩ := S4
  have hg0 := HG.out x1 y1 HO.out.1 HO.out.2
  have HG0 := Lib.hid hg0
  clear hg0
  go_wp2_with fail
  go_loopw [12, 13, 14, 15, 16, 17, 18, 19] (fun s12 s13 s14 s15 i _ _ _ wr => ∃ a : Nat, a ≤ EX.length ∧ i = .int .i64 a ∧ ∃ c : Cn, c = wstR (cnOf X Y V x1 y1) (cornersL X Y V (EX.take a) EY) ∧ Gd c.1 c.2.1 ∧ (s12 = .int .i64 c.2.2.1 ∧ s13 = .int .i64 c.2.2.2 ∧ s14 = .int .i64 c.1 ∧ s15 = .int .i64 c.2.1) ∧ Below w3.heap.size w3 wr) (fun _ _ _ _ i _ _ _ _ => EX.length - (intOf i).toNat)
  case atStart => exact ⟨0, by omega, rfl, cnOf X Y V x1 y1, by simp [wstR, cornersL], HG0.out.gd, ⟨rfl, rfl, rfl, rfl⟩, Below.refl _ _⟩
  case round =>
    obtain ⟨a, ha, rfl, c, hcw, hcg, ⟨rfl, rfl, rfl, rfl⟩, hbr⟩ := hrel
    have HBR := Lib.hid hbr
    have HCW := Lib.hid hcw
    have HCG := Lib.hid hcg
    clear hcw hcg
    by_cases hat : a < EX.length
    · obtain ⟨xi, hxi⟩ : ∃ xi, EX[a]? = some xi := ⟨_, List.getElem?_eq_getElem hat⟩
      have HXI := Lib.hid hxi
      have ha0 : (a : Int) < EX.length := by omega
      clear hxi hbr
      obtain ⟨c1, c2, c3, c4⟩ := c
      simp only at *
      go_wp2_with fail
      go_loopw [12, 13, 14, 15, 17, 18, 19] (fun s12 s13 s14 s15 j _ _ wr => ∃ k : Nat, k ≤ EY.length ∧ j = .int .i64 k ∧ ∃ c : Cn, c = wstR (cnOf X Y V x1 y1) (cornersL X Y V (EX.take a) EY ++ (EY.take k).map (cnOf X Y V xi)) ∧ Gd c.1 c.2.1 ∧ (s12 = .int .i64 c.2.2.1 ∧ s13 = .int .i64 c.2.2.2 ∧ s14 = .int .i64 c.1 ∧ s15 = .int .i64 c.2.1) ∧ Below w3.heap.size w3 wr) (fun _ _ _ _ j _ _ _ => EY.length - (intOf j).toNat)
      case atStart => exact ⟨0, by omega, rfl, (c1, c2, c3, c4), by rw [HCW.out]; simp, HCG.out, ⟨rfl, rfl, rfl, rfl⟩, HBR.out⟩
      case round =>
        obtain ⟨k, hk, rfl, c, hcw, hcg, ⟨rfl, rfl, rfl, rfl⟩, hbr2⟩ := hrel
        obtain ⟨n, d, px, py⟩ := c
        simp only at hcg
        have HBR2 := Lib.hid hbr2
        have HCW2 := Lib.hid hcw
        have HCG2 := Lib.hid hcg
        clear hcw hcg
        by_cases hkt : k < EY.length
        · obtain ⟨yk, hyk⟩ : ∃ yk, EY[k]? = some yk := ⟨_, List.getElem?_eq_getElem hkt⟩
          have HYK := Lib.hid hyk
          have hk0 : (k : Int) < EY.length := by omega
          have hox := HEX.out.2 xi (List.mem_of_getElem? HXI.out)
          have hoy := HEY.out.2 yk (List.mem_of_getElem? hyk)
          have hwb := HS4.out.b.trans (hbr2.mono HS4.out.b.size)
          have HWB := Lib.hid hwb
          have HV := Lib.hid (fun (W : World) (hW : Below wr.heap.size wr W) => HV0.out W (hwb.trans (hW.mono hwb.size)) xi yk hox hoy)
          have HGC := Lib.hid (HG.out xi yk hox hoy)
          have exa : wr.cell? ⟨gx, a, none⟩ = some (.int .i64 xi) := cell_keep hbr2 (HRX3.out.nth HXI.out)
          have eyk : wr.cell? ⟨gy, k, none⟩ = some (.int .i64 yk) := cell_keep hbr2 (HRY3.out.nth hyk)
          have t0 := cell_keep hbr2 t0
          have t1 := cell_keep hbr2 t1
          have t2 := cell_keep hbr2 t2
          clear hyk hox hoy hbr2 hwb
          go_upto_region 13 with fail
          have hst := QW3_stays w.heap.size AX X.length cx AY Y.length cy AV V.length cv gx EX.length ccx gy EY.length ccy a k xi yk ((atN X Y V xi yk)) ((atD X Y xi yk))
          refine wpIn_wide.1 (region_inv2 (n := 9) (by kernel_rfl) (RQ (QW3 w.heap.size AX X.length cx AY Y.length cy AV V.length cv gx EX.length ccx gy EY.length ccy a k xi yk ((atN X Y V xi yk)) ((atD X Y xi yk))) wr) (by kernel_rfl) rfl (RQ.start _ _ _) ?hstep ?hend)
          case hstep =>
            intro i' o ho val L b' x hF hR hpre hl
            match i', ho with
            | 0, ho =>
              simp at ho
              subst ho
              refine step_plain rfl ?_
              have e3 := hF.was 3 (by kernel_rfl) rfl
              have hgoal : ∀ v W', Below x.heap.size x W' → QW3 w.heap.size AX X.length cx AY Y.length cy AV V.length cv gx EX.length ccx gy EY.length ccy a k xi yk ((atN X Y V xi yk)) ((atD X Y xi yk)) 0 v W' → RQ (QW3 w.heap.size AX X.length cx AY Y.length cy AV V.length cv gx EX.length ccx gy EY.length ccy a k xi yk ((atN X Y V xi yk)) ((atD X Y xi yk))) wr (upd val 0 v) (L.setIfInBounds 0 true) W' := fun v W' hb hq => hR.step hst hb hq
              have q0 := cell_keep hR.1 t0
              have q1 := cell_keep hR.1 t1
              have q2 := cell_keep hR.1 t2
              have q3 := cell_keep hR.1 exa
              have q4 := cell_keep hR.1 eyk
              clear hF hpre hl hR
              go_simp
              exact ⟨_, rfl, hgoal _ _ (Below.refl _ _) rfl⟩
            | 1, ho =>
              simp at ho
              subst ho
              refine step_plain rfl ?_
              have e10 := hF.was 10 (by kernel_rfl) rfl
              have hgoal : ∀ v W', Below x.heap.size x W' → QW3 w.heap.size AX X.length cx AY Y.length cy AV V.length cv gx EX.length ccx gy EY.length ccy a k xi yk ((atN X Y V xi yk)) ((atD X Y xi yk)) 1 v W' → RQ (QW3 w.heap.size AX X.length cx AY Y.length cy AV V.length cv gx EX.length ccx gy EY.length ccy a k xi yk ((atN X Y V xi yk)) ((atD X Y xi yk))) wr (upd val 1 v) (L.setIfInBounds 1 true) W' := fun v W' hb hq => hR.step hst hb hq
              clear hF hpre hl hR
              go_simp
              exact ⟨_, rfl, hgoal _ _ (Below.refl _ _) rfl⟩
            | 2, ho =>
              simp at ho
              subst ho
              refine step_plain rfl ?_
              have e16 := hF.was 16 (by kernel_rfl) rfl
              have hgoal : ∀ v W', Below x.heap.size x W' → QW3 w.heap.size AX X.length cx AY Y.length cy AV V.length cv gx EX.length ccx gy EY.length ccy a k xi yk ((atN X Y V xi yk)) ((atD X Y xi yk)) 2 v W' → RQ (QW3 w.heap.size AX X.length cx AY Y.length cy AV V.length cv gx EX.length ccx gy EY.length ccy a k xi yk ((atN X Y V xi yk)) ((atD X Y xi yk))) wr (upd val 2 v) (L.setIfInBounds 2 true) W' := fun v W' hb hq => hR.step hst hb hq
              clear hF hpre hl hR
              go_simp
              exact ⟨_, rfl, hgoal _ _ (Below.refl _ _) rfl⟩
            | 3, ho =>
              simp at ho
              subst ho
              refine step_plain rfl ?_
              have e62 := hF.gave 1 rfl (hpre ⟨1, .data⟩ (by simp) rfl) rfl
              have v1 := hR.2 1 (hpre ⟨1, .data⟩ (by simp) rfl)
              rw [show val 1 = .slice (some ⟨gx, 0, none⟩) EX.length ccx from v1] at e62
              clear v1
              have e63 := hF.gave 2 rfl (hpre ⟨2, .data⟩ (by simp) rfl) rfl
              have v2 := hR.2 2 (hpre ⟨2, .data⟩ (by simp) rfl)
              rw [show val 2 = .int .i64 (a : Nat) from v2] at e63
              clear v2
              have hgoal : ∀ v W', Below x.heap.size x W' → QW3 w.heap.size AX X.length cx AY Y.length cy AV V.length cv gx EX.length ccx gy EY.length ccy a k xi yk ((atN X Y V xi yk)) ((atD X Y xi yk)) 3 v W' → RQ (QW3 w.heap.size AX X.length cx AY Y.length cy AV V.length cv gx EX.length ccx gy EY.length ccy a k xi yk ((atN X Y V xi yk)) ((atD X Y xi yk))) wr (upd val 3 v) (L.setIfInBounds 3 true) W' := fun v W' hb hq => hR.step hst hb hq
              clear hF hpre hl hR
              go_simp
              exact ⟨_, rfl, hgoal _ _ (Below.refl _ _) rfl⟩
            | 4, ho =>
              simp at ho
              subst ho
              refine step_plain rfl ?_
              have e64 := hF.gave 3 rfl (hpre ⟨3, .data⟩ (by simp) rfl) rfl
              have v3 := hR.2 3 (hpre ⟨3, .data⟩ (by simp) rfl)
              rw [show val 3 = .pointer (some ⟨gx, a, none⟩) from v3] at e64
              clear v3
              have hgoal : ∀ v W', Below x.heap.size x W' → QW3 w.heap.size AX X.length cx AY Y.length cy AV V.length cv gx EX.length ccx gy EY.length ccy a k xi yk ((atN X Y V xi yk)) ((atD X Y xi yk)) 4 v W' → RQ (QW3 w.heap.size AX X.length cx AY Y.length cy AV V.length cv gx EX.length ccx gy EY.length ccy a k xi yk ((atN X Y V xi yk)) ((atD X Y xi yk))) wr (upd val 4 v) (L.setIfInBounds 4 true) W' := fun v W' hb hq => hR.step hst hb hq
              have q0 := cell_keep hR.1 t0
              have q1 := cell_keep hR.1 t1
              have q2 := cell_keep hR.1 t2
              have q3 := cell_keep hR.1 exa
              have q4 := cell_keep hR.1 eyk
              clear hF hpre hl hR
              go_simp
              exact ⟨_, rfl, hgoal _ _ (Below.refl _ _) rfl⟩
            | 5, ho =>
              simp at ho
              subst ho
              refine step_plain rfl ?_
              have e11 := hF.was 11 (by kernel_rfl) rfl
              have hgoal : ∀ v W', Below x.heap.size x W' → QW3 w.heap.size AX X.length cx AY Y.length cy AV V.length cv gx EX.length ccx gy EY.length ccy a k xi yk ((atN X Y V xi yk)) ((atD X Y xi yk)) 5 v W' → RQ (QW3 w.heap.size AX X.length cx AY Y.length cy AV V.length cv gx EX.length ccx gy EY.length ccy a k xi yk ((atN X Y V xi yk)) ((atD X Y xi yk))) wr (upd val 5 v) (L.setIfInBounds 5 true) W' := fun v W' hb hq => hR.step hst hb hq
              clear hF hpre hl hR
              go_simp
              exact ⟨_, rfl, hgoal _ _ (Below.refl _ _) rfl⟩
            | 6, ho =>
              simp at ho
              subst ho
              refine step_plain rfl ?_
              have e17 := hF.was 17 (by kernel_rfl) rfl
              have hgoal : ∀ v W', Below x.heap.size x W' → QW3 w.heap.size AX X.length cx AY Y.length cy AV V.length cv gx EX.length ccx gy EY.length ccy a k xi yk ((atN X Y V xi yk)) ((atD X Y xi yk)) 6 v W' → RQ (QW3 w.heap.size AX X.length cx AY Y.length cy AV V.length cv gx EX.length ccx gy EY.length ccy a k xi yk ((atN X Y V xi yk)) ((atD X Y xi yk))) wr (upd val 6 v) (L.setIfInBounds 6 true) W' := fun v W' hb hq => hR.step hst hb hq
              clear hF hpre hl hR
              go_simp
              exact ⟨_, rfl, hgoal _ _ (Below.refl _ _) rfl⟩
            | 7, ho =>
              simp at ho
              subst ho
              refine step_plain rfl ?_
              have e66 := hF.gave 5 rfl (hpre ⟨5, .data⟩ (by simp) rfl) rfl
              have v5 := hR.2 5 (hpre ⟨5, .data⟩ (by simp) rfl)
              rw [show val 5 = .slice (some ⟨gy, 0, none⟩) EY.length ccy from v5] at e66
              clear v5
              have e67 := hF.gave 6 rfl (hpre ⟨6, .data⟩ (by simp) rfl) rfl
              have v6 := hR.2 6 (hpre ⟨6, .data⟩ (by simp) rfl)
              rw [show val 6 = .int .i64 (k : Nat) from v6] at e67
              clear v6
              have hgoal : ∀ v W', Below x.heap.size x W' → QW3 w.heap.size AX X.length cx AY Y.length cy AV V.length cv gx EX.length ccx gy EY.length ccy a k xi yk ((atN X Y V xi yk)) ((atD X Y xi yk)) 7 v W' → RQ (QW3 w.heap.size AX X.length cx AY Y.length cy AV V.length cv gx EX.length ccx gy EY.length ccy a k xi yk ((atN X Y V xi yk)) ((atD X Y xi yk))) wr (upd val 7 v) (L.setIfInBounds 7 true) W' := fun v W' hb hq => hR.step hst hb hq
              clear hF hpre hl hR
              go_simp
              exact ⟨_, rfl, hgoal _ _ (Below.refl _ _) rfl⟩
            | 8, ho =>
              simp at ho
              subst ho
              refine step_plain rfl ?_
              have e68 := hF.gave 7 rfl (hpre ⟨7, .data⟩ (by simp) rfl) rfl
              have v7 := hR.2 7 (hpre ⟨7, .data⟩ (by simp) rfl)
              rw [show val 7 = .pointer (some ⟨gy, k, none⟩) from v7] at e68
              clear v7
              have hgoal : ∀ v W', Below x.heap.size x W' → QW3 w.heap.size AX X.length cx AY Y.length cy AV V.length cv gx EX.length ccx gy EY.length ccy a k xi yk ((atN X Y V xi yk)) ((atD X Y xi yk)) 8 v W' → RQ (QW3 w.heap.size AX X.length cx AY Y.length cy AV V.length cv gx EX.length ccx gy EY.length ccy a k xi yk ((atN X Y V xi yk)) ((atD X Y xi yk))) wr (upd val 8 v) (L.setIfInBounds 8 true) W' := fun v W' hb hq => hR.step hst hb hq
              have q0 := cell_keep hR.1 t0
              have q1 := cell_keep hR.1 t1
              have q2 := cell_keep hR.1 t2
              have q3 := cell_keep hR.1 exa
              have q4 := cell_keep hR.1 eyk
              clear hF hpre hl hR
              go_simp
              exact ⟨_, rfl, hgoal _ _ (Below.refl _ _) rfl⟩
            | 9, ho =>
              simp at ho
              subst ho
              refine step_plain rfl ?_
              have e61 := hF.gave 0 rfl (hpre ⟨0, .data⟩ (by simp) rfl) rfl
              have v0 := hR.2 0 (hpre ⟨0, .data⟩ (by simp) rfl)
              rw [show val 0 = .agg #[.slice AX X.length cx, .slice AY Y.length cy, .slice AV V.length cv] from v0] at e61
              clear v0
              have e65 := hF.gave 4 rfl (hpre ⟨4, .data⟩ (by simp) rfl) rfl
              have v4 := hR.2 4 (hpre ⟨4, .data⟩ (by simp) rfl)
              rw [show val 4 = .int .i64 xi from v4] at e65
              clear v4
              have e69 := hF.gave 8 rfl (hpre ⟨8, .data⟩ (by simp) rfl) rfl
              have v8 := hR.2 8 (hpre ⟨8, .data⟩ (by simp) rfl)
              rw [show val 8 = .int .i64 yk from v8] at e69
              clear v8
              have hgoal : ∀ v W', Below x.heap.size x W' → QW3 w.heap.size AX X.length cx AY Y.length cy AV V.length cv gx EX.length ccx gy EY.length ccy a k xi yk ((atN X Y V xi yk)) ((atD X Y xi yk)) 9 v W' → RQ (QW3 w.heap.size AX X.length cx AY Y.length cy AV V.length cv gx EX.length ccx gy EY.length ccy a k xi yk ((atN X Y V xi yk)) ((atD X Y xi yk))) wr (upd val 9 v) (L.setIfInBounds 9 true) W' := fun v W' hb hq => hR.step hst hb hq
              have q0 := cell_keep hR.1 t0
              have q1 := cell_keep hR.1 t1
              have q2 := cell_keep hR.1 t2
              have q3 := cell_keep hR.1 exa
              have q4 := cell_keep hR.1 eyk
              have hM := Lib.hid hR.1
              clear hF hpre hl hR
              go_simp
              refine ⟨trivial, ?_⟩
              refine CallsIn.mono (callsIn_wide.2 (HV.out _ hM.out)) ?_
              rintro e y9 ⟨rfl, hb9⟩
              exact ⟨_, rfl, hgoal _ _ hb9 rfl⟩
            | 10, ho =>
              simp at ho
              subst ho
              refine step_plain rfl ?_
              have e70 := hF.gave 9 rfl (hpre ⟨9, .data⟩ (by simp) rfl) rfl
              have v9 := hR.2 9 (hpre ⟨9, .data⟩ (by simp) rfl)
              rw [show val 9 = .tuple #[.int .i64 ((atN X Y V xi yk)), .int .i64 ((atD X Y xi yk))] from v9] at e70
              clear v9
              have hgoal : ∀ v W', Below x.heap.size x W' → QW3 w.heap.size AX X.length cx AY Y.length cy AV V.length cv gx EX.length ccx gy EY.length ccy a k xi yk ((atN X Y V xi yk)) ((atD X Y xi yk)) 10 v W' → RQ (QW3 w.heap.size AX X.length cx AY Y.length cy AV V.length cv gx EX.length ccx gy EY.length ccy a k xi yk ((atN X Y V xi yk)) ((atD X Y xi yk))) wr (upd val 10 v) (L.setIfInBounds 10 true) W' := fun v W' hb hq => hR.step hst hb hq
              clear hF hpre hl hR
              go_simp
              exact ⟨_, rfl, hgoal _ _ (Below.refl _ _) rfl⟩
            | 11, ho =>
              simp at ho
              subst ho
              refine step_plain rfl ?_
              have e60 := hF.gave 10 rfl (hpre ⟨10, .data⟩ (by simp) rfl) rfl
              have v10 := hR.2 10 (hpre ⟨10, .data⟩ (by simp) rfl)
              rw [show val 10 = .tuple #[.int .i64 ((atN X Y V xi yk)), .int .i64 ((atD X Y xi yk))] from v10] at e60
              clear v10
              have hgoal : ∀ v W', Below x.heap.size x W' → QW3 w.heap.size AX X.length cx AY Y.length cy AV V.length cv gx EX.length ccx gy EY.length ccy a k xi yk ((atN X Y V xi yk)) ((atD X Y xi yk)) 11 v W' → RQ (QW3 w.heap.size AX X.length cx AY Y.length cy AV V.length cv gx EX.length ccx gy EY.length ccy a k xi yk ((atN X Y V xi yk)) ((atD X Y xi yk))) wr (upd val 11 v) (L.setIfInBounds 11 true) W' := fun v W' hb hq => hR.step hst hb hq
              clear hF hpre hl hR
              go_simp
              exact ⟨_, rfl, hgoal _ _ (Below.refl _ _) rfl⟩
            | 12, ho =>
              simp at ho
              subst ho
              refine step_plain rfl ?_
              have e60 := hF.gave 10 rfl (hpre ⟨10, .data⟩ (by simp) rfl) rfl
              have v10 := hR.2 10 (hpre ⟨10, .data⟩ (by simp) rfl)
              rw [show val 10 = .tuple #[.int .i64 ((atN X Y V xi yk)), .int .i64 ((atD X Y xi yk))] from v10] at e60
              clear v10
              have hgoal : ∀ v W', Below x.heap.size x W' → QW3 w.heap.size AX X.length cx AY Y.length cy AV V.length cv gx EX.length ccx gy EY.length ccy a k xi yk ((atN X Y V xi yk)) ((atD X Y xi yk)) 12 v W' → RQ (QW3 w.heap.size AX X.length cx AY Y.length cy AV V.length cv gx EX.length ccx gy EY.length ccy a k xi yk ((atN X Y V xi yk)) ((atD X Y xi yk))) wr (upd val 12 v) (L.setIfInBounds 12 true) W' := fun v W' hb hq => hR.step hst hb hq
              clear hF hpre hl hR
              go_simp
              exact ⟨_, rfl, hgoal _ _ (Below.refl _ _) rfl⟩
            | 13, ho =>
              simp at ho
              subst ho
              refine step_plain rfl ?_
              have e71 := hF.gave 11 rfl (hpre ⟨11, .data⟩ (by simp) rfl) rfl
              have v11 := hR.2 11 (hpre ⟨11, .data⟩ (by simp) rfl)
              rw [show val 11 = .int .i64 ((atN X Y V xi yk)) from v11] at e71
              clear v11
              have hgoal : ∀ v W', Below x.heap.size x W' → QW3 w.heap.size AX X.length cx AY Y.length cy AV V.length cv gx EX.length ccx gy EY.length ccy a k xi yk ((atN X Y V xi yk)) ((atD X Y xi yk)) 13 v W' → RQ (QW3 w.heap.size AX X.length cx AY Y.length cy AV V.length cv gx EX.length ccx gy EY.length ccy a k xi yk ((atN X Y V xi yk)) ((atD X Y xi yk))) wr (upd val 13 v) (L.setIfInBounds 13 true) W' := fun v W' hb hq => hR.step hst hb hq
              clear hF hpre hl hR
              go_simp
              exact ⟨_, rfl, hgoal _ _ (Below.refl _ _) rfl⟩
            | 14, ho =>
              simp at ho
              subst ho
              refine step_plain rfl ?_
              have e72 := hF.gave 12 rfl (hpre ⟨12, .data⟩ (by simp) rfl) rfl
              have v12 := hR.2 12 (hpre ⟨12, .data⟩ (by simp) rfl)
              rw [show val 12 = .int .i64 ((atD X Y xi yk)) from v12] at e72
              clear v12
              have hgoal : ∀ v W', Below x.heap.size x W' → QW3 w.heap.size AX X.length cx AY Y.length cy AV V.length cv gx EX.length ccx gy EY.length ccy a k xi yk ((atN X Y V xi yk)) ((atD X Y xi yk)) 14 v W' → RQ (QW3 w.heap.size AX X.length cx AY Y.length cy AV V.length cv gx EX.length ccx gy EY.length ccy a k xi yk ((atN X Y V xi yk)) ((atD X Y xi yk))) wr (upd val 14 v) (L.setIfInBounds 14 true) W' := fun v W' hb hq => hR.step hst hb hq
              clear hF hpre hl hR
              go_simp
              exact ⟨_, rfl, hgoal _ _ (Below.refl _ _) rfl⟩
            | i + 15, ho => simp at ho
          case hend =>
          intro val L b' w4 hF hall hR
          have e := hF.all (by kernel_rfl) hall
          have v13 := hR.2 13 (hall 13 (by decide))
          have v14 := hR.2 14 (hall 14 (by decide))
          have hb4 := hR.1
          have exa4 := cell_keep hb4 exa
          have eyk4 := cell_keep hb4 eyk
          have HB4 := Lib.hid (HBR2.out.trans (hb4.mono HBR2.out.size))
          clear hF hall hR hst HV hb4 exa eyk t0 t1 t2
          subst e
          simp [final, dstOf, List.range, List.range.loop]
          rw [show val 13 = .int .i64 (atN X Y V xi yk) from v13, show val 14 = .int .i64 (atD X Y xi yk) from v14]
          clear v13 v14
          generalize val 0 = v0, val 1 = v1, val 2 = v2, val 3 = v3, val 4 = v4, val 5 = v5, val 6 = v6, val 7 = v7, val 8 = v8, val 9 = v9, val 10 = v10, val 11 = v11, val 12 = v12
          have hgn : Gd (atN X Y V xi yk) (atD X Y xi yk) := HGC.out.gd
          have HLS := Lib.hid (fun W : World => less_any n d (atN X Y V xi yk) (atD X Y xi yk) W HCG2.out hgn)
          have hstep : wstR (cnOf X Y V x1 y1) (cornersL X Y V (EX.take a) EY ++ (EY.take (k + 1)).map (cnOf X Y V xi)) = (if ltF n d (atN X Y V xi yk) (atD X Y xi yk) then cnOf X Y V xi yk else (n, d, px, py)) := by
            rw [List.take_add_one, HYK.out]
            simp only [Option.toList_some, List.map_append, List.map_cons, List.map_nil]
            rw [← List.append_assoc, wstR_snoc, ← HCW2.out]
            rfl
          cases hlt : ltF n d (atN X Y V xi yk) (atD X Y xi yk) with
          | true =>
            rw [hlt, if_pos rfl] at hstep
            have HST := Lib.hid hstep
            have HLT := Lib.hid hlt
            have HGN := Lib.hid hgn
            clear hstep hlt hgn
            go_wp2_with (go_at_call 100; refine Calls.mono (HLS.out _) ?_; rintro e w9 ⟨rfl, rfl⟩; rw [HLT.out])
            go_roundw
            case rel => exact ⟨k + 1, by omega, by go_num, _, HST.out.symm, HGN.out, ⟨rfl, rfl, rfl, rfl⟩, HB4.out⟩
            case measure => simp [intOf]; omega
          | false =>
            rw [hlt, if_neg (by simp)] at hstep
            have HST := Lib.hid hstep
            have HLT := Lib.hid hlt
            clear hstep hlt hgn
            go_wp2_with (go_at_call 100; refine Calls.mono (HLS.out _) ?_; rintro e w9 ⟨rfl, rfl⟩; rw [HLT.out])
            go_roundw
            case rel => exact ⟨k + 1, by omega, by go_num, _, HST.out.symm, HCG2.out, ⟨rfl, rfl, rfl, rfl⟩, HB4.out⟩
            case measure => simp [intOf]; omega
        · obtain rfl : k = EY.length := by omega
          have hrow : (n, d, px, py) = wstR (cnOf X Y V x1 y1) (cornersL X Y V (EX.take (a + 1)) EY) := by
            rw [corn_row HXI.out, HCW2.out, List.take_of_length_le (Nat.le_refl _)]
          have HROW := Lib.hid hrow
          clear hrow hbr2
          go_wp2_with fail
          go_roundw
          case rel => exact ⟨a + 1, by omega, by go_num, _, HROW.out, HCG2.out, ⟨rfl, rfl, rfl, rfl⟩, HBR2.out⟩
          case measure => simp [intOf]; omega
    · obtain rfl : a = EX.length := by omega
      have hfin : c = wstL (cornersL X Y V EX EY) := by
        rw [HCW.out, List.take_of_length_le (Nat.le_refl _), wstL_wstR (cornersL_zero HEX.out.1 HEY.out.1) HG0.out]
      have HFIN := Lib.hid hfin
      have HEND := Lib.hid (HS4.out.b.trans (hbr.mono HS4.out.b.size))
      obtain ⟨n, d, px, py⟩ := c
      clear hfin hbr
      simp only at *
      go_wp2_with fail
      go_ret3
      exact ⟨by rw [← HFIN.out]; rfl, HEND.out⟩

end Go.Proofs.Ytjdahphnmeaolaa

/- The reference's Below. -/
import Derived.Test.YtjdahphnmeaolaaBnd2
import Derived.Test.YtjdahphnmeaolaaCmp
namespace Go.Proofs.Ytjdahphnmeaolaa
open Go.RowKit

theorem results_tmp4 {fn : Func} {t u v z : Tmp} (h : fn.results = #[.tmp t, .tmp u, .tmp v, .tmp z]) (tmps : Array Value) (P : Program) (w : World) :
    (results fn tmps).run P w = .ok (.tuple #[tmps.getD t undef, tmps.getD u undef, tmps.getD v undef, tmps.getD z undef]) w := by
  simp [results, h]

/-- The first of corners whose ceiling is more than a limit. -/
def belL (lim : Int) (l : List Cn) : Option Cn := l.find? fun c => decide (lim < cl c.1 c.2.1)
theorem belL_no {lim : Int} {l : List Cn} {c : Cn} (h : belL lim l = none) (hc : ¬ lim < cl c.1 c.2.1) : belL lim (l ++ [c]) = none := by
  unfold belL at h ⊢
  rw [List.find?_append, h]
  simp [hc]
theorem belL_yes {lim : Int} {l r : List Cn} {c : Cn} (h : belL lim l = none) (hc : lim < cl c.1 c.2.1) : belL lim (l ++ c :: r) = some c := by
  unfold belL at h ⊢
  rw [List.find?_append, h]
  simp [hc]
theorem corners_part {X Y : List Int} {V : List (List Int)} {EX EY : List Int} {a k : Nat} {x y : Int} (hx : EX[a]? = some x) (hy : EY[k]? = some y) :
    ∃ r, cornersL X Y V EX EY = (cornersL X Y V (EX.take a) EY ++ (EY.take k).map (cnOf X Y V x)) ++ cnOf X Y V x y :: r := by
  obtain ⟨ha, rfl⟩ := List.getElem?_eq_some_iff.1 hx
  obtain ⟨hk, rfl⟩ := List.getElem?_eq_some_iff.1 hy
  refine ⟨(EY.drop (k + 1)).map (cnOf X Y V EX[a]) ++ cornersL X Y V (EX.drop (a + 1)) EY, ?_⟩
  have e1 : EX = EX.take a ++ EX[a] :: EX.drop (a + 1) := by simp
  have e2 : EY = EY.take k ++ EY[k] :: EY.drop (k + 1) := by simp
  have e3 : EY.map (cnOf X Y V EX[a]) = (EY.take k).map (cnOf X Y V EX[a]) ++ cnOf X Y V EX[a] EY[k] :: (EY.drop (k + 1)).map (cnOf X Y V EX[a]) := by
    rw [← List.map_cons, ← List.map_append]
    congr 1
  have e4 : cornersL X Y V EX EY = cornersL X Y V (EX.take a) EY ++ (EY.map (cnOf X Y V EX[a]) ++ cornersL X Y V (EX.drop (a + 1)) EY) := by
    generalize EX[a] = x at *
    have e5 : cornersL X Y V EX EY = cornersL X Y V (EX.take a ++ x :: EX.drop (a + 1)) EY := by rw [← e1]
    rw [e5]
    unfold cornersL
    simp
  rw [e4, e3]
  simp
def belS (X Y : List Int) (V : List (List Int)) (x1 x2 y1 y2 lim : Int) : Int × Int × Bool × Int :=
  if cbE X Y V x1 x2 y1 y2 = 0 then (match belL lim (cornersL X Y V (endsL X x1 x2) (endsL Y y1 y2)) with | some c => (c.2.2.1, c.2.2.2, false, 0) | none => (0, 0, true, 0)) else (0, 0, false, cbE X Y V x1 x2 y1 y2)

def QE1 (g : Nat) (AX : Option Addr) (nx : Nat) (cx : Nat) (AY : Option Addr) (ny : Nat) (cy : Nat) (x1 : Int) (x2 : Int) (y1 : Int) (y2 : Int) (EX : List Int) (EY : List Int) (j : Nat) (v : Value) (W : World) : Prop :=
  match j with
  | 0 => v = .pointer (some ⟨g, 0, none⟩)
  | 1 => v = .slice AX nx cx
  | 2 => v = .agg #[.int .i64 x1, .int .i64 x2]
  | 3 => GI EX v W
  | 4 => v = .pointer (some ⟨g, 1, none⟩)
  | 5 => v = .slice AY ny cy
  | 6 => v = .agg #[.int .i64 y1, .int .i64 y2]
  | 7 => GI EY v W
  | 8 => GI EX v W
  | 9 => GI EY v W
  | _ => True
theorem QE1_stays (g : Nat) (AX : Option Addr) (nx : Nat) (cx : Nat) (AY : Option Addr) (ny : Nat) (cy : Nat) (x1 : Int) (x2 : Int) (y1 : Int) (y2 : Int) (EX : List Int) (EY : List Int) : Stays (QE1 g AX nx cx AY ny cy x1 x2 y1 y2 EX EY) := fun j v W W' h hb => by
  unfold QE1 at h ⊢
  split at h <;> first | exact h | exact h.stay hb
def QE3 (g : Nat) (AX : Option Addr) (nx : Nat) (cx : Nat) (AY : Option Addr) (ny : Nat) (cy : Nat) (AV : Option Addr) (nv : Nat) (cv : Nat) (gx : Nat) (lx : Nat) (ccx : Nat) (gy : Nat) (ly : Nat) (ccy : Nat) (i : Nat) (k : Nat) (a : Int) (b : Int) (N : Int) (D : Int) (j : Nat) (v : Value) (_ : World) : Prop :=
  match j with
  | 0 => v = .agg #[.slice AX nx cx, .slice AY ny cy, .slice AV nv cv]
  | 1 => v = .slice (some ⟨gx, 0, none⟩) lx ccx
  | 2 => v = .int .i64 (i : Nat)
  | 3 => v = .pointer (some ⟨gx, i, none⟩)
  | 4 => v = .int .i64 a
  | 5 => v = .slice (some ⟨gy, 0, none⟩) ly ccy
  | 6 => v = .int .i64 (k : Nat)
  | 7 => v = .pointer (some ⟨gy, k, none⟩)
  | 8 => v = .int .i64 b
  | 9 => v = .tuple #[.int .i64 N, .int .i64 D]
  | 10 => v = .tuple #[.int .i64 N, .int .i64 D]
  | 11 => v = .int .i64 N
  | 12 => v = .int .i64 D
  | 13 => v = .int .i64 N
  | 14 => v = .int .i64 D
  | _ => True
theorem QE3_stays (g : Nat) (AX : Option Addr) (nx : Nat) (cx : Nat) (AY : Option Addr) (ny : Nat) (cy : Nat) (AV : Option Addr) (nv : Nat) (cv : Nat) (gx : Nat) (lx : Nat) (ccx : Nat) (gy : Nat) (ly : Nat) (ccy : Nat) (i : Nat) (k : Nat) (a : Int) (b : Int) (N : Int) (D : Int) : Stays (QE3 g AX nx cx AY ny cy AV nv cv gx lx ccx gy ly ccy i k a b N D) := fun j v W W' h _ => by
  unfold QE3 at h ⊢
  split at h <;> exact h

set_option maxRecDepth 100000 in
set_option maxHeartbeats 4000000 in
theorem rbelow_any (AX AY AV : Option Addr) (nx cx ny cy nv cv B : Nat) (X Y : List Int) (V : List (List Int)) (x1 x2 y1 y2 lim : Int) (w : World) (hx : X.length = nx) (hy : Y.length = ny) (hv : V.length = nv) (hnx : nx ≤ maxLen) (hny : ny ≤ maxLen) (hnv : nv ≤ maxLen) (hnr : ∀ r ∈ V, r.length ≤ maxLen)
    (hB : B ≤ w.heap.size) (h : TB w B AX AY AV X Y V) :
    Calls Try.prog 54 #[.agg #[.slice AX nx cx, .slice AY ny cy, .slice AV nv cv], .agg #[.int .i64 x1, .int .i64 x2], .agg #[.int .i64 y1, .int .i64 y2], .int .i64 lim] w fun e w' =>
      e = .returned (.tuple #[.int .i64 (belS X Y V x1 x2 y1 y2 lim).1, .int .i64 (belS X Y V x1 x2 y1 y2 lim).2.1, .bool (belS X Y V x1 x2 y1 y2 lim).2.2.1, .int .i64 (belS X Y V x1 x2 y1 y2 lim).2.2.2]) ∧ Below w.heap.size w w' := by
  subst hx hy hv
  have HT := Lib.hid h
  have HCB := Lib.hid (fun (W : World) (hW : Below w.heap.size w W) => checkBound_any AX AY AV _ cx _ cy _ cv B X Y V x1 x2 y1 y2 W rfl rfl rfl hnx hny hnv hnr (by have := hW.size; omega) (h.below (hW.mono hB)))
  have S0 := S3.start w AX AY AV X.length cx Y.length cy V.length cv x1 x2 y1 y2 27 37 37
  have HS0 := Lib.hid S0
  clear S0
  by_cases hc : cbE X Y V x1 x2 y1 y2 = 0
  rotate_left
  · rw [show belS X Y V x1 x2 y1 y2 lim = (0, 0, false, cbE X Y V x1 x2 y1 y2) by unfold belS; rw [if_neg hc]]
    generalize cbE X Y V x1 x2 y1 y2 = c at *
    have hc' : (c != 0) = true := by rw [bne_iff_ne]; exact hc
    clear hc h
    go_enter Try.func54, Try.ntmps54
    go_wp2_with (go_at_call 63; refine Calls.mono (HCB.out _ (by go_grown)) ?_; rintro e w1 ⟨rfl, hb1⟩; have HB1 := Lib.hid (HS0.out.next hb1).b; clear hb1)
    (try simp only [Exit.inBlock, Exit.then]); refine bodyPost_ret (results_tmp4 rfl _ _ _) rfl ?_
    exact ⟨rfl, HB1.out⟩
  obtain ⟨hct, _, _, ox1, ox2, oy1, oy2⟩ := cbE_ok hc
  obtain ⟨l1, l2, l3, l4⟩ := ctB_len hct
  have hbS : belS X Y V x1 x2 y1 y2 lim = (match belL lim (cornersL X Y V (endsL X x1 x2) (endsL Y y1 y2)) with | some c => (c.2.2.1, c.2.2.2, false, 0) | none => (0, 0, true, 0)) := by unfold belS; rw [if_pos hc]
  generalize belS X Y V x1 x2 y1 y2 lim = S at *
  obtain ⟨s1, s2, s3, s4⟩ := S
  have HC := Lib.hid hc
  have HCX0 := Lib.hid (fun (W : World) (hW : Below w.heap.size w W) => rcorners_any AX _ cx B X x1 x2 W rfl (by omega) (by have := hW.size; omega) (h.x.below (hW.mono hB)))
  have HCY0 := Lib.hid (fun (W : World) (hW : Below w.heap.size w W) => rcorners_any AY _ cy B Y y1 y2 W rfl (by omega) (by have := hW.size; omega) (h.y.below (hW.mono hB)))
  have HV0 := Lib.hid (fun (W : World) (hW : Below w.heap.size w W) (x y : Int) (hx : On X x) (hy : On Y y) => rvalue_any AX AY AV _ cx _ cy _ cv B X Y V x y W rfl rfl rfl (by have := hW.size; omega) (h.below (hW.mono hB)) hct hx hy)
  have hexn := endsL_len X x1 x2
  have heyn := endsL_len Y y1 y2
  have hexo := endsL_on ox1 ox2
  have heyo := endsL_on oy1 oy2
  have HG := Lib.hid (fun (x y : Int) (hx : On X x) (hy : On Y y) => good_of (V := V) hct hx hy)
  generalize endsL X x1 x2 = EX at *
  generalize endsL Y y1 y2 = EY at *
  have hel1 : EX.length ≤ 14 := by omega
  have hel2 : EY.length ≤ 14 := by omega
  have HEX := Lib.hid hexo
  have HEY := Lib.hid heyo
  have HBS := Lib.hid hbS
  clear hexn heyn hexo heyo hct ox1 ox2 oy1 oy2 h hc hbS
  go_enter Try.func54, Try.ntmps54
  go_upto_region 4 with (go_at_call 63; refine Calls.mono (HCB.out _ (by go_grown)) ?_; rintro e w1 ⟨rfl, hb1⟩; rw [HC.out])
  have S1 := HS0.out.next hb1
  have HS1 := Lib.hid S1
  obtain ⟨t0, t1, t2, a0, a1, b0, b1, l9, _⟩ := S1
  clear hb1 HS0 HCB HC
  have HCX := Lib.hid (fun (W : World) (hW : Below w1.heap.size w1 W) => HCX0.out W (HS1.out.b.trans (hW.mono HS1.out.b.size)))
  have HCY := Lib.hid (fun (W : World) (hW : Below w1.heap.size w1 W) => HCY0.out W (HS1.out.b.trans (hW.mono HS1.out.b.size)))
  have hst := QE1_stays w.heap.size AX X.length cx AY Y.length cy x1 x2 y1 y2 EX EY
  clear HCX0 HCY0
  refine wpIn_wide.1 (region_inv2 (n := 9) (by kernel_rfl) (RQ (QE1 w.heap.size AX X.length cx AY Y.length cy x1 x2 y1 y2 EX EY) w1) (by kernel_rfl) rfl (RQ.start _ _ _) ?hstep ?hend)
  case hstep =>
    intro i' o ho val L b' x hF hR hpre hl
    match i', ho with
    | 0, ho =>
      simp at ho
      subst ho
      refine step_plain rfl ?_
      have e4 := hF.was 4 (by kernel_rfl) rfl
      have hgoal : ∀ v W', Below x.heap.size x W' → QE1 w.heap.size AX X.length cx AY Y.length cy x1 x2 y1 y2 EX EY 0 v W' → RQ (QE1 w.heap.size AX X.length cx AY Y.length cy x1 x2 y1 y2 EX EY) w1 (upd val 0 v) (L.setIfInBounds 0 true) W' := fun v W' hb hq => hR.step hst hb hq
      clear hF hpre hl hR
      go_simp
      exact ⟨_, rfl, hgoal _ _ (Below.refl _ _) rfl⟩
    | 1, ho =>
      simp at ho
      subst ho
      refine step_plain rfl ?_
      have e26 := hF.gave 0 rfl (hpre ⟨0, .data⟩ (by simp) rfl) rfl
      have v0 := hR.2 0 (hpre ⟨0, .data⟩ (by simp) rfl)
      rw [show val 0 = .pointer (some ⟨w.heap.size, 0, none⟩) from v0] at e26
      clear v0
      have hgoal : ∀ v W', Below x.heap.size x W' → QE1 w.heap.size AX X.length cx AY Y.length cy x1 x2 y1 y2 EX EY 1 v W' → RQ (QE1 w.heap.size AX X.length cx AY Y.length cy x1 x2 y1 y2 EX EY) w1 (upd val 1 v) (L.setIfInBounds 1 true) W' := fun v W' hb hq => hR.step hst hb hq
      have q0 := cell_keep hR.1 t0
      have q1 := cell_keep hR.1 t1
      have q2 := cell_keep hR.1 a0
      have q3 := cell_keep hR.1 a1
      have q4 := cell_keep hR.1 b0
      have q5 := cell_keep hR.1 b1
      clear hF hpre hl hR
      go_simp
      exact ⟨_, rfl, hgoal _ _ (Below.refl _ _) rfl⟩
    | 2, ho =>
      simp at ho
      subst ho
      refine step_plain rfl ?_
      have e5 := hF.was 5 (by kernel_rfl) rfl
      have hgoal : ∀ v W', Below x.heap.size x W' → QE1 w.heap.size AX X.length cx AY Y.length cy x1 x2 y1 y2 EX EY 2 v W' → RQ (QE1 w.heap.size AX X.length cx AY Y.length cy x1 x2 y1 y2 EX EY) w1 (upd val 2 v) (L.setIfInBounds 2 true) W' := fun v W' hb hq => hR.step hst hb hq
      have q0 := cell_keep hR.1 t0
      have q1 := cell_keep hR.1 t1
      have q2 := cell_keep hR.1 a0
      have q3 := cell_keep hR.1 a1
      have q4 := cell_keep hR.1 b0
      have q5 := cell_keep hR.1 b1
      clear hF hpre hl hR
      go_simp
      exact ⟨_, rfl, hgoal _ _ (Below.refl _ _) rfl⟩
    | 3, ho =>
      simp at ho
      subst ho
      refine step_plain rfl ?_
      have e27 := hF.gave 1 rfl (hpre ⟨1, .data⟩ (by simp) rfl) rfl
      have v1 := hR.2 1 (hpre ⟨1, .data⟩ (by simp) rfl)
      rw [show val 1 = .slice AX X.length cx from v1] at e27
      clear v1
      have e28 := hF.gave 2 rfl (hpre ⟨2, .data⟩ (by simp) rfl) rfl
      have v2 := hR.2 2 (hpre ⟨2, .data⟩ (by simp) rfl)
      rw [show val 2 = .agg #[.int .i64 x1, .int .i64 x2] from v2] at e28
      clear v2
      have hgoal : ∀ v W', Below x.heap.size x W' → QE1 w.heap.size AX X.length cx AY Y.length cy x1 x2 y1 y2 EX EY 3 v W' → RQ (QE1 w.heap.size AX X.length cx AY Y.length cy x1 x2 y1 y2 EX EY) w1 (upd val 3 v) (L.setIfInBounds 3 true) W' := fun v W' hb hq => hR.step hst hb hq
      have q0 := cell_keep hR.1 t0
      have q1 := cell_keep hR.1 t1
      have q2 := cell_keep hR.1 a0
      have q3 := cell_keep hR.1 a1
      have q4 := cell_keep hR.1 b0
      have q5 := cell_keep hR.1 b1
      have hM := Lib.hid hR.1
      clear hF hpre hl hR
      go_simp
      refine ⟨trivial, ?_⟩
      refine CallsIn.mono (callsIn_wide.2 (HCX.out _ hM.out)) ?_
      rintro e y9 ⟨g9, c9, rfl, _, hri9, hb9⟩
      exact ⟨_, rfl, hgoal _ _ hb9 ⟨g9, c9, rfl, hri9⟩⟩
    | 4, ho =>
      simp at ho
      subst ho
      refine step_plain rfl ?_
      have e4 := hF.was 4 (by kernel_rfl) rfl
      have hgoal : ∀ v W', Below x.heap.size x W' → QE1 w.heap.size AX X.length cx AY Y.length cy x1 x2 y1 y2 EX EY 4 v W' → RQ (QE1 w.heap.size AX X.length cx AY Y.length cy x1 x2 y1 y2 EX EY) w1 (upd val 4 v) (L.setIfInBounds 4 true) W' := fun v W' hb hq => hR.step hst hb hq
      clear hF hpre hl hR
      go_simp
      exact ⟨_, rfl, hgoal _ _ (Below.refl _ _) rfl⟩
    | 5, ho =>
      simp at ho
      subst ho
      refine step_plain rfl ?_
      have e30 := hF.gave 4 rfl (hpre ⟨4, .data⟩ (by simp) rfl) rfl
      have v4 := hR.2 4 (hpre ⟨4, .data⟩ (by simp) rfl)
      rw [show val 4 = .pointer (some ⟨w.heap.size, 1, none⟩) from v4] at e30
      clear v4
      have hgoal : ∀ v W', Below x.heap.size x W' → QE1 w.heap.size AX X.length cx AY Y.length cy x1 x2 y1 y2 EX EY 5 v W' → RQ (QE1 w.heap.size AX X.length cx AY Y.length cy x1 x2 y1 y2 EX EY) w1 (upd val 5 v) (L.setIfInBounds 5 true) W' := fun v W' hb hq => hR.step hst hb hq
      have q0 := cell_keep hR.1 t0
      have q1 := cell_keep hR.1 t1
      have q2 := cell_keep hR.1 a0
      have q3 := cell_keep hR.1 a1
      have q4 := cell_keep hR.1 b0
      have q5 := cell_keep hR.1 b1
      clear hF hpre hl hR
      go_simp
      exact ⟨_, rfl, hgoal _ _ (Below.refl _ _) rfl⟩
    | 6, ho =>
      simp at ho
      subst ho
      refine step_plain rfl ?_
      have e6 := hF.was 6 (by kernel_rfl) rfl
      have hgoal : ∀ v W', Below x.heap.size x W' → QE1 w.heap.size AX X.length cx AY Y.length cy x1 x2 y1 y2 EX EY 6 v W' → RQ (QE1 w.heap.size AX X.length cx AY Y.length cy x1 x2 y1 y2 EX EY) w1 (upd val 6 v) (L.setIfInBounds 6 true) W' := fun v W' hb hq => hR.step hst hb hq
      have q0 := cell_keep hR.1 t0
      have q1 := cell_keep hR.1 t1
      have q2 := cell_keep hR.1 a0
      have q3 := cell_keep hR.1 a1
      have q4 := cell_keep hR.1 b0
      have q5 := cell_keep hR.1 b1
      clear hF hpre hl hR
      go_simp
      exact ⟨_, rfl, hgoal _ _ (Below.refl _ _) rfl⟩
    | 7, ho =>
      simp at ho
      subst ho
      refine step_plain rfl ?_
      have e31 := hF.gave 5 rfl (hpre ⟨5, .data⟩ (by simp) rfl) rfl
      have v5 := hR.2 5 (hpre ⟨5, .data⟩ (by simp) rfl)
      rw [show val 5 = .slice AY Y.length cy from v5] at e31
      clear v5
      have e32 := hF.gave 6 rfl (hpre ⟨6, .data⟩ (by simp) rfl) rfl
      have v6 := hR.2 6 (hpre ⟨6, .data⟩ (by simp) rfl)
      rw [show val 6 = .agg #[.int .i64 y1, .int .i64 y2] from v6] at e32
      clear v6
      have hgoal : ∀ v W', Below x.heap.size x W' → QE1 w.heap.size AX X.length cx AY Y.length cy x1 x2 y1 y2 EX EY 7 v W' → RQ (QE1 w.heap.size AX X.length cx AY Y.length cy x1 x2 y1 y2 EX EY) w1 (upd val 7 v) (L.setIfInBounds 7 true) W' := fun v W' hb hq => hR.step hst hb hq
      have q0 := cell_keep hR.1 t0
      have q1 := cell_keep hR.1 t1
      have q2 := cell_keep hR.1 a0
      have q3 := cell_keep hR.1 a1
      have q4 := cell_keep hR.1 b0
      have q5 := cell_keep hR.1 b1
      have hM := Lib.hid hR.1
      clear hF hpre hl hR
      go_simp
      refine ⟨trivial, ?_⟩
      refine CallsIn.mono (callsIn_wide.2 (HCY.out _ hM.out)) ?_
      rintro e y9 ⟨g9, c9, rfl, _, hri9, hb9⟩
      exact ⟨_, rfl, hgoal _ _ hb9 ⟨g9, c9, rfl, hri9⟩⟩
    | 8, ho =>
      simp at ho
      subst ho
      refine step_plain rfl ?_
      have e29 := hF.gave 3 rfl (hpre ⟨3, .data⟩ (by simp) rfl) rfl
      have v3 := hR.2 3 (hpre ⟨3, .data⟩ (by simp) rfl)
      have hgoal : ∀ v W', Below x.heap.size x W' → QE1 w.heap.size AX X.length cx AY Y.length cy x1 x2 y1 y2 EX EY 8 v W' → RQ (QE1 w.heap.size AX X.length cx AY Y.length cy x1 x2 y1 y2 EX EY) w1 (upd val 8 v) (L.setIfInBounds 8 true) W' := fun v W' hb hq => hR.step hst hb hq
      clear hF hpre hl hR
      go_simp
      exact ⟨_, rfl, hgoal _ _ (Below.refl _ _) v3⟩
    | 9, ho =>
      simp at ho
      subst ho
      refine step_plain rfl ?_
      have e33 := hF.gave 7 rfl (hpre ⟨7, .data⟩ (by simp) rfl) rfl
      have v7 := hR.2 7 (hpre ⟨7, .data⟩ (by simp) rfl)
      have hgoal : ∀ v W', Below x.heap.size x W' → QE1 w.heap.size AX X.length cx AY Y.length cy x1 x2 y1 y2 EX EY 9 v W' → RQ (QE1 w.heap.size AX X.length cx AY Y.length cy x1 x2 y1 y2 EX EY) w1 (upd val 9 v) (L.setIfInBounds 9 true) W' := fun v W' hb hq => hR.step hst hb hq
      clear hF hpre hl hR
      go_simp
      exact ⟨_, rfl, hgoal _ _ (Below.refl _ _) v7⟩
    | i + 10, ho => simp at ho
  case hend =>
  intro val L b' w2 hF hall hR
  have e := hF.all (by kernel_rfl) hall
  obtain ⟨gx, ccx, e8, hrx⟩ := hR.2 8 (hall 8 (by decide))
  obtain ⟨gy, ccy, e9, hry⟩ := hR.2 9 (hall 9 (by decide))
  have hb2 := hR.1
  have S2 := HS1.out.next hb2
  have HS2 := Lib.hid S2
  have HRX := Lib.hid hrx
  have HRY := Lib.hid hry
  clear hF hall hR hst HCX HCY hb2 hrx hry t0 t1 t2 a0 a1 b0 b1 l9 HS1
  obtain ⟨t0, t1, t2, a0, a1, b0, b1, l9, _⟩ := S2
  subst e
  simp [final, dstOf, List.range, List.range.loop]
  rw [e8, e9]
  clear e8 e9
  generalize val 0 = v0, val 1 = v1, val 2 = v2, val 3 = v3, val 4 = v4, val 5 = v5, val 6 = v6, val 7 = v7
  go_wp2_with fail
  go_loopw [15, 16, 17, 18] (fun i _ _ _ wr => ∃ a : Nat, a ≤ EX.length ∧ i = .int .i64 a ∧ belL lim (cornersL X Y V (EX.take a) EY) = none ∧ Below w2.heap.size w2 wr) (fun i _ _ _ _ => EX.length - (intOf i).toNat)
  case atStart => exact ⟨0, by omega, rfl, by simp [belL, cornersL], Below.refl _ _⟩
  case round =>
    obtain ⟨a, ha, rfl, hcw, hbr⟩ := hrel
    have HBR := Lib.hid hbr
    have HCW := Lib.hid hcw
    clear hcw
    by_cases hat : a < EX.length
    · obtain ⟨xi, hxi⟩ : ∃ xi, EX[a]? = some xi := ⟨_, List.getElem?_eq_getElem hat⟩
      have HXI := Lib.hid hxi
      have ha0 : (a : Int) < EX.length := by omega
      clear hxi hbr
      go_wp2_with fail
      go_loopw [16, 17, 18] (fun j _ _ wr => ∃ k : Nat, k ≤ EY.length ∧ j = .int .i64 k ∧ belL lim (cornersL X Y V (EX.take a) EY ++ (EY.take k).map (cnOf X Y V xi)) = none ∧ Below w2.heap.size w2 wr) (fun j _ _ _ => EY.length - (intOf j).toNat)
      case atStart => exact ⟨0, by omega, rfl, by simpa using HCW.out, HBR.out⟩
      case round =>
        obtain ⟨k, hk, rfl, hcw, hbr2⟩ := hrel
        have HBR2 := Lib.hid hbr2
        have HCW2 := Lib.hid hcw
        clear hcw
        by_cases hkt : k < EY.length
        · obtain ⟨yk, hyk⟩ : ∃ yk, EY[k]? = some yk := ⟨_, List.getElem?_eq_getElem hkt⟩
          have HYK := Lib.hid hyk
          have hk0 : (k : Int) < EY.length := by omega
          have hox := HEX.out xi (List.mem_of_getElem? HXI.out)
          have hoy := HEY.out yk (List.mem_of_getElem? hyk)
          have hwb := HS2.out.b.trans (hbr2.mono HS2.out.b.size)
          have HWB := Lib.hid hwb
          have HV := Lib.hid (fun (W : World) (hW : Below wr.heap.size wr W) => HV0.out W (hwb.trans (hW.mono hwb.size)) xi yk hox hoy)
          obtain ⟨gd1, gd2, gd3, gd4⟩ := HG.out xi yk hox hoy
          simp only [cnOf] at gd1 gd2 gd3 gd4
          have HCE := Lib.hid (fun W : World => rceil_wide (atN X Y V xi yk) (atD X Y xi yk) W gd1 (by omega) (by omega) (by omega))
          have exa : wr.cell? ⟨gx, a, none⟩ = some (.int .i64 xi) := cell_keep hbr2 (HRX.out.nth HXI.out)
          have eyk : wr.cell? ⟨gy, k, none⟩ = some (.int .i64 yk) := cell_keep hbr2 (HRY.out.nth hyk)
          have t0 := cell_keep hbr2 t0
          have t1 := cell_keep hbr2 t1
          have t2 := cell_keep hbr2 t2
          clear hyk hox hoy hbr2 hwb gd1 gd2 gd3 gd4
          go_upto_region 11 with fail
          have hst := QE3_stays w.heap.size AX X.length cx AY Y.length cy AV V.length cv gx EX.length ccx gy EY.length ccy a k xi yk ((atN X Y V xi yk)) ((atD X Y xi yk))
          refine wpIn_wide.1 (region_inv2 (n := 9) (by kernel_rfl) (RQ (QE3 w.heap.size AX X.length cx AY Y.length cy AV V.length cv gx EX.length ccx gy EY.length ccy a k xi yk ((atN X Y V xi yk)) ((atD X Y xi yk))) wr) (by kernel_rfl) rfl (RQ.start _ _ _) ?hstep ?hend)
          case hstep =>
            intro i' o ho val L b' x hF hR hpre hl
            match i', ho with
            | 0, ho =>
              simp at ho
              subst ho
              refine step_plain rfl ?_
              have e4 := hF.was 4 (by kernel_rfl) rfl
              have hgoal : ∀ v W', Below x.heap.size x W' → QE3 w.heap.size AX X.length cx AY Y.length cy AV V.length cv gx EX.length ccx gy EY.length ccy a k xi yk ((atN X Y V xi yk)) ((atD X Y xi yk)) 0 v W' → RQ (QE3 w.heap.size AX X.length cx AY Y.length cy AV V.length cv gx EX.length ccx gy EY.length ccy a k xi yk ((atN X Y V xi yk)) ((atD X Y xi yk))) wr (upd val 0 v) (L.setIfInBounds 0 true) W' := fun v W' hb hq => hR.step hst hb hq
              have q0 := cell_keep hR.1 t0
              have q1 := cell_keep hR.1 t1
              have q2 := cell_keep hR.1 t2
              have q3 := cell_keep hR.1 exa
              have q4 := cell_keep hR.1 eyk
              clear hF hpre hl hR
              go_simp
              exact ⟨_, rfl, hgoal _ _ (Below.refl _ _) rfl⟩
            | 1, ho =>
              simp at ho
              subst ho
              refine step_plain rfl ?_
              have e13 := hF.was 13 (by kernel_rfl) rfl
              have hgoal : ∀ v W', Below x.heap.size x W' → QE3 w.heap.size AX X.length cx AY Y.length cy AV V.length cv gx EX.length ccx gy EY.length ccy a k xi yk ((atN X Y V xi yk)) ((atD X Y xi yk)) 1 v W' → RQ (QE3 w.heap.size AX X.length cx AY Y.length cy AV V.length cv gx EX.length ccx gy EY.length ccy a k xi yk ((atN X Y V xi yk)) ((atD X Y xi yk))) wr (upd val 1 v) (L.setIfInBounds 1 true) W' := fun v W' hb hq => hR.step hst hb hq
              clear hF hpre hl hR
              go_simp
              exact ⟨_, rfl, hgoal _ _ (Below.refl _ _) rfl⟩
            | 2, ho =>
              simp at ho
              subst ho
              refine step_plain rfl ?_
              have e15 := hF.was 15 (by kernel_rfl) rfl
              have hgoal : ∀ v W', Below x.heap.size x W' → QE3 w.heap.size AX X.length cx AY Y.length cy AV V.length cv gx EX.length ccx gy EY.length ccy a k xi yk ((atN X Y V xi yk)) ((atD X Y xi yk)) 2 v W' → RQ (QE3 w.heap.size AX X.length cx AY Y.length cy AV V.length cv gx EX.length ccx gy EY.length ccy a k xi yk ((atN X Y V xi yk)) ((atD X Y xi yk))) wr (upd val 2 v) (L.setIfInBounds 2 true) W' := fun v W' hb hq => hR.step hst hb hq
              clear hF hpre hl hR
              go_simp
              exact ⟨_, rfl, hgoal _ _ (Below.refl _ _) rfl⟩
            | 3, ho =>
              simp at ho
              subst ho
              refine step_plain rfl ?_
              have e48 := hF.gave 1 rfl (hpre ⟨1, .data⟩ (by simp) rfl) rfl
              have v1 := hR.2 1 (hpre ⟨1, .data⟩ (by simp) rfl)
              rw [show val 1 = .slice (some ⟨gx, 0, none⟩) EX.length ccx from v1] at e48
              clear v1
              have e49 := hF.gave 2 rfl (hpre ⟨2, .data⟩ (by simp) rfl) rfl
              have v2 := hR.2 2 (hpre ⟨2, .data⟩ (by simp) rfl)
              rw [show val 2 = .int .i64 (a : Nat) from v2] at e49
              clear v2
              have hgoal : ∀ v W', Below x.heap.size x W' → QE3 w.heap.size AX X.length cx AY Y.length cy AV V.length cv gx EX.length ccx gy EY.length ccy a k xi yk ((atN X Y V xi yk)) ((atD X Y xi yk)) 3 v W' → RQ (QE3 w.heap.size AX X.length cx AY Y.length cy AV V.length cv gx EX.length ccx gy EY.length ccy a k xi yk ((atN X Y V xi yk)) ((atD X Y xi yk))) wr (upd val 3 v) (L.setIfInBounds 3 true) W' := fun v W' hb hq => hR.step hst hb hq
              clear hF hpre hl hR
              go_simp
              exact ⟨_, rfl, hgoal _ _ (Below.refl _ _) rfl⟩
            | 4, ho =>
              simp at ho
              subst ho
              refine step_plain rfl ?_
              have e50 := hF.gave 3 rfl (hpre ⟨3, .data⟩ (by simp) rfl) rfl
              have v3 := hR.2 3 (hpre ⟨3, .data⟩ (by simp) rfl)
              rw [show val 3 = .pointer (some ⟨gx, a, none⟩) from v3] at e50
              clear v3
              have hgoal : ∀ v W', Below x.heap.size x W' → QE3 w.heap.size AX X.length cx AY Y.length cy AV V.length cv gx EX.length ccx gy EY.length ccy a k xi yk ((atN X Y V xi yk)) ((atD X Y xi yk)) 4 v W' → RQ (QE3 w.heap.size AX X.length cx AY Y.length cy AV V.length cv gx EX.length ccx gy EY.length ccy a k xi yk ((atN X Y V xi yk)) ((atD X Y xi yk))) wr (upd val 4 v) (L.setIfInBounds 4 true) W' := fun v W' hb hq => hR.step hst hb hq
              have q0 := cell_keep hR.1 t0
              have q1 := cell_keep hR.1 t1
              have q2 := cell_keep hR.1 t2
              have q3 := cell_keep hR.1 exa
              have q4 := cell_keep hR.1 eyk
              clear hF hpre hl hR
              go_simp
              exact ⟨_, rfl, hgoal _ _ (Below.refl _ _) rfl⟩
            | 5, ho =>
              simp at ho
              subst ho
              refine step_plain rfl ?_
              have e14 := hF.was 14 (by kernel_rfl) rfl
              have hgoal : ∀ v W', Below x.heap.size x W' → QE3 w.heap.size AX X.length cx AY Y.length cy AV V.length cv gx EX.length ccx gy EY.length ccy a k xi yk ((atN X Y V xi yk)) ((atD X Y xi yk)) 5 v W' → RQ (QE3 w.heap.size AX X.length cx AY Y.length cy AV V.length cv gx EX.length ccx gy EY.length ccy a k xi yk ((atN X Y V xi yk)) ((atD X Y xi yk))) wr (upd val 5 v) (L.setIfInBounds 5 true) W' := fun v W' hb hq => hR.step hst hb hq
              clear hF hpre hl hR
              go_simp
              exact ⟨_, rfl, hgoal _ _ (Below.refl _ _) rfl⟩
            | 6, ho =>
              simp at ho
              subst ho
              refine step_plain rfl ?_
              have e16 := hF.was 16 (by kernel_rfl) rfl
              have hgoal : ∀ v W', Below x.heap.size x W' → QE3 w.heap.size AX X.length cx AY Y.length cy AV V.length cv gx EX.length ccx gy EY.length ccy a k xi yk ((atN X Y V xi yk)) ((atD X Y xi yk)) 6 v W' → RQ (QE3 w.heap.size AX X.length cx AY Y.length cy AV V.length cv gx EX.length ccx gy EY.length ccy a k xi yk ((atN X Y V xi yk)) ((atD X Y xi yk))) wr (upd val 6 v) (L.setIfInBounds 6 true) W' := fun v W' hb hq => hR.step hst hb hq
              clear hF hpre hl hR
              go_simp
              exact ⟨_, rfl, hgoal _ _ (Below.refl _ _) rfl⟩
            | 7, ho =>
              simp at ho
              subst ho
              refine step_plain rfl ?_
              have e52 := hF.gave 5 rfl (hpre ⟨5, .data⟩ (by simp) rfl) rfl
              have v5 := hR.2 5 (hpre ⟨5, .data⟩ (by simp) rfl)
              rw [show val 5 = .slice (some ⟨gy, 0, none⟩) EY.length ccy from v5] at e52
              clear v5
              have e53 := hF.gave 6 rfl (hpre ⟨6, .data⟩ (by simp) rfl) rfl
              have v6 := hR.2 6 (hpre ⟨6, .data⟩ (by simp) rfl)
              rw [show val 6 = .int .i64 (k : Nat) from v6] at e53
              clear v6
              have hgoal : ∀ v W', Below x.heap.size x W' → QE3 w.heap.size AX X.length cx AY Y.length cy AV V.length cv gx EX.length ccx gy EY.length ccy a k xi yk ((atN X Y V xi yk)) ((atD X Y xi yk)) 7 v W' → RQ (QE3 w.heap.size AX X.length cx AY Y.length cy AV V.length cv gx EX.length ccx gy EY.length ccy a k xi yk ((atN X Y V xi yk)) ((atD X Y xi yk))) wr (upd val 7 v) (L.setIfInBounds 7 true) W' := fun v W' hb hq => hR.step hst hb hq
              clear hF hpre hl hR
              go_simp
              exact ⟨_, rfl, hgoal _ _ (Below.refl _ _) rfl⟩
            | 8, ho =>
              simp at ho
              subst ho
              refine step_plain rfl ?_
              have e54 := hF.gave 7 rfl (hpre ⟨7, .data⟩ (by simp) rfl) rfl
              have v7 := hR.2 7 (hpre ⟨7, .data⟩ (by simp) rfl)
              rw [show val 7 = .pointer (some ⟨gy, k, none⟩) from v7] at e54
              clear v7
              have hgoal : ∀ v W', Below x.heap.size x W' → QE3 w.heap.size AX X.length cx AY Y.length cy AV V.length cv gx EX.length ccx gy EY.length ccy a k xi yk ((atN X Y V xi yk)) ((atD X Y xi yk)) 8 v W' → RQ (QE3 w.heap.size AX X.length cx AY Y.length cy AV V.length cv gx EX.length ccx gy EY.length ccy a k xi yk ((atN X Y V xi yk)) ((atD X Y xi yk))) wr (upd val 8 v) (L.setIfInBounds 8 true) W' := fun v W' hb hq => hR.step hst hb hq
              have q0 := cell_keep hR.1 t0
              have q1 := cell_keep hR.1 t1
              have q2 := cell_keep hR.1 t2
              have q3 := cell_keep hR.1 exa
              have q4 := cell_keep hR.1 eyk
              clear hF hpre hl hR
              go_simp
              exact ⟨_, rfl, hgoal _ _ (Below.refl _ _) rfl⟩
            | 9, ho =>
              simp at ho
              subst ho
              refine step_plain rfl ?_
              have e47 := hF.gave 0 rfl (hpre ⟨0, .data⟩ (by simp) rfl) rfl
              have v0 := hR.2 0 (hpre ⟨0, .data⟩ (by simp) rfl)
              rw [show val 0 = .agg #[.slice AX X.length cx, .slice AY Y.length cy, .slice AV V.length cv] from v0] at e47
              clear v0
              have e51 := hF.gave 4 rfl (hpre ⟨4, .data⟩ (by simp) rfl) rfl
              have v4 := hR.2 4 (hpre ⟨4, .data⟩ (by simp) rfl)
              rw [show val 4 = .int .i64 xi from v4] at e51
              clear v4
              have e55 := hF.gave 8 rfl (hpre ⟨8, .data⟩ (by simp) rfl) rfl
              have v8 := hR.2 8 (hpre ⟨8, .data⟩ (by simp) rfl)
              rw [show val 8 = .int .i64 yk from v8] at e55
              clear v8
              have hgoal : ∀ v W', Below x.heap.size x W' → QE3 w.heap.size AX X.length cx AY Y.length cy AV V.length cv gx EX.length ccx gy EY.length ccy a k xi yk ((atN X Y V xi yk)) ((atD X Y xi yk)) 9 v W' → RQ (QE3 w.heap.size AX X.length cx AY Y.length cy AV V.length cv gx EX.length ccx gy EY.length ccy a k xi yk ((atN X Y V xi yk)) ((atD X Y xi yk))) wr (upd val 9 v) (L.setIfInBounds 9 true) W' := fun v W' hb hq => hR.step hst hb hq
              have q0 := cell_keep hR.1 t0
              have q1 := cell_keep hR.1 t1
              have q2 := cell_keep hR.1 t2
              have q3 := cell_keep hR.1 exa
              have q4 := cell_keep hR.1 eyk
              have hM := Lib.hid hR.1
              clear hF hpre hl hR
              go_simp
              refine ⟨trivial, ?_⟩
              refine CallsIn.mono (callsIn_wide.2 (HV.out _ hM.out)) ?_
              rintro e y9 ⟨rfl, hb9⟩
              exact ⟨_, rfl, hgoal _ _ hb9 rfl⟩
            | 10, ho =>
              simp at ho
              subst ho
              refine step_plain rfl ?_
              have e56 := hF.gave 9 rfl (hpre ⟨9, .data⟩ (by simp) rfl) rfl
              have v9 := hR.2 9 (hpre ⟨9, .data⟩ (by simp) rfl)
              rw [show val 9 = .tuple #[.int .i64 ((atN X Y V xi yk)), .int .i64 ((atD X Y xi yk))] from v9] at e56
              clear v9
              have hgoal : ∀ v W', Below x.heap.size x W' → QE3 w.heap.size AX X.length cx AY Y.length cy AV V.length cv gx EX.length ccx gy EY.length ccy a k xi yk ((atN X Y V xi yk)) ((atD X Y xi yk)) 10 v W' → RQ (QE3 w.heap.size AX X.length cx AY Y.length cy AV V.length cv gx EX.length ccx gy EY.length ccy a k xi yk ((atN X Y V xi yk)) ((atD X Y xi yk))) wr (upd val 10 v) (L.setIfInBounds 10 true) W' := fun v W' hb hq => hR.step hst hb hq
              clear hF hpre hl hR
              go_simp
              exact ⟨_, rfl, hgoal _ _ (Below.refl _ _) rfl⟩
            | 11, ho =>
              simp at ho
              subst ho
              refine step_plain rfl ?_
              have e46 := hF.gave 10 rfl (hpre ⟨10, .data⟩ (by simp) rfl) rfl
              have v10 := hR.2 10 (hpre ⟨10, .data⟩ (by simp) rfl)
              rw [show val 10 = .tuple #[.int .i64 ((atN X Y V xi yk)), .int .i64 ((atD X Y xi yk))] from v10] at e46
              clear v10
              have hgoal : ∀ v W', Below x.heap.size x W' → QE3 w.heap.size AX X.length cx AY Y.length cy AV V.length cv gx EX.length ccx gy EY.length ccy a k xi yk ((atN X Y V xi yk)) ((atD X Y xi yk)) 11 v W' → RQ (QE3 w.heap.size AX X.length cx AY Y.length cy AV V.length cv gx EX.length ccx gy EY.length ccy a k xi yk ((atN X Y V xi yk)) ((atD X Y xi yk))) wr (upd val 11 v) (L.setIfInBounds 11 true) W' := fun v W' hb hq => hR.step hst hb hq
              clear hF hpre hl hR
              go_simp
              exact ⟨_, rfl, hgoal _ _ (Below.refl _ _) rfl⟩
            | 12, ho =>
              simp at ho
              subst ho
              refine step_plain rfl ?_
              have e46 := hF.gave 10 rfl (hpre ⟨10, .data⟩ (by simp) rfl) rfl
              have v10 := hR.2 10 (hpre ⟨10, .data⟩ (by simp) rfl)
              rw [show val 10 = .tuple #[.int .i64 ((atN X Y V xi yk)), .int .i64 ((atD X Y xi yk))] from v10] at e46
              clear v10
              have hgoal : ∀ v W', Below x.heap.size x W' → QE3 w.heap.size AX X.length cx AY Y.length cy AV V.length cv gx EX.length ccx gy EY.length ccy a k xi yk ((atN X Y V xi yk)) ((atD X Y xi yk)) 12 v W' → RQ (QE3 w.heap.size AX X.length cx AY Y.length cy AV V.length cv gx EX.length ccx gy EY.length ccy a k xi yk ((atN X Y V xi yk)) ((atD X Y xi yk))) wr (upd val 12 v) (L.setIfInBounds 12 true) W' := fun v W' hb hq => hR.step hst hb hq
              clear hF hpre hl hR
              go_simp
              exact ⟨_, rfl, hgoal _ _ (Below.refl _ _) rfl⟩
            | 13, ho =>
              simp at ho
              subst ho
              refine step_plain rfl ?_
              have e57 := hF.gave 11 rfl (hpre ⟨11, .data⟩ (by simp) rfl) rfl
              have v11 := hR.2 11 (hpre ⟨11, .data⟩ (by simp) rfl)
              rw [show val 11 = .int .i64 ((atN X Y V xi yk)) from v11] at e57
              clear v11
              have hgoal : ∀ v W', Below x.heap.size x W' → QE3 w.heap.size AX X.length cx AY Y.length cy AV V.length cv gx EX.length ccx gy EY.length ccy a k xi yk ((atN X Y V xi yk)) ((atD X Y xi yk)) 13 v W' → RQ (QE3 w.heap.size AX X.length cx AY Y.length cy AV V.length cv gx EX.length ccx gy EY.length ccy a k xi yk ((atN X Y V xi yk)) ((atD X Y xi yk))) wr (upd val 13 v) (L.setIfInBounds 13 true) W' := fun v W' hb hq => hR.step hst hb hq
              clear hF hpre hl hR
              go_simp
              exact ⟨_, rfl, hgoal _ _ (Below.refl _ _) rfl⟩
            | 14, ho =>
              simp at ho
              subst ho
              refine step_plain rfl ?_
              have e58 := hF.gave 12 rfl (hpre ⟨12, .data⟩ (by simp) rfl) rfl
              have v12 := hR.2 12 (hpre ⟨12, .data⟩ (by simp) rfl)
              rw [show val 12 = .int .i64 ((atD X Y xi yk)) from v12] at e58
              clear v12
              have hgoal : ∀ v W', Below x.heap.size x W' → QE3 w.heap.size AX X.length cx AY Y.length cy AV V.length cv gx EX.length ccx gy EY.length ccy a k xi yk ((atN X Y V xi yk)) ((atD X Y xi yk)) 14 v W' → RQ (QE3 w.heap.size AX X.length cx AY Y.length cy AV V.length cv gx EX.length ccx gy EY.length ccy a k xi yk ((atN X Y V xi yk)) ((atD X Y xi yk))) wr (upd val 14 v) (L.setIfInBounds 14 true) W' := fun v W' hb hq => hR.step hst hb hq
              clear hF hpre hl hR
              go_simp
              exact ⟨_, rfl, hgoal _ _ (Below.refl _ _) rfl⟩
            | i + 15, ho => simp at ho
          case hend =>
          intro val L b' w4 hF hall hR
          have e := hF.all (by kernel_rfl) hall
          have v13 := hR.2 13 (hall 13 (by decide))
          have v14 := hR.2 14 (hall 14 (by decide))
          have hb4 := hR.1
          have exa4 := cell_keep hb4 exa
          have eyk4 := cell_keep hb4 eyk
          have HB4 := Lib.hid (HBR2.out.trans (hb4.mono HBR2.out.size))
          clear hF hall hR hst HV hb4 exa eyk t0 t1 t2
          subst e
          simp [final, dstOf, List.range, List.range.loop]
          rw [show val 13 = .int .i64 (atN X Y V xi yk) from v13, show val 14 = .int .i64 (atD X Y xi yk) from v14]
          clear v13 v14
          generalize val 0 = v0, val 1 = v1, val 2 = v2, val 3 = v3, val 4 = v4, val 5 = v5, val 6 = v6, val 7 = v7, val 8 = v8, val 9 = v9, val 10 = v10, val 11 = v11, val 12 = v12
          by_cases hlt : lim < cl (atN X Y V xi yk) (atD X Y xi yk)
          · have hfin : belL lim (cornersL X Y V EX EY) = some (cnOf X Y V xi yk) := by
              obtain ⟨r, hr⟩ := corners_part (X := X) (Y := Y) (V := V) HXI.out HYK.out
              rw [hr]
              exact belL_yes HCW2.out hlt
            have HFIN := Lib.hid hfin
            clear hfin
            generalize cl (atN X Y V xi yk) (atD X Y xi yk) = cc at *
            go_upto_region 13 with (go_at_call 77; refine Calls.mono (HCE.out _) ?_; rintro e w9 ⟨rfl, rfl⟩)
            go_quiet (fail)
            have HEND := Lib.hid (below_drewN (HS2.out.b.trans (HB4.out.mono HS2.out.b.size)) nq)
            go_wp2
            (try simp only [Exit.inBlock, Exit.then]); refine bodyPost_ret (results_tmp4 rfl _ _ _) rfl ?_
            have e9 := HBS.out
            rw [HFIN.out] at e9
            simp [cnOf] at e9
            obtain ⟨rfl, rfl, rfl, rfl⟩ := e9
            exact ⟨rfl, HEND.out⟩
          · have hstep : belL lim (cornersL X Y V (EX.take a) EY ++ (EY.take (k + 1)).map (cnOf X Y V xi)) = none := by
              rw [List.take_add_one, HYK.out]
              simp only [Option.toList_some, List.map_append, List.map_cons, List.map_nil]
              rw [← List.append_assoc]
              exact belL_no HCW2.out hlt
            have HST := Lib.hid hstep
            clear hstep
            generalize cl (atN X Y V xi yk) (atD X Y xi yk) = cc at *
            go_wp2_with (go_at_call 77; refine Calls.mono (HCE.out _) ?_; rintro e w9 ⟨rfl, rfl⟩)
            go_roundw
            case rel => exact ⟨k + 1, by omega, by go_num, HST.out, HB4.out⟩
            case measure => simp [intOf]; omega
        · obtain rfl : k = EY.length := by omega
          have hrow : belL lim (cornersL X Y V (EX.take (a + 1)) EY) = none := by
            have h9 := HCW2.out
            rw [List.take_of_length_le (Nat.le_refl _)] at h9
            rw [corn_row HXI.out]
            exact h9
          have HROW := Lib.hid hrow
          clear hrow hbr2
          go_wp2_with fail
          go_roundw
          case rel => exact ⟨a + 1, by omega, by go_num, HROW.out, HBR2.out⟩
          case measure => simp [intOf]; omega
    · obtain rfl : a = EX.length := by omega
      have hfin : belL lim (cornersL X Y V EX EY) = none := by
        have h9 := HCW.out
        rwa [List.take_of_length_le (Nat.le_refl _)] at h9
      have HFIN := Lib.hid hfin
      have HEND := Lib.hid (HS2.out.b.trans (hbr.mono HS2.out.b.size))
      clear hfin hbr
      go_wp2_with fail
      (try simp only [Exit.inBlock, Exit.then]); refine bodyPost_ret (results_tmp4 rfl _ _ _) rfl ?_
      have e9 := HBS.out
      rw [HFIN.out] at e9
      simp at e9
      obtain ⟨rfl, rfl, rfl, rfl⟩ := e9
      exact ⟨rfl, HEND.out⟩

end Go.Proofs.Ytjdahphnmeaolaa

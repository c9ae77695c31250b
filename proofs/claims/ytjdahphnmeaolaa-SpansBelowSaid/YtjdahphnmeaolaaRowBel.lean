/- swashplatelaw01.SpansBelow returns true at every input, and the input reads as it did: no condition. -/
import Derived.Test.YtjdahphnmeaolaaBel
import Derived.Test.YtjdahphnmeaolaaRowBnd
import Derived.Test.YtjdahphnmeaolaaImath
namespace Go.Proofs.Ytjdahphnmeaolaa
open Go.RowKit

set_option maxRecDepth 100000 in
set_option maxHeartbeats 1000000 in
theorem below_any (AX AY AV : Option Addr) (nx cx ny cy nv cv B : Nat) (X Y : List Int) (V : List (List Int)) (x1 x2 y1 y2 lim : Int) (w : World) (hx : X.length = nx) (hy : Y.length = ny) (hv : V.length = nv) (hnx : nx ≤ maxLen) (hny : ny ≤ maxLen) (hnv : nv ≤ maxLen) (hnr : ∀ r ∈ V, r.length ≤ maxLen)
    (hB : B ≤ w.heap.size) (h : TB w B AX AY AV X Y V) :
    Calls Try.prog 53 #[.agg #[.slice AX nx cx, .slice AY ny cy, .slice AV nv cv], .agg #[.int .i64 x1, .int .i64 x2], .agg #[.int .i64 y1, .int .i64 y2], .int .i64 lim] w fun e w' =>
      e = .returned (.tuple #[.int .i64 (belS X Y V x1 x2 y1 y2 lim).1, .int .i64 (belS X Y V x1 x2 y1 y2 lim).2.1, .bool (belS X Y V x1 x2 y1 y2 lim).2.2.1, .int .i64 (belS X Y V x1 x2 y1 y2 lim).2.2.2]) ∧ Below w.heap.size w w' := by
  by_cases hc : cbE X Y V x1 x2 y1 y2 = 0
  · refine below_ok AX AY AV nx cx ny cy nv cv B X Y V x1 x2 y1 y2 lim w hx hy hv hnx hny hnv hnr hB h hc _ _ _ _ ?_
    unfold belS
    rw [if_pos hc]
    rfl
  · subst hx hy hv
    rw [show belS X Y V x1 x2 y1 y2 lim = (0, 0, false, cbE X Y V x1 x2 y1 y2) by unfold belS; rw [if_neg hc]]
    have HCB := Lib.hid (fun (W : World) (hW : Below w.heap.size w W) => checkBox_any AX AY AV _ cx _ cy _ cv B X Y V x1 x2 y1 y2 W rfl rfl rfl hnx hny hnv hnr (by have := hW.size; omega) (h.below (hW.mono hB)))
    generalize cbE X Y V x1 x2 y1 y2 = c at *
    have hc' : (c != 0) = true := by rw [bne_iff_ne]; exact hc
    clear hc h
    go_enter Try.func53, Try.ntmps53
    go_wp2_with (go_at_call 95; refine Calls.mono (HCB.out _ (by go_grown)) ?_; rintro e w1 ⟨rfl, hb1⟩; have HBW := Lib.hid (show Below w.heap.size w w1 from Below.trans (by go_grown) (hb1.mono (by simp <;> omega))); have u0 : w1.cell? ⟨w.heap.size + 1 + 1 + 1 + 1, 0, none⟩ = some (.int .i64 0) := cell_keep hb1 (by go_simp); have x0f : w1.frozen? ⟨w.heap.size + 1 + 1 + 1 + 1, 0, none⟩ = false := (cell_frozen hb1 (v := .int .i64 0) (by go_simp)).trans (by go_simp); have u1 : w1.cell? ⟨w.heap.size + 1 + 1 + 1 + 1 + 1, 0, none⟩ = some (.int .i64 0) := cell_keep hb1 (by go_simp); have x1f : w1.frozen? ⟨w.heap.size + 1 + 1 + 1 + 1 + 1, 0, none⟩ = false := (cell_frozen hb1 (v := .int .i64 0) (by go_simp)).trans (by go_simp); have u2 : w1.cell? ⟨w.heap.size + 1 + 1 + 1 + 1 + 1 + 1, 0, none⟩ = some (.bool false) := cell_keep hb1 (by go_simp); have x2f : w1.frozen? ⟨w.heap.size + 1 + 1 + 1 + 1 + 1 + 1, 0, none⟩ = false := (cell_frozen hb1 (v := .bool false) (by go_simp)).trans (by go_simp); have u3 : w1.cell? ⟨w.heap.size + 1 + 1 + 1 + 1 + 1 + 1 + 1, 0, none⟩ = some (.int .i64 0) := cell_keep hb1 (by go_simp); have x3f : w1.frozen? ⟨w.heap.size + 1 + 1 + 1 + 1 + 1 + 1 + 1, 0, none⟩ = false := (cell_frozen hb1 (v := .int .i64 0) (by go_simp)).trans (by go_simp); clear hb1)
    (try simp only [Exit.inBlock, Exit.then])
    refine bodyPost_ret (v := .tuple #[.int .i64 0, .int .i64 0, .bool false, .int .i64 c]) ?_ rfl ⟨rfl, (((HBW.out.setCell (by simp; omega) _).setCell (by simp; omega) _).setCell (by simp; omega) _).setCell (by simp; omega) _⟩
    rw [results_cell4 rfl]
    go_simp

theorem bel_bnd {X Y : List Int} {V : List (List Int)} {x1 x2 y1 y2 lim : Int} : (bndS X Y V x1 x2 y1 y2).2 = (belS X Y V x1 x2 y1 y2 lim).2.2.2 ∧ ((belS X Y V x1 x2 y1 y2 lim).2.2.2 ≠ 0 ∨ ((belS X Y V x1 x2 y1 y2 lim).2.2.2 = 0 ∧ (belS X Y V x1 x2 y1 y2 lim).2.2.1 = decide ((bndS X Y V x1 x2 y1 y2).1.2 ≤ lim))) := by
  unfold bndS belS
  by_cases hc : cbE X Y V x1 x2 y1 y2 = 0
  · rw [if_pos hc, if_pos hc]
    obtain ⟨hct, hv1, hv2, ox1, ox2, oy1, oy2⟩ := cbE_ok hc
    have h0 := cornersL_zero (X := X) (Y := Y) (V := V) (endsL_zero X x1 x2) (endsL_zero Y y1 y2)
    have hm0 : cnOf X Y V x1 y1 ∈ cornersL X Y V (endsL X x1 x2) (endsL Y y1 y2) := List.mem_of_getElem? h0
    have hb := (cl_bd (V := V) hct ox1 oy1).1
    have hgood : ∀ c ∈ cornersL X Y V (endsL X x1 x2) (endsL Y y1 y2), Good c := fun c hc => by
      obtain ⟨a, b, ha, hb, rfl⟩ := corner_of hc
      exact good_of hct (endsL_on ox1 ox2 a ha) (endsL_on oy1 oy2 b hb)
    generalize cornersL X Y V (endsL X x1 x2) (endsL Y y1 y2) = l at *
    have k := bnd_fold l (1000000, -1000000)
    have eb : bndL l = l.foldl bndStep (1000000, -1000000) := rfl
    rw [← eb] at k
    cases hf : belL lim l with
    | some c =>
      refine ⟨rfl, .inr ⟨rfl, ?_⟩⟩
      have hlc : lim < cl c.1 c.2.1 := by simpa using List.find?_some hf
      have := (k.2 c (List.mem_of_find?_eq_some hf)).2
      exact (decide_eq_false (p := (bndL l).2 ≤ lim) (by omega)).symm
    | none =>
      refine ⟨rfl, .inr ⟨rfl, ?_⟩⟩
      have hall : ∀ c ∈ l, cl c.1 c.2.1 ≤ lim := fun c hc => by
        have := List.find?_eq_none.1 hf c hc
        simpa using this
      have h1 := hall _ hm0
      simp only [cnOf] at h1
      have := bnd_least l (1000000, -1000000) (-1000001) lim (by decide) (by show (-1000000 : Int) ≤ lim; omega) (fun c hc => ⟨(hgood c hc).gd.fl.1, hall c hc⟩)
      rw [← eb] at this
      exact (decide_eq_true this.2).symm
  · rw [if_neg hc, if_neg hc]
    exact ⟨rfl, .inl hc⟩

def QE5 (g : Nat) (AX : Option Addr) (nx : Nat) (cx : Nat) (AY : Option Addr) (ny : Nat) (cy : Nat) (AV : Option Addr) (nv : Nat) (cv : Nat) (x1 : Int) (x2 : Int) (y1 : Int) (y2 : Int) (X : List Int) (Y : List Int) (V : List (List Int)) (lim : Int) (u0 : Int) (u1 : Int) (ub : Bool) (ue : Int) (j : Nat) (v : Value) (W : World) : Prop :=
  match j with
  | 0 => v = .agg #[.slice AX nx cx, .slice AY ny cy, .slice AV nv cv]
  | 1 => GT X Y V v W
  | 2 => v = .pointer (some ⟨g + 1, 0, none⟩)
  | 3 => v = .agg #[.int .i64 x1, .int .i64 x2]
  | 4 => v = .pointer (some ⟨g + 1, 2, none⟩)
  | 5 => v = .agg #[.int .i64 y1, .int .i64 y2]
  | 6 => v = .int .i64 lim
  | 7 => v = .tuple #[.int .i64 u0, .int .i64 u1, .bool ub, .int .i64 ue]
  | 8 => v = .tuple #[.int .i64 u0, .int .i64 u1, .bool ub, .int .i64 ue]
  | 9 => v = .int .i64 u0
  | 10 => v = .int .i64 u1
  | 11 => v = .bool ub
  | 12 => v = .int .i64 ue
  | 13 => v = .int .i64 u0
  | 14 => v = .int .i64 u1
  | 15 => v = .bool ub
  | 16 => v = .int .i64 ue
  | _ => True
theorem QE5_stays (g : Nat) (AX : Option Addr) (nx : Nat) (cx : Nat) (AY : Option Addr) (ny : Nat) (cy : Nat) (AV : Option Addr) (nv : Nat) (cv : Nat) (x1 : Int) (x2 : Int) (y1 : Int) (y2 : Int) (X : List Int) (Y : List Int) (V : List (List Int)) (lim : Int) (u0 : Int) (u1 : Int) (ub : Bool) (ue : Int) : Stays (QE5 g AX nx cx AY ny cy AV nv cv x1 x2 y1 y2 X Y V lim u0 u1 ub ue) := fun j v W W' h hb => by
  unfold QE5 at h ⊢
  split at h <;> first | exact h | exact h.stay hb
def QE7 (g : Nat) (AX : Option Addr) (nx : Nat) (cx : Nat) (AY : Option Addr) (ny : Nat) (cy : Nat) (AV : Option Addr) (nv : Nat) (cv : Nat) (x1 : Int) (x2 : Int) (y1 : Int) (y2 : Int) (X : List Int) (Y : List Int) (V : List (List Int)) (M : Nat) (p0 : Int) (p1 : Int) (pe : Int) (j : Nat) (v : Value) (W : World) : Prop :=
  match j with
  | 0 => v = .agg #[.slice AX nx cx, .slice AY ny cy, .slice AV nv cv]
  | 1 => GT X Y V v W
  | 2 => v = .pointer (some ⟨g + 1, 0, none⟩)
  | 3 => v = .agg #[.int .i64 x1, .int .i64 x2]
  | 4 => v = .pointer (some ⟨g + 1, 2, none⟩)
  | 5 => v = .agg #[.int .i64 y1, .int .i64 y2]
  | 6 => v = .tuple #[.agg #[.int .i64 p0, .int .i64 p1], .int .i64 pe]
  | 7 => v = .tuple #[.agg #[.int .i64 p0, .int .i64 p1], .int .i64 pe]
  | 8 => v = .agg #[.int .i64 p0, .int .i64 p1]
  | 9 => v = .int .i64 pe
  | 10 => AL M v W
  | _ => True
theorem QE7_stays (g : Nat) (AX : Option Addr) (nx : Nat) (cx : Nat) (AY : Option Addr) (ny : Nat) (cy : Nat) (AV : Option Addr) (nv : Nat) (cv : Nat) (x1 : Int) (x2 : Int) (y1 : Int) (y2 : Int) (X : List Int) (Y : List Int) (V : List (List Int)) (M : Nat) (p0 : Int) (p1 : Int) (pe : Int) : Stays (QE7 g AX nx cx AY ny cy AV nv cv x1 x2 y1 y2 X Y V M p0 p1 pe) := fun j v W W' h hb => by
  unfold QE7 at h ⊢
  split at h <;> first | exact h | exact h.stay hb

set_option maxRecDepth 100000 in
set_option maxHeartbeats 4000000 in
theorem law_below (AX AY AV : Option Addr) (nx cx ny cy nv cv B : Nat) (X Y : List Int) (V : List (List Int)) (x1 x2 y1 y2 lim : Int) (w : World) (hx : X.length = nx) (hy : Y.length = ny) (hv : V.length = nv) (hmx : nx ≤ maxLen) (hmy : ny ≤ maxLen) (hmv : nv ≤ maxLen) (hmr : ∀ r ∈ V, r.length ≤ maxLen)
    (hB : B ≤ w.heap.size) (h : TB w B AX AY AV X Y V) :
    Calls Try.prog 11 #[.agg #[.slice AX nx cx, .slice AY ny cy, .slice AV nv cv], .agg #[.int .i64 x1, .int .i64 x2, .int .i64 y1, .int .i64 y2], .int .i64 lim] w fun e w' => e = .returned (.bool true) ∧ Below w.heap.size w w' := by
  subst hx hy hv
  have HWK := Lib.hid works_any
  have HT := Lib.hid h
  have HFAR := Lib.hid (fun (W : World) (hW : Below w.heap.size w W) => far_any AX AY AV _ cx _ cy _ cv B X Y V W rfl rfl rfl hmx hmy hmv (by have := hW.size; omega) (h.below (hW.mono hB)))
  have S0 := VA.start w AX AY AV X.length cx Y.length cy V.length cv x1 x2 y1 y2 27 63
  have HS0 := Lib.hid S0
  clear h S0
  cases hf : farB X Y V with
  | true =>
    have HF := Lib.hid hf
    clear hf
    go_enter Try.func11, Try.ntmps11
    go_wp2_with (first
      | (go_at_call 17; refine Calls.mono (HFAR.out _ (by go_grown)) ?_; rintro e w4 ⟨rfl, hb4⟩; rw [HF.out])
      | (go_at_call 18; refine Calls.mono (HWK.out _) ?_; rintro e w5 ⟨rfl, hb5⟩))
    go_ret
    have hb : Below w.heap.size w w4 := Below.trans (by go_grown) (hb4.mono (by simp <;> omega))
    exact ⟨rfl, hb.trans (hb5.mono hb.size)⟩
  | false =>
  obtain ⟨f1, f2, f3, f4⟩ := farB_no hf
  have hnx : X.length ≤ 1000000 := by omega
  have hny : Y.length ≤ 1000000 := by omega
  have hnv : V.length ≤ 1000000 := by omega
  have hnr : ∀ r ∈ V, r.length ≤ 1000000 := fun r hr => by have := f4 r hr; omega
  have HF := Lib.hid hf
  clear hf f1 f2 f3 f4
  have HCP := Lib.hid (fun (W : World) (hW : Below w.heap.size w W) => copy_any AX AY AV _ cx _ cy _ cv B X Y V W rfl rfl rfl hnx hny hnv hnr (by have := hW.size; omega) (HT.out.below (hW.mono hB)))
  have HRL := Lib.hid (fun (W : World) (hW : Below w.heap.size w W) => rbelow_any AX AY AV _ cx _ cy _ cv B X Y V x1 x2 y1 y2 lim W rfl rfl rfl hmx hmy hmv hmr (by have := hW.size; omega) (HT.out.below (hW.mono hB)))
  have hcmp := bel_bnd (X := X) (Y := Y) (V := V) (x1 := x1) (x2 := x2) (y1 := y1) (y2 := y2) (lim := lim)
  generalize hbs : bndS X Y V x1 x2 y1 y2 = bs at *
  generalize hss : belS X Y V x1 x2 y1 y2 lim = ss at *
  obtain ⟨⟨p0, p1⟩, pe⟩ := bs
  obtain ⟨s1, s2, s3, s4⟩ := ss
  simp only at hcmp
  have HBS := Lib.hid hbs
  have HSS := Lib.hid hss
  have HCM := Lib.hid hcmp
  clear hbs hss hcmp
  go_enter Try.func11, Try.ntmps11
  go_upto_region 3 with (go_at_call 17; refine Calls.mono (HFAR.out _ (by go_grown)) ?_; rintro e w1 ⟨rfl, hb1⟩; rw [HF.out])
  have S1 := HS0.out.next hb1
  have HS1 := Lib.hid S1
  obtain ⟨t0, t1, t2, a0, a1, b0, b1, l9, _⟩ := S1
  clear hb1 HS0 HFAR
  have hst := QE5_stays w.heap.size AX X.length cx AY Y.length cy AV V.length cv x1 x2 y1 y2 X Y V lim s1 s2 s3 s4
  refine wpIn_wide.1 (region_inv2 (n := 9) (by kernel_rfl) (RQ (QE5 w.heap.size AX X.length cx AY Y.length cy AV V.length cv x1 x2 y1 y2 X Y V lim s1 s2 s3 s4) w1) (by kernel_rfl) rfl (RQ.start _ _ _) ?hstep ?hend)
  case hstep =>
    intro i' o ho val L b' x hF hR hpre hl
    match i', ho with
    | 0, ho =>
      simp at ho
      subst ho
      refine step_plain rfl ?_
      have e3 := hF.was 3 (by kernel_rfl) rfl
      have hgoal : ∀ v W', Below x.heap.size x W' → QE5 w.heap.size AX X.length cx AY Y.length cy AV V.length cv x1 x2 y1 y2 X Y V lim s1 s2 s3 s4 0 v W' → RQ (QE5 w.heap.size AX X.length cx AY Y.length cy AV V.length cv x1 x2 y1 y2 X Y V lim s1 s2 s3 s4) w1 (upd val 0 v) (L.setIfInBounds 0 true) W' := fun v W' hb hq => hR.step hst hb hq
      have q0 := cell_keep hR.1 t0
      have q1 := cell_keep hR.1 t1
      have q2 := cell_keep hR.1 t2
      have q3 := cell_keep hR.1 a0
      have q4 := cell_keep hR.1 a1
      have q5 := cell_keep hR.1 b0
      have q6 := cell_keep hR.1 b1
      clear hF hpre hl hR
      go_simp
      exact ⟨_, rfl, hgoal _ _ (Below.refl _ _) rfl⟩
    | 1, ho =>
      simp at ho
      subst ho
      refine step_plain rfl ?_
      have e21 := hF.gave 0 rfl (hpre ⟨0, .data⟩ (by simp) rfl) rfl
      have v0 := hR.2 0 (hpre ⟨0, .data⟩ (by simp) rfl)
      rw [show val 0 = .agg #[.slice AX X.length cx, .slice AY Y.length cy, .slice AV V.length cv] from v0] at e21
      clear v0
      have hgoal : ∀ v W', Below x.heap.size x W' → QE5 w.heap.size AX X.length cx AY Y.length cy AV V.length cv x1 x2 y1 y2 X Y V lim s1 s2 s3 s4 1 v W' → RQ (QE5 w.heap.size AX X.length cx AY Y.length cy AV V.length cv x1 x2 y1 y2 X Y V lim s1 s2 s3 s4) w1 (upd val 1 v) (L.setIfInBounds 1 true) W' := fun v W' hb hq => hR.step hst hb hq
      have q0 := cell_keep hR.1 t0
      have q1 := cell_keep hR.1 t1
      have q2 := cell_keep hR.1 t2
      have q3 := cell_keep hR.1 a0
      have q4 := cell_keep hR.1 a1
      have q5 := cell_keep hR.1 b0
      have q6 := cell_keep hR.1 b1
      have hM := Lib.hid hR.1
      clear hF hpre hl hR
      go_simp
      refine ⟨trivial, ?_⟩
      refine CallsIn.mono (callsIn_wide.2 (HCP.out _ (HS1.out.b.trans (hM.out.mono HS1.out.b.size)))) ?_
      rintro e y9 ⟨AX', cx', AY', cy', AV', cv', rfl, htb, hb9⟩
      exact ⟨_, rfl, hgoal _ _ hb9 ⟨AX', cx', AY', cy', AV', cv', rfl, htb⟩⟩
    | 2, ho =>
      simp at ho
      subst ho
      refine step_plain rfl ?_
      have e4 := hF.was 4 (by kernel_rfl) rfl
      have hgoal : ∀ v W', Below x.heap.size x W' → QE5 w.heap.size AX X.length cx AY Y.length cy AV V.length cv x1 x2 y1 y2 X Y V lim s1 s2 s3 s4 2 v W' → RQ (QE5 w.heap.size AX X.length cx AY Y.length cy AV V.length cv x1 x2 y1 y2 X Y V lim s1 s2 s3 s4) w1 (upd val 2 v) (L.setIfInBounds 2 true) W' := fun v W' hb hq => hR.step hst hb hq
      clear hF hpre hl hR
      go_simp
      exact ⟨_, rfl, hgoal _ _ (Below.refl _ _) rfl⟩
    | 3, ho =>
      simp at ho
      subst ho
      refine step_plain rfl ?_
      have e23 := hF.gave 2 rfl (hpre ⟨2, .data⟩ (by simp) rfl) rfl
      have v2 := hR.2 2 (hpre ⟨2, .data⟩ (by simp) rfl)
      rw [show val 2 = .pointer (some ⟨w.heap.size + 1, 0, none⟩) from v2] at e23
      clear v2
      have hgoal : ∀ v W', Below x.heap.size x W' → QE5 w.heap.size AX X.length cx AY Y.length cy AV V.length cv x1 x2 y1 y2 X Y V lim s1 s2 s3 s4 3 v W' → RQ (QE5 w.heap.size AX X.length cx AY Y.length cy AV V.length cv x1 x2 y1 y2 X Y V lim s1 s2 s3 s4) w1 (upd val 3 v) (L.setIfInBounds 3 true) W' := fun v W' hb hq => hR.step hst hb hq
      have q0 := cell_keep hR.1 t0
      have q1 := cell_keep hR.1 t1
      have q2 := cell_keep hR.1 t2
      have q3 := cell_keep hR.1 a0
      have q4 := cell_keep hR.1 a1
      have q5 := cell_keep hR.1 b0
      have q6 := cell_keep hR.1 b1
      clear hF hpre hl hR
      go_simp
      exact ⟨_, rfl, hgoal _ _ (Below.refl _ _) rfl⟩
    | 4, ho =>
      simp at ho
      subst ho
      refine step_plain rfl ?_
      have e4 := hF.was 4 (by kernel_rfl) rfl
      have hgoal : ∀ v W', Below x.heap.size x W' → QE5 w.heap.size AX X.length cx AY Y.length cy AV V.length cv x1 x2 y1 y2 X Y V lim s1 s2 s3 s4 4 v W' → RQ (QE5 w.heap.size AX X.length cx AY Y.length cy AV V.length cv x1 x2 y1 y2 X Y V lim s1 s2 s3 s4) w1 (upd val 4 v) (L.setIfInBounds 4 true) W' := fun v W' hb hq => hR.step hst hb hq
      clear hF hpre hl hR
      go_simp
      exact ⟨_, rfl, hgoal _ _ (Below.refl _ _) rfl⟩
    | 5, ho =>
      simp at ho
      subst ho
      refine step_plain rfl ?_
      have e25 := hF.gave 4 rfl (hpre ⟨4, .data⟩ (by simp) rfl) rfl
      have v4 := hR.2 4 (hpre ⟨4, .data⟩ (by simp) rfl)
      rw [show val 4 = .pointer (some ⟨w.heap.size + 1, 2, none⟩) from v4] at e25
      clear v4
      have hgoal : ∀ v W', Below x.heap.size x W' → QE5 w.heap.size AX X.length cx AY Y.length cy AV V.length cv x1 x2 y1 y2 X Y V lim s1 s2 s3 s4 5 v W' → RQ (QE5 w.heap.size AX X.length cx AY Y.length cy AV V.length cv x1 x2 y1 y2 X Y V lim s1 s2 s3 s4) w1 (upd val 5 v) (L.setIfInBounds 5 true) W' := fun v W' hb hq => hR.step hst hb hq
      have q0 := cell_keep hR.1 t0
      have q1 := cell_keep hR.1 t1
      have q2 := cell_keep hR.1 t2
      have q3 := cell_keep hR.1 a0
      have q4 := cell_keep hR.1 a1
      have q5 := cell_keep hR.1 b0
      have q6 := cell_keep hR.1 b1
      clear hF hpre hl hR
      go_simp
      exact ⟨_, rfl, hgoal _ _ (Below.refl _ _) rfl⟩
    | 6, ho =>
      simp at ho
      subst ho
      refine step_plain rfl ?_
      have e2 := hF.was 2 (by kernel_rfl) rfl
      have hgoal : ∀ v W', Below x.heap.size x W' → QE5 w.heap.size AX X.length cx AY Y.length cy AV V.length cv x1 x2 y1 y2 X Y V lim s1 s2 s3 s4 6 v W' → RQ (QE5 w.heap.size AX X.length cx AY Y.length cy AV V.length cv x1 x2 y1 y2 X Y V lim s1 s2 s3 s4) w1 (upd val 6 v) (L.setIfInBounds 6 true) W' := fun v W' hb hq => hR.step hst hb hq
      clear hF hpre hl hR
      go_simp
      exact ⟨_, rfl, hgoal _ _ (Below.refl _ _) rfl⟩
    | 7, ho =>
      simp at ho
      subst ho
      refine step_plain rfl ?_
      have e22 := hF.gave 1 rfl (hpre ⟨1, .data⟩ (by simp) rfl) rfl
      have v1 := hR.2 1 (hpre ⟨1, .data⟩ (by simp) rfl)
      have e24 := hF.gave 3 rfl (hpre ⟨3, .data⟩ (by simp) rfl) rfl
      have v3 := hR.2 3 (hpre ⟨3, .data⟩ (by simp) rfl)
      rw [show val 3 = .agg #[.int .i64 x1, .int .i64 x2] from v3] at e24
      clear v3
      have e26 := hF.gave 5 rfl (hpre ⟨5, .data⟩ (by simp) rfl) rfl
      have v5 := hR.2 5 (hpre ⟨5, .data⟩ (by simp) rfl)
      rw [show val 5 = .agg #[.int .i64 y1, .int .i64 y2] from v5] at e26
      clear v5
      have e27 := hF.gave 6 rfl (hpre ⟨6, .data⟩ (by simp) rfl) rfl
      have v6 := hR.2 6 (hpre ⟨6, .data⟩ (by simp) rfl)
      rw [show val 6 = .int .i64 lim from v6] at e27
      clear v6
      have hgoal : ∀ v W', Below x.heap.size x W' → QE5 w.heap.size AX X.length cx AY Y.length cy AV V.length cv x1 x2 y1 y2 X Y V lim s1 s2 s3 s4 7 v W' → RQ (QE5 w.heap.size AX X.length cx AY Y.length cy AV V.length cv x1 x2 y1 y2 X Y V lim s1 s2 s3 s4) w1 (upd val 7 v) (L.setIfInBounds 7 true) W' := fun v W' hb hq => hR.step hst hb hq
      have q0 := cell_keep hR.1 t0
      have q1 := cell_keep hR.1 t1
      have q2 := cell_keep hR.1 t2
      have q3 := cell_keep hR.1 a0
      have q4 := cell_keep hR.1 a1
      have q5 := cell_keep hR.1 b0
      have q6 := cell_keep hR.1 b1
      have hM := Lib.hid hR.1
      clear hF hpre hl hR
      obtain ⟨AX', cx', AY', cy', AV', cv', e1, htb⟩ := v1
      rw [e1] at e22
      go_simp
      refine ⟨trivial, ?_⟩
      refine CallsIn.mono (callsIn_wide.2 (below_any AX' AY' AV' _ cx' _ cy' _ cv' _ X Y V x1 x2 y1 y2 lim _ rfl rfl rfl hmx hmy hmv hmr (Nat.le_refl _) htb)) ?_
      rintro e y9 ⟨rfl, hb9⟩
      rw [HSS.out]
      exact ⟨_, rfl, hgoal _ _ hb9 rfl⟩
    | 8, ho =>
      simp at ho
      subst ho
      refine step_plain rfl ?_
      have e28 := hF.gave 7 rfl (hpre ⟨7, .data⟩ (by simp) rfl) rfl
      have v7 := hR.2 7 (hpre ⟨7, .data⟩ (by simp) rfl)
      rw [show val 7 = .tuple #[.int .i64 s1, .int .i64 s2, .bool s3, .int .i64 s4] from v7] at e28
      clear v7
      have hgoal : ∀ v W', Below x.heap.size x W' → QE5 w.heap.size AX X.length cx AY Y.length cy AV V.length cv x1 x2 y1 y2 X Y V lim s1 s2 s3 s4 8 v W' → RQ (QE5 w.heap.size AX X.length cx AY Y.length cy AV V.length cv x1 x2 y1 y2 X Y V lim s1 s2 s3 s4) w1 (upd val 8 v) (L.setIfInBounds 8 true) W' := fun v W' hb hq => hR.step hst hb hq
      clear hF hpre hl hR
      go_simp
      exact ⟨_, rfl, hgoal _ _ (Below.refl _ _) rfl⟩
    | 9, ho =>
      simp at ho
      subst ho
      refine step_plain rfl ?_
      have e20 := hF.gave 8 rfl (hpre ⟨8, .data⟩ (by simp) rfl) rfl
      have v8 := hR.2 8 (hpre ⟨8, .data⟩ (by simp) rfl)
      rw [show val 8 = .tuple #[.int .i64 s1, .int .i64 s2, .bool s3, .int .i64 s4] from v8] at e20
      clear v8
      have hgoal : ∀ v W', Below x.heap.size x W' → QE5 w.heap.size AX X.length cx AY Y.length cy AV V.length cv x1 x2 y1 y2 X Y V lim s1 s2 s3 s4 9 v W' → RQ (QE5 w.heap.size AX X.length cx AY Y.length cy AV V.length cv x1 x2 y1 y2 X Y V lim s1 s2 s3 s4) w1 (upd val 9 v) (L.setIfInBounds 9 true) W' := fun v W' hb hq => hR.step hst hb hq
      clear hF hpre hl hR
      go_simp
      exact ⟨_, rfl, hgoal _ _ (Below.refl _ _) rfl⟩
    | 10, ho =>
      simp at ho
      subst ho
      refine step_plain rfl ?_
      have e20 := hF.gave 8 rfl (hpre ⟨8, .data⟩ (by simp) rfl) rfl
      have v8 := hR.2 8 (hpre ⟨8, .data⟩ (by simp) rfl)
      rw [show val 8 = .tuple #[.int .i64 s1, .int .i64 s2, .bool s3, .int .i64 s4] from v8] at e20
      clear v8
      have hgoal : ∀ v W', Below x.heap.size x W' → QE5 w.heap.size AX X.length cx AY Y.length cy AV V.length cv x1 x2 y1 y2 X Y V lim s1 s2 s3 s4 10 v W' → RQ (QE5 w.heap.size AX X.length cx AY Y.length cy AV V.length cv x1 x2 y1 y2 X Y V lim s1 s2 s3 s4) w1 (upd val 10 v) (L.setIfInBounds 10 true) W' := fun v W' hb hq => hR.step hst hb hq
      clear hF hpre hl hR
      go_simp
      exact ⟨_, rfl, hgoal _ _ (Below.refl _ _) rfl⟩
    | 11, ho =>
      simp at ho
      subst ho
      refine step_plain rfl ?_
      have e20 := hF.gave 8 rfl (hpre ⟨8, .data⟩ (by simp) rfl) rfl
      have v8 := hR.2 8 (hpre ⟨8, .data⟩ (by simp) rfl)
      rw [show val 8 = .tuple #[.int .i64 s1, .int .i64 s2, .bool s3, .int .i64 s4] from v8] at e20
      clear v8
      have hgoal : ∀ v W', Below x.heap.size x W' → QE5 w.heap.size AX X.length cx AY Y.length cy AV V.length cv x1 x2 y1 y2 X Y V lim s1 s2 s3 s4 11 v W' → RQ (QE5 w.heap.size AX X.length cx AY Y.length cy AV V.length cv x1 x2 y1 y2 X Y V lim s1 s2 s3 s4) w1 (upd val 11 v) (L.setIfInBounds 11 true) W' := fun v W' hb hq => hR.step hst hb hq
      clear hF hpre hl hR
      go_simp
      exact ⟨_, rfl, hgoal _ _ (Below.refl _ _) rfl⟩
    | 12, ho =>
      simp at ho
      subst ho
      refine step_plain rfl ?_
      have e20 := hF.gave 8 rfl (hpre ⟨8, .data⟩ (by simp) rfl) rfl
      have v8 := hR.2 8 (hpre ⟨8, .data⟩ (by simp) rfl)
      rw [show val 8 = .tuple #[.int .i64 s1, .int .i64 s2, .bool s3, .int .i64 s4] from v8] at e20
      clear v8
      have hgoal : ∀ v W', Below x.heap.size x W' → QE5 w.heap.size AX X.length cx AY Y.length cy AV V.length cv x1 x2 y1 y2 X Y V lim s1 s2 s3 s4 12 v W' → RQ (QE5 w.heap.size AX X.length cx AY Y.length cy AV V.length cv x1 x2 y1 y2 X Y V lim s1 s2 s3 s4) w1 (upd val 12 v) (L.setIfInBounds 12 true) W' := fun v W' hb hq => hR.step hst hb hq
      clear hF hpre hl hR
      go_simp
      exact ⟨_, rfl, hgoal _ _ (Below.refl _ _) rfl⟩
    | 13, ho =>
      simp at ho
      subst ho
      refine step_plain rfl ?_
      have e29 := hF.gave 9 rfl (hpre ⟨9, .data⟩ (by simp) rfl) rfl
      have v9 := hR.2 9 (hpre ⟨9, .data⟩ (by simp) rfl)
      rw [show val 9 = .int .i64 s1 from v9] at e29
      clear v9
      have hgoal : ∀ v W', Below x.heap.size x W' → QE5 w.heap.size AX X.length cx AY Y.length cy AV V.length cv x1 x2 y1 y2 X Y V lim s1 s2 s3 s4 13 v W' → RQ (QE5 w.heap.size AX X.length cx AY Y.length cy AV V.length cv x1 x2 y1 y2 X Y V lim s1 s2 s3 s4) w1 (upd val 13 v) (L.setIfInBounds 13 true) W' := fun v W' hb hq => hR.step hst hb hq
      clear hF hpre hl hR
      go_simp
      exact ⟨_, rfl, hgoal _ _ (Below.refl _ _) rfl⟩
    | 14, ho =>
      simp at ho
      subst ho
      refine step_plain rfl ?_
      have e30 := hF.gave 10 rfl (hpre ⟨10, .data⟩ (by simp) rfl) rfl
      have v10 := hR.2 10 (hpre ⟨10, .data⟩ (by simp) rfl)
      rw [show val 10 = .int .i64 s2 from v10] at e30
      clear v10
      have hgoal : ∀ v W', Below x.heap.size x W' → QE5 w.heap.size AX X.length cx AY Y.length cy AV V.length cv x1 x2 y1 y2 X Y V lim s1 s2 s3 s4 14 v W' → RQ (QE5 w.heap.size AX X.length cx AY Y.length cy AV V.length cv x1 x2 y1 y2 X Y V lim s1 s2 s3 s4) w1 (upd val 14 v) (L.setIfInBounds 14 true) W' := fun v W' hb hq => hR.step hst hb hq
      clear hF hpre hl hR
      go_simp
      exact ⟨_, rfl, hgoal _ _ (Below.refl _ _) rfl⟩
    | 15, ho =>
      simp at ho
      subst ho
      refine step_plain rfl ?_
      have e31 := hF.gave 11 rfl (hpre ⟨11, .data⟩ (by simp) rfl) rfl
      have v11 := hR.2 11 (hpre ⟨11, .data⟩ (by simp) rfl)
      rw [show val 11 = .bool s3 from v11] at e31
      clear v11
      have hgoal : ∀ v W', Below x.heap.size x W' → QE5 w.heap.size AX X.length cx AY Y.length cy AV V.length cv x1 x2 y1 y2 X Y V lim s1 s2 s3 s4 15 v W' → RQ (QE5 w.heap.size AX X.length cx AY Y.length cy AV V.length cv x1 x2 y1 y2 X Y V lim s1 s2 s3 s4) w1 (upd val 15 v) (L.setIfInBounds 15 true) W' := fun v W' hb hq => hR.step hst hb hq
      clear hF hpre hl hR
      go_simp
      exact ⟨_, rfl, hgoal _ _ (Below.refl _ _) rfl⟩
    | 16, ho =>
      simp at ho
      subst ho
      refine step_plain rfl ?_
      have e32 := hF.gave 12 rfl (hpre ⟨12, .data⟩ (by simp) rfl) rfl
      have v12 := hR.2 12 (hpre ⟨12, .data⟩ (by simp) rfl)
      rw [show val 12 = .int .i64 s4 from v12] at e32
      clear v12
      have hgoal : ∀ v W', Below x.heap.size x W' → QE5 w.heap.size AX X.length cx AY Y.length cy AV V.length cv x1 x2 y1 y2 X Y V lim s1 s2 s3 s4 16 v W' → RQ (QE5 w.heap.size AX X.length cx AY Y.length cy AV V.length cv x1 x2 y1 y2 X Y V lim s1 s2 s3 s4) w1 (upd val 16 v) (L.setIfInBounds 16 true) W' := fun v W' hb hq => hR.step hst hb hq
      clear hF hpre hl hR
      go_simp
      exact ⟨_, rfl, hgoal _ _ (Below.refl _ _) rfl⟩
    | i + 17, ho => simp at ho
  case hend =>
  intro val L b' w2 hF hall hR
  have e := hF.all (by kernel_rfl) hall
  have v13' := hR.2 13 (hall 13 (by decide))
  have v14' := hR.2 14 (hall 14 (by decide))
  have v15' := hR.2 15 (hall 15 (by decide))
  have v16' := hR.2 16 (hall 16 (by decide))
  have hb2 := hR.1
  have S2 := HS1.out.next hb2
  have HS2 := Lib.hid S2
  clear hF hall hR hst hb2 t0 t1 t2 a0 a1 b0 b1 l9 HS1
  obtain ⟨t0, t1, t2, a0, a1, b0, b1, l9, _⟩ := S2
  subst e
  simp [final, dstOf, List.range, List.range.loop]
  rw [show val 13 = .int .i64 s1 from v13', show val 14 = .int .i64 s2 from v14', show val 15 = .bool s3 from v15', show val 16 = .int .i64 s4 from v16']
  clear v13' v14' v15' v16'
  generalize val 0 = v0, val 1 = v1, val 2 = v2, val 3 = v3, val 4 = v4, val 5 = v5, val 6 = v6, val 7 = v7, val 8 = v8, val 9 = v9, val 10 = v10, val 11 = v11, val 12 = v12
  go_upto_region 7 with (go_at_call 54; refine Calls.mono (HRL.out _ HS2.out.b) ?_; rintro e w3 ⟨rfl, hb3⟩)
  have S3 := HS2.out.next hb3
  have HS3 := Lib.hid S3
  clear hb3 t0 t1 t2 a0 a1 b0 b1 l9 HS2
  obtain ⟨t0, t1, t2, a0, a1, b0, b1, l9, _⟩ := S3
  have hst := QE7_stays w.heap.size AX X.length cx AY Y.length cy AV V.length cv x1 x2 y1 y2 X Y V w3.heap.size p0 p1 pe
  refine wpIn_wide.1 (region_inv2 (n := 9) (by kernel_rfl) (RXS (QE7 w.heap.size AX X.length cx AY Y.length cy AV V.length cv x1 x2 y1 y2 X Y V w3.heap.size p0 p1 pe) w3 p0 p1 pe) (by kernel_rfl) rfl ⟨fun _ => RQ.start _ _ _, (by intro hl; rw [getD_replicate_no] at hl; cases hl)⟩ ?hstep ?hend)
  case hstep =>
    intro i' o ho val L b' x hF hR hpre hl
    match i', ho with
    | 0, ho =>
      simp at ho
      subst ho
      refine step_plain rfl ?_
      have hN := hF.later hl 11 rfl (e := ⟨0, .phase⟩) (by simp) rfl rfl
      have hR := hR.1 hN
      have e3 := hF.was 3 (by kernel_rfl) rfl
      have hgoal : ∀ v W', Below x.heap.size x W' → QE7 w.heap.size AX X.length cx AY Y.length cy AV V.length cv x1 x2 y1 y2 X Y V w3.heap.size p0 p1 pe 0 v W' → RXS (QE7 w.heap.size AX X.length cx AY Y.length cy AV V.length cv x1 x2 y1 y2 X Y V w3.heap.size p0 p1 pe) w3 p0 p1 pe (upd val 0 v) (L.setIfInBounds 0 true) W' := fun v W' hb hq => RXS.step hR hst hb hq (by decide) hN
      have q0 := cell_keep hR.1 t0
      have q1 := cell_keep hR.1 t1
      have q2 := cell_keep hR.1 t2
      have q3 := cell_keep hR.1 a0
      have q4 := cell_keep hR.1 a1
      have q5 := cell_keep hR.1 b0
      have q6 := cell_keep hR.1 b1
      clear hF hpre hl hR hN
      go_simp
      exact ⟨_, rfl, hgoal _ _ (Below.refl _ _) rfl⟩
    | 1, ho =>
      simp at ho
      subst ho
      refine step_plain rfl ?_
      have hN := hF.later hl 11 rfl (e := ⟨1, .phase⟩) (by simp) rfl rfl
      have hR := hR.1 hN
      have e64 := hF.gave 0 rfl (hpre ⟨0, .data⟩ (by simp) rfl) rfl
      have v0 := hR.2 0 (hpre ⟨0, .data⟩ (by simp) rfl)
      rw [show val 0 = .agg #[.slice AX X.length cx, .slice AY Y.length cy, .slice AV V.length cv] from v0] at e64
      clear v0
      have hgoal : ∀ v W', Below x.heap.size x W' → QE7 w.heap.size AX X.length cx AY Y.length cy AV V.length cv x1 x2 y1 y2 X Y V w3.heap.size p0 p1 pe 1 v W' → RXS (QE7 w.heap.size AX X.length cx AY Y.length cy AV V.length cv x1 x2 y1 y2 X Y V w3.heap.size p0 p1 pe) w3 p0 p1 pe (upd val 1 v) (L.setIfInBounds 1 true) W' := fun v W' hb hq => RXS.step hR hst hb hq (by decide) hN
      have q0 := cell_keep hR.1 t0
      have q1 := cell_keep hR.1 t1
      have q2 := cell_keep hR.1 t2
      have q3 := cell_keep hR.1 a0
      have q4 := cell_keep hR.1 a1
      have q5 := cell_keep hR.1 b0
      have q6 := cell_keep hR.1 b1
      have hM := Lib.hid hR.1
      clear hF hpre hl hR hN
      go_simp
      refine ⟨trivial, ?_⟩
      refine CallsIn.mono (callsIn_wide.2 (HCP.out _ (HS3.out.b.trans (hM.out.mono HS3.out.b.size)))) ?_
      rintro e y9 ⟨AX', cx', AY', cy', AV', cv', rfl, htb, hb9⟩
      exact ⟨_, rfl, hgoal _ _ hb9 ⟨AX', cx', AY', cy', AV', cv', rfl, htb⟩⟩
    | 2, ho =>
      simp at ho
      subst ho
      refine step_plain rfl ?_
      have hN := hF.later hl 11 rfl (e := ⟨2, .phase⟩) (by simp) rfl rfl
      have hR := hR.1 hN
      have e4 := hF.was 4 (by kernel_rfl) rfl
      have hgoal : ∀ v W', Below x.heap.size x W' → QE7 w.heap.size AX X.length cx AY Y.length cy AV V.length cv x1 x2 y1 y2 X Y V w3.heap.size p0 p1 pe 2 v W' → RXS (QE7 w.heap.size AX X.length cx AY Y.length cy AV V.length cv x1 x2 y1 y2 X Y V w3.heap.size p0 p1 pe) w3 p0 p1 pe (upd val 2 v) (L.setIfInBounds 2 true) W' := fun v W' hb hq => RXS.step hR hst hb hq (by decide) hN
      clear hF hpre hl hR hN
      go_simp
      exact ⟨_, rfl, hgoal _ _ (Below.refl _ _) rfl⟩
    | 3, ho =>
      simp at ho
      subst ho
      refine step_plain rfl ?_
      have hN := hF.later hl 11 rfl (e := ⟨3, .phase⟩) (by simp) rfl rfl
      have hR := hR.1 hN
      have e66 := hF.gave 2 rfl (hpre ⟨2, .data⟩ (by simp) rfl) rfl
      have v2 := hR.2 2 (hpre ⟨2, .data⟩ (by simp) rfl)
      rw [show val 2 = .pointer (some ⟨w.heap.size + 1, 0, none⟩) from v2] at e66
      clear v2
      have hgoal : ∀ v W', Below x.heap.size x W' → QE7 w.heap.size AX X.length cx AY Y.length cy AV V.length cv x1 x2 y1 y2 X Y V w3.heap.size p0 p1 pe 3 v W' → RXS (QE7 w.heap.size AX X.length cx AY Y.length cy AV V.length cv x1 x2 y1 y2 X Y V w3.heap.size p0 p1 pe) w3 p0 p1 pe (upd val 3 v) (L.setIfInBounds 3 true) W' := fun v W' hb hq => RXS.step hR hst hb hq (by decide) hN
      have q0 := cell_keep hR.1 t0
      have q1 := cell_keep hR.1 t1
      have q2 := cell_keep hR.1 t2
      have q3 := cell_keep hR.1 a0
      have q4 := cell_keep hR.1 a1
      have q5 := cell_keep hR.1 b0
      have q6 := cell_keep hR.1 b1
      clear hF hpre hl hR hN
      go_simp
      exact ⟨_, rfl, hgoal _ _ (Below.refl _ _) rfl⟩
    | 4, ho =>
      simp at ho
      subst ho
      refine step_plain rfl ?_
      have hN := hF.later hl 11 rfl (e := ⟨4, .phase⟩) (by simp) rfl rfl
      have hR := hR.1 hN
      have e4 := hF.was 4 (by kernel_rfl) rfl
      have hgoal : ∀ v W', Below x.heap.size x W' → QE7 w.heap.size AX X.length cx AY Y.length cy AV V.length cv x1 x2 y1 y2 X Y V w3.heap.size p0 p1 pe 4 v W' → RXS (QE7 w.heap.size AX X.length cx AY Y.length cy AV V.length cv x1 x2 y1 y2 X Y V w3.heap.size p0 p1 pe) w3 p0 p1 pe (upd val 4 v) (L.setIfInBounds 4 true) W' := fun v W' hb hq => RXS.step hR hst hb hq (by decide) hN
      clear hF hpre hl hR hN
      go_simp
      exact ⟨_, rfl, hgoal _ _ (Below.refl _ _) rfl⟩
    | 5, ho =>
      simp at ho
      subst ho
      refine step_plain rfl ?_
      have hN := hF.later hl 11 rfl (e := ⟨5, .phase⟩) (by simp) rfl rfl
      have hR := hR.1 hN
      have e68 := hF.gave 4 rfl (hpre ⟨4, .data⟩ (by simp) rfl) rfl
      have v4 := hR.2 4 (hpre ⟨4, .data⟩ (by simp) rfl)
      rw [show val 4 = .pointer (some ⟨w.heap.size + 1, 2, none⟩) from v4] at e68
      clear v4
      have hgoal : ∀ v W', Below x.heap.size x W' → QE7 w.heap.size AX X.length cx AY Y.length cy AV V.length cv x1 x2 y1 y2 X Y V w3.heap.size p0 p1 pe 5 v W' → RXS (QE7 w.heap.size AX X.length cx AY Y.length cy AV V.length cv x1 x2 y1 y2 X Y V w3.heap.size p0 p1 pe) w3 p0 p1 pe (upd val 5 v) (L.setIfInBounds 5 true) W' := fun v W' hb hq => RXS.step hR hst hb hq (by decide) hN
      have q0 := cell_keep hR.1 t0
      have q1 := cell_keep hR.1 t1
      have q2 := cell_keep hR.1 t2
      have q3 := cell_keep hR.1 a0
      have q4 := cell_keep hR.1 a1
      have q5 := cell_keep hR.1 b0
      have q6 := cell_keep hR.1 b1
      clear hF hpre hl hR hN
      go_simp
      exact ⟨_, rfl, hgoal _ _ (Below.refl _ _) rfl⟩
    | 6, ho =>
      simp at ho
      subst ho
      refine step_plain rfl ?_
      have hN := hF.later hl 11 rfl (e := ⟨6, .phase⟩) (by simp) rfl rfl
      have hR := hR.1 hN
      have e65 := hF.gave 1 rfl (hpre ⟨1, .data⟩ (by simp) rfl) rfl
      have v1 := hR.2 1 (hpre ⟨1, .data⟩ (by simp) rfl)
      have e67 := hF.gave 3 rfl (hpre ⟨3, .data⟩ (by simp) rfl) rfl
      have v3 := hR.2 3 (hpre ⟨3, .data⟩ (by simp) rfl)
      rw [show val 3 = .agg #[.int .i64 x1, .int .i64 x2] from v3] at e67
      clear v3
      have e69 := hF.gave 5 rfl (hpre ⟨5, .data⟩ (by simp) rfl) rfl
      have v5 := hR.2 5 (hpre ⟨5, .data⟩ (by simp) rfl)
      rw [show val 5 = .agg #[.int .i64 y1, .int .i64 y2] from v5] at e69
      clear v5
      have hgoal : ∀ v W', Below x.heap.size x W' → QE7 w.heap.size AX X.length cx AY Y.length cy AV V.length cv x1 x2 y1 y2 X Y V w3.heap.size p0 p1 pe 6 v W' → RXS (QE7 w.heap.size AX X.length cx AY Y.length cy AV V.length cv x1 x2 y1 y2 X Y V w3.heap.size p0 p1 pe) w3 p0 p1 pe (upd val 6 v) (L.setIfInBounds 6 true) W' := fun v W' hb hq => RXS.step hR hst hb hq (by decide) hN
      have q0 := cell_keep hR.1 t0
      have q1 := cell_keep hR.1 t1
      have q2 := cell_keep hR.1 t2
      have q3 := cell_keep hR.1 a0
      have q4 := cell_keep hR.1 a1
      have q5 := cell_keep hR.1 b0
      have q6 := cell_keep hR.1 b1
      have hM := Lib.hid hR.1
      clear hF hpre hl hR hN
      obtain ⟨AX', cx', AY', cy', AV', cv', e1, htb⟩ := v1
      rw [e1] at e65
      go_simp
      refine ⟨trivial, ?_⟩
      refine CallsIn.mono (callsIn_wide.2 (bound_any AX' AY' AV' _ cx' _ cy' _ cv' _ X Y V x1 x2 y1 y2 _ rfl rfl rfl hmx hmy hmv hmr (Nat.le_refl _) htb)) ?_
      rintro e y9 ⟨rfl, hb9⟩
      rw [HBS.out]
      exact ⟨_, rfl, hgoal _ _ hb9 rfl⟩
    | 7, ho =>
      simp at ho
      subst ho
      refine step_plain rfl ?_
      have hN := hF.later hl 11 rfl (e := ⟨7, .phase⟩) (by simp) rfl rfl
      have hR := hR.1 hN
      have e70 := hF.gave 6 rfl (hpre ⟨6, .data⟩ (by simp) rfl) rfl
      have v6 := hR.2 6 (hpre ⟨6, .data⟩ (by simp) rfl)
      rw [show val 6 = .tuple #[.agg #[.int .i64 p0, .int .i64 p1], .int .i64 pe] from v6] at e70
      clear v6
      have hgoal : ∀ v W', Below x.heap.size x W' → QE7 w.heap.size AX X.length cx AY Y.length cy AV V.length cv x1 x2 y1 y2 X Y V w3.heap.size p0 p1 pe 7 v W' → RXS (QE7 w.heap.size AX X.length cx AY Y.length cy AV V.length cv x1 x2 y1 y2 X Y V w3.heap.size p0 p1 pe) w3 p0 p1 pe (upd val 7 v) (L.setIfInBounds 7 true) W' := fun v W' hb hq => RXS.step hR hst hb hq (by decide) hN
      clear hF hpre hl hR hN
      go_simp
      exact ⟨_, rfl, hgoal _ _ (Below.refl _ _) rfl⟩
    | 8, ho =>
      simp at ho
      subst ho
      refine step_plain rfl ?_
      have hN := hF.later hl 11 rfl (e := ⟨8, .phase⟩) (by simp) rfl rfl
      have hR := hR.1 hN
      have e63 := hF.gave 7 rfl (hpre ⟨7, .data⟩ (by simp) rfl) rfl
      have v7 := hR.2 7 (hpre ⟨7, .data⟩ (by simp) rfl)
      rw [show val 7 = .tuple #[.agg #[.int .i64 p0, .int .i64 p1], .int .i64 pe] from v7] at e63
      clear v7
      have hgoal : ∀ v W', Below x.heap.size x W' → QE7 w.heap.size AX X.length cx AY Y.length cy AV V.length cv x1 x2 y1 y2 X Y V w3.heap.size p0 p1 pe 8 v W' → RXS (QE7 w.heap.size AX X.length cx AY Y.length cy AV V.length cv x1 x2 y1 y2 X Y V w3.heap.size p0 p1 pe) w3 p0 p1 pe (upd val 8 v) (L.setIfInBounds 8 true) W' := fun v W' hb hq => RXS.step hR hst hb hq (by decide) hN
      clear hF hpre hl hR hN
      go_simp
      exact ⟨_, rfl, hgoal _ _ (Below.refl _ _) rfl⟩
    | 9, ho =>
      simp at ho
      subst ho
      refine step_plain rfl ?_
      have e63 := hF.gave 7 rfl (hpre ⟨7, .data⟩ (by simp) rfl) rfl
      have hgoal : val 7 = .tuple #[.agg #[.int .i64 p0, .int .i64 p1], .int .i64 pe] ∧ RXS (QE7 w.heap.size AX X.length cx AY Y.length cy AV V.length cv x1 x2 y1 y2 X Y V w3.heap.size p0 p1 pe) w3 p0 p1 pe (upd val 9 (.int .i64 pe)) (L.setIfInBounds 9 true) x := RXS.step9 (Q := QE7 w.heap.size AX X.length cx AY Y.length cy AV V.length cv x1 x2 y1 y2 X Y V w3.heap.size p0 p1 pe) hR hst (fun hq => hq.2 7 (hpre ⟨7, .data⟩ (by simp) rfl)) rfl
      rw [hgoal.1] at e63
      clear hF hpre hl hR
      go_simp
      exact ⟨_, rfl, hgoal.2⟩
    | 10, ho =>
      simp at ho
      subst ho
      refine step_plain rfl ?_
      have hN := hF.later hl 11 rfl (e := ⟨10, .data⟩) (by simp) rfl rfl
      have hR := hR.1 hN
      have hgoal : ∀ v W', Below x.heap.size x W' → QE7 w.heap.size AX X.length cx AY Y.length cy AV V.length cv x1 x2 y1 y2 X Y V w3.heap.size p0 p1 pe 10 v W' → RXS (QE7 w.heap.size AX X.length cx AY Y.length cy AV V.length cv x1 x2 y1 y2 X Y V w3.heap.size p0 p1 pe) w3 p0 p1 pe (upd val 10 v) (L.setIfInBounds 10 true) W' := fun v W' hb hq => RXS.step hR hst hb hq (by decide) hN
      have hn : (x.alloc (.cells #[.int .i64 0, .int .i64 0] 37)).heap[x.heap.size]? = some (.cells #[.int .i64 0, .int .i64 0] 37 (0, 0)) := by show (x.heap.push _)[x.heap.size]? = _; simp
      have hf := fun o => block_frozen (o := o) hn
      have hcc := fun o => block_cell (o := o) hn
      have HN := Lib.hid (And.intro hf hcc)
      have hz := hR.1.size
      clear hF hpre hl hR hN hn hf hcc
      go_simp
      exact ⟨_, rfl, hgoal _ _ ((Below.refl _ _).alloc (Nat.le_refl _) _) ⟨_, rfl, hz, by simp, HN.out.1 0, HN.out.1 1, _, _, (HN.out.2 0).trans rfl, (HN.out.2 1).trans rfl⟩⟩
    | 11, ho =>
      simp at ho
      subst ho
      refine step_plain rfl ?_
      have e15 := hF.gave 10 rfl (hpre ⟨10, .data⟩ (by simp) rfl) rfl
      have e71 := hF.gave 8 rfl (hpre ⟨8, .data⟩ (by simp) rfl) rfl
      have hls : 11 < L.size := by rw [hF.lsize]; decide
      have hN : L.getD 11 false = false := by rw [← getD_same hls]; exact hl
      have hR := hR.1 hN
      have v8 := hR.2 8 (hpre ⟨8, .data⟩ (by simp) rfl)
      have v7 := hR.2 7 (hpre ⟨7, .phase⟩ (by simp) rfl)
      have v9 : L.getD 9 false = true → val 9 = .int .i64 pe := fun h => hR.2 9 h
      have v10 := hR.2 10 (hpre ⟨10, .data⟩ (by simp) rfl)
      have l12 := hF.later hl 12 rfl (e := ⟨11, .chain⟩) (by simp) rfl rfl
      rw [show val 8 = .agg #[.int .i64 p0, .int .i64 p1] from v8] at e71
      obtain ⟨q, v10e, hMq, hqx, hf0, hf1, u0, u1, hc0, hc1⟩ := v10
      have hgoal := RXS.store (Q := QE7 w.heap.size AX X.length cx AY Y.length cy AV V.length cv x1 x2 y1 y2 X Y V w3.heap.size p0 p1 pe) (q := q) (p0 := p0) (p1 := p1) (pe := pe) hls hR.1 hMq v10e v7 v9 (by rw [hc0]; rfl) (by rw [hc1]; rfl) l12
      rw [v10e] at e15
      clear hF hpre hl hR v8 v7 v9 hN
      go_simp
      exact ⟨undef, hgoal⟩
    | 12, ho =>
      simp at ho
      subst ho
      refine step_plain rfl ?_
      have e72 := hF.gave 9 rfl (hpre ⟨9, .data⟩ (by simp) rfl) rfl
      have hT : L.getD 11 false = true := hpre ⟨11, .chain⟩ (by simp) rfl
      have hR2 := hR.2 hT
      rw [hR2.2.2.2.1 (hpre ⟨9, .data⟩ (by simp) rfl)] at e72
      have hgoal : RXS (QE7 w.heap.size AX X.length cx AY Y.length cy AV V.length cv x1 x2 y1 y2 X Y V w3.heap.size p0 p1 pe) w3 p0 p1 pe (upd val 12 (.int .i64 pe)) (L.setIfInBounds 12 true) x := ⟨fun h => (by rw [getD_set_other (by decide), hT] at h; cases h), fun _ => ⟨hR2.1, hR2.2.1, hR2.2.2.1, fun h => hR2.2.2.2.1 (by rwa [getD_set_other (by decide)] at h), fun _ => rfl⟩⟩
      clear hF hpre hl hR hR2 hT
      go_simp
      exact ⟨_, rfl, hgoal⟩
    | i + 13, ho => simp at ho
  case hend =>
  intro val L b' w4 hF hall hR
  have e := hF.all (by kernel_rfl) hall
  obtain ⟨hb4, ⟨g5, e10, c0, c1⟩, _, _, e12⟩ := hR.2 (hall 11 (by decide))
  have e12' := e12 (hall 12 (by decide))
  have HB4 := Lib.hid (HS3.out.b.trans (hb4.mono HS3.out.b.size))
  clear hF hall hR hst e12 hb4 t0 t1 t2 a0 a1 b0 b1 l9 HS3
  subst e
  simp [final, dstOf, List.range, List.range.loop]
  rw [e10, e12']
  clear e10 e12'
  generalize val 0 = y0, val 1 = y1, val 2 = y2, val 3 = y3, val 4 = y4, val 5 = y5, val 6 = y6, val 7 = y7, val 8 = y8, val 9 = y9
  obtain ⟨rfl, hcs⟩ := HCM.out
  rcases hcs with hne | ⟨rfl, rfl⟩
  · have hc' : (pe != 0) = true := by rw [bne_iff_ne]; exact hne
    go_wp2_with (go_at_call 18; refine Calls.mono (HWK.out _) ?_; rintro e w7 ⟨rfl, hb7⟩)
    go_ret
    exact ⟨rfl, HB4.out.trans (hb7.mono HB4.out.size)⟩
  · by_cases hle : p1 ≤ lim
    · rw [decide_eq_true hle]
      go_wp2_with (go_at_call 18; refine Calls.mono (HWK.out _) ?_; rintro e w7 ⟨rfl, hb7⟩)
      go_ret
      exact ⟨rfl, HB4.out.trans (hb7.mono HB4.out.size)⟩
    · rw [decide_eq_false hle]
      go_wp2_with (go_at_call 18; refine Calls.mono (HWK.out _) ?_; rintro e w7 ⟨rfl, hb7⟩)
      go_ret
      exact ⟨rfl, HB4.out.trans (hb7.mono HB4.out.size)⟩

end Go.Proofs.Ytjdahphnmeaolaa

/- spans.Below. -/
import Derived.Test.YtjdahphnmeaolaaRbel
import Derived.Sort.BigQuietIn
import Derived.Sort.CutIn
namespace Go.Proofs.Ytjdahphnmeaolaa
open Go.RowKit Go.Shelf

attribute [local go_sem] Oper.semAt_some

theorem results_cell4 {fn : Func} {p q r s : Tmp} {t1 t2 t3 t4 : TypeId} (h : fn.results = #[.cell p t1, .cell q t2, .cell r t3, .cell s t4]) (tmps : Array Value) (P : Program) (w : World) :
    (results fn tmps).run P w =
      ((asAddr (tmps.getD p undef)).run P w).andThen fun a w₁ => ((loadVar t1 a).run P w₁).andThen fun v w₂ =>
      ((asAddr (tmps.getD q undef)).run P w₂).andThen fun a w₁ => ((loadVar t2 a).run P w₁).andThen fun v2 w₂ =>
      ((asAddr (tmps.getD r undef)).run P w₂).andThen fun a w₁ => ((loadVar t3 a).run P w₁).andThen fun v3 w₂ =>
      ((asAddr (tmps.getD s undef)).run P w₂).andThen fun a w₁ => ((loadVar t4 a).run P w₁).andThen fun v4 w₂ => .ok (.tuple #[v, v2, v3, v4]) w₂ := by
  simp only [results, h]
  simp [Sem.run_bind, Result.andThen]

/-- The region that fills the four results' boxes. -/
def R7v (Bx : Nat) (px py : Int) : Nat → Value
  | 0 => .pointer (some ⟨Bx, 2, none⟩)
  | 1 => .int .i64 px
  | 2 => .pointer (some ⟨Bx, 3, none⟩)
  | _ => .int .i64 py
def R7o (px py : Int) : Nat → Value
  | 0 => .int .i64 px
  | 1 => .int .i64 py
  | 2 => .bool false
  | _ => .int .i64 0
structure R7 (n0 g : Nat) (w Wb : World) (Bx : Nat) (px py : Int) (val : Nat → Value) (L : Array Bool) (W : World) : Prop where
  k : KeepsFrom n0 Wb W
  b : Below g w W
  v : ∀ i, i < 4 → L.getD i false = true → val i = R7v Bx px py i
  x : W.cell? ⟨Bx, 2, none⟩ = some (.int .i64 px)
  y : W.cell? ⟨Bx, 3, none⟩ = some (.int .i64 py)
  f : ∀ k, k < 4 → W.frozen? ⟨g + 4 + k, 0, none⟩ = false
  c : ∀ k, k < 4 → (W.cell? ⟨g + 4 + k, 0, none⟩).isSome = true
  o : ∀ k, k < 4 → L.getD (4 + k) false = true → W.cell? ⟨g + 4 + k, 0, none⟩ = some (R7o px py k)
theorem R7.put {n0 g : Nat} {w Wb : World} {Bx : Nat} {px py : Int} {val : Nat → Value} {L : Array Bool} {W : World} (h : R7 n0 g w Wb Bx px py val L W) {i : Nat} (hi : i < 4) : R7 n0 g w Wb Bx px py (upd val i (R7v Bx px py i)) (L.setIfInBounds i true) W :=
  ⟨h.k, h.b, fun j hj hl => by
    by_cases e : j = i
    · rw [e, upd_same]
    · rw [upd_other e]
      exact h.v j hj (by rwa [getD_set_other (fun h => e h.symm)] at hl), h.x, h.y, h.f, h.c, fun k hk hl => h.o k hk (by rwa [getD_set_other (by omega)] at hl)⟩
theorem R7.store {n0 g : Nat} {w Wb : World} {Bx : Nat} {px py : Int} {val : Nat → Value} {L : Array Bool} {W : World} (h : R7 n0 g w Wb Bx px py val L W) {k : Nat} (hk : k < 4) :
    R7 n0 g w Wb Bx px py (upd val (4 + k) undef) (L.setIfInBounds (4 + k) true) (W.setCell ⟨g + 4 + k, 0, none⟩ (R7o px py k)) :=
  ⟨h.k.trans ((KeepsOthers.setCell _ _ _).from _), h.b.setCell (p := ⟨g + 4 + k, 0, none⟩) (by show g ≤ g + 4 + k; omega) _, fun i hi hl => by
    rw [upd_other (by omega)]
    exact h.v i hi (by rwa [getD_set_other (by omega)] at hl),
    by rw [World.cell?_setCell_other _ _ _ _ (by simp)]; exact h.x, by rw [World.cell?_setCell_other _ _ _ _ (by simp)]; exact h.y,
    fun j hj => by simp only [World.frozen?_setCell]; exact h.f j hj,
    fun j hj => by
      by_cases e : j = k
      · subst e
        rw [World.cell?_setCell_same' _ _ _ (h.c j hj)]
        rfl
      · rw [World.cell?_setCell_other _ _ _ _ (by simp <;> omega)]
        exact h.c j hj,
    fun j hj hl => by
      by_cases e : j = k
      · subst e
        exact World.cell?_setCell_same' _ _ _ (h.c j hj)
      · rw [World.cell?_setCell_other _ _ _ _ (by simp <;> omega)]
        exact h.o j hj (by rwa [getD_set_other (by omega)] at hl)⟩

def QZ6 (g : Nat) (N : Int) (D : Int) (lim : Int) (j : Nat) (v : Value) (_ : World) : Prop :=
  match j with
  | 0 => v = .pointer (some ⟨g, 0, none⟩)
  | 1 => v = .agg #[.int .i64 N, .int .i64 D]
  | 2 => v = .int .i64 (cl N D)
  | 3 => v = .int .i64 lim
  | 4 => v = .bool (decide (lim < cl N D))
  | _ => True
theorem QZ6_stays (g : Nat) (N : Int) (D : Int) (lim : Int) : Stays (QZ6 g N D lim) := fun j v W W' h _ => by
  unfold QZ6 at h ⊢
  split at h <;> exact h

set_option maxRecDepth 100000 in
set_option maxHeartbeats 4000000 in
theorem below_ok (AX AY AV : Option Addr) (nx cx ny cy nv cv B : Nat) (X Y : List Int) (V : List (List Int)) (x1 x2 y1 y2 lim : Int) (w : World) (hx : X.length = nx) (hy : Y.length = ny) (hv : V.length = nv) (hnx : nx ≤ maxLen) (hny : ny ≤ maxLen) (hnv : nv ≤ maxLen) (hnr : ∀ r ∈ V, r.length ≤ maxLen)
    (hB : B ≤ w.heap.size) (h : TB w B AX AY AV X Y V) (hcb : cbE X Y V x1 x2 y1 y2 = 0) (s1 s2 : Int) (s3 : Bool) (s4 : Int) (hS : (s1, s2, s3, s4) = (match belL lim (cornersL X Y V (endsL X x1 x2) (endsL Y y1 y2)) with | some c => (c.2.2.1, c.2.2.2, false, (0 : Int)) | none => (0, 0, true, 0))) :
    Calls Try.prog 53 #[.agg #[.slice AX nx cx, .slice AY ny cy, .slice AV nv cv], .agg #[.int .i64 x1, .int .i64 x2], .agg #[.int .i64 y1, .int .i64 y2], .int .i64 lim] w fun e w' =>
      e = .returned (.tuple #[.int .i64 s1, .int .i64 s2, .bool s3, .int .i64 s4]) ∧ Below w.heap.size w w' := by
  subst hx hy hv
  have HBS := Lib.hid hS
  clear hS
  refine (callsIn_wide (n := 9)).1 ?_
  refine callsIn_of_wp_marks Try.func53 rfl trivial ?_ rfl
  simp only [Try.ntmps53, List.size_toArray, List.length_cons, List.length_nil, Nat.reduceAdd, Nat.reduceSub, Array.replicate_succ, Array.replicate_zero, List.push_toArray, List.append_toArray, List.nil_append, List.cons_append]
  gi_wp2_with (fail)
  refine ⟨trivial, ?_⟩
  refine CallsIn.mono (callsIn_wide.2 (checkBox_any AX AY AV _ _ _ _ _ _ B X Y V x1 x2 y1 y2 _ rfl rfl rfl hnx hny hnv hnr ?c1 (h.below ?c2))) ?_
  case c1 => simp; omega
  case c2 => go_grown
  rintro e w1 ⟨rfl, hb1⟩
  rw [hcb]
  have hz1 := hb1.size
  simp at hz1
  have hbw1 : Below w.heap.size w w1 := Below.trans (by go_grown) (hb1.mono (by simp; omega))
  have t0 : w1.cell? ⟨w.heap.size, 0, none⟩ = some (.slice AX X.length cx) := cell_keep hb1 (by go_simp)
  have t1 : w1.cell? ⟨w.heap.size, 1, none⟩ = some (.slice AY Y.length cy) := cell_keep hb1 (by go_simp)
  have t2 : w1.cell? ⟨w.heap.size, 2, none⟩ = some (.slice AV V.length cv) := cell_keep hb1 (by go_simp)
  have t3 : w1.cell? ⟨w.heap.size + 1, 0, none⟩ = some (.int .i64 x1) := cell_keep hb1 (by go_simp)
  have t4 : w1.cell? ⟨w.heap.size + 1, 1, none⟩ = some (.int .i64 x2) := cell_keep hb1 (by go_simp)
  have t5 : w1.cell? ⟨w.heap.size + 1 + 1, 0, none⟩ = some (.int .i64 y1) := cell_keep hb1 (by go_simp)
  have t6 : w1.cell? ⟨w.heap.size + 1 + 1, 1, none⟩ = some (.int .i64 y2) := cell_keep hb1 (by go_simp)
  have tl : w1.cell? ⟨w.heap.size + 1 + 1 + 1, 0, none⟩ = some (.int .i64 lim) := cell_keep hb1 (by go_simp)
  have u0 : w1.cell? ⟨w.heap.size + 1 + 1 + 1 + 1, 0, none⟩ = some (.int .i64 0) := cell_keep hb1 (by go_simp)
  have x0f : w1.frozen? ⟨w.heap.size + 1 + 1 + 1 + 1, 0, none⟩ = false := (cell_frozen hb1 (v := .int .i64 0) (by go_simp)).trans (by go_simp)
  have u1 : w1.cell? ⟨w.heap.size + 1 + 1 + 1 + 1 + 1, 0, none⟩ = some (.int .i64 0) := cell_keep hb1 (by go_simp)
  have x1f : w1.frozen? ⟨w.heap.size + 1 + 1 + 1 + 1 + 1, 0, none⟩ = false := (cell_frozen hb1 (v := .int .i64 0) (by go_simp)).trans (by go_simp)
  have u2 : w1.cell? ⟨w.heap.size + 1 + 1 + 1 + 1 + 1 + 1, 0, none⟩ = some (.bool false) := cell_keep hb1 (by go_simp)
  have x2f : w1.frozen? ⟨w.heap.size + 1 + 1 + 1 + 1 + 1 + 1, 0, none⟩ = false := (cell_frozen hb1 (v := .bool false) (by go_simp)).trans (by go_simp)
  have u3 : w1.cell? ⟨w.heap.size + 1 + 1 + 1 + 1 + 1 + 1 + 1, 0, none⟩ = some (.int .i64 0) := cell_keep hb1 (by go_simp)
  have x3f : w1.frozen? ⟨w.heap.size + 1 + 1 + 1 + 1 + 1 + 1 + 1, 0, none⟩ = false := (cell_frozen hb1 (v := .int .i64 0) (by go_simp)).trans (by go_simp)
  have hq7 : w.heap.size + 1 + 1 + 1 + 1 + 1 + 1 + 1 < w1.heap.size := by omega
  have hq3 : w.heap.size + 1 + 1 + 1 < w1.heap.size := by omega
  have hq4 : w.heap.size + 1 + 1 + 1 + 1 < w1.heap.size := by omega
  have hq5 : w.heap.size + 1 + 1 + 1 + 1 + 1 < w1.heap.size := by omega
  have hq6 : w.heap.size + 1 + 1 + 1 + 1 + 1 + 1 < w1.heap.size := by omega
  have hq2 : w.heap.size + 1 + 1 < w1.heap.size := by omega
  have hq1 : w.heap.size + 1 < w1.heap.size := by omega
  have hq0 : w.heap.size < w1.heap.size := by omega
  clear hb1 hz1
  gi_wp2_with (fail)
  refine ⟨trivial, ?_⟩
  refine CallsIn.mono (callsIn_wide.2 (corners_any AX AY AV _ _ _ _ _ _ x1 x2 y1 y2 _)) ?_
  rintro e w3 ⟨rfl, rfl⟩
  gi_wp2_with (fail)
  obtain ⟨hct, hv1, hv2, ox1, ox2, oy1, oy2⟩ := cbE_ok hcb
  obtain ⟨W0, hW0⟩ : ∃ W0, ((w1.alloc (.cells #[.slice AX X.length cx, .slice AY Y.length cy, .slice AV V.length cv] 27)).alloc (.cells #[.int .i64 x1, .int .i64 x2] 37)).alloc (.cells #[.int .i64 y1, .int .i64 y2] 37) = W0 := ⟨_, rfl⟩
  have hs0 : W0.heap.size = w1.heap.size + 3 := by rw [← hW0]; clear hW0; simp
  have al : W0.cell? ⟨w.heap.size + 1 + 1 + 1, 0, none⟩ = some (.int .i64 lim) := by rw [← hW0]; clear hW0; go_simp
  have a0 : W0.cell? ⟨w.heap.size + 1 + 1 + 1 + 1, 0, none⟩ = some (.int .i64 0) := by rw [← hW0]; clear hW0; go_simp
  have g0 : W0.frozen? ⟨w.heap.size + 1 + 1 + 1 + 1, 0, none⟩ = false := by rw [← hW0]; clear hW0; go_simp
  have a1 : W0.cell? ⟨w.heap.size + 1 + 1 + 1 + 1 + 1, 0, none⟩ = some (.int .i64 0) := by rw [← hW0]; clear hW0; go_simp
  have g1 : W0.frozen? ⟨w.heap.size + 1 + 1 + 1 + 1 + 1, 0, none⟩ = false := by rw [← hW0]; clear hW0; go_simp
  have a2 : W0.cell? ⟨w.heap.size + 1 + 1 + 1 + 1 + 1 + 1, 0, none⟩ = some (.bool false) := by rw [← hW0]; clear hW0; go_simp
  have g2 : W0.frozen? ⟨w.heap.size + 1 + 1 + 1 + 1 + 1 + 1, 0, none⟩ = false := by rw [← hW0]; clear hW0; go_simp
  have a3 : W0.cell? ⟨w.heap.size + 1 + 1 + 1 + 1 + 1 + 1 + 1, 0, none⟩ = some (.int .i64 0) := by rw [← hW0]; clear hW0; go_simp
  have g3 : W0.frozen? ⟨w.heap.size + 1 + 1 + 1 + 1 + 1 + 1 + 1, 0, none⟩ = false := by rw [← hW0]; clear hW0; go_simp
  have b0 : W0.cell? ⟨w1.heap.size, 0, none⟩ = some (.slice AX X.length cx) := by rw [← hW0]; clear hW0; go_simp
  have b1 : W0.cell? ⟨w1.heap.size, 1, none⟩ = some (.slice AY Y.length cy) := by rw [← hW0]; clear hW0; go_simp
  have b2 : W0.cell? ⟨w1.heap.size, 2, none⟩ = some (.slice AV V.length cv) := by rw [← hW0]; clear hW0; go_simp
  have b3 : W0.cell? ⟨w1.heap.size + 1, 0, none⟩ = some (.int .i64 x1) := by rw [← hW0]; clear hW0; go_simp
  have b4 : W0.cell? ⟨w1.heap.size + 1, 1, none⟩ = some (.int .i64 x2) := by rw [← hW0]; clear hW0; go_simp
  have b5 : W0.cell? ⟨w1.heap.size + 1 + 1, 0, none⟩ = some (.int .i64 y1) := by rw [← hW0]; clear hW0; go_simp
  have b6 : W0.cell? ⟨w1.heap.size + 1 + 1, 1, none⟩ = some (.int .i64 y2) := by rw [← hW0]; clear hW0; go_simp
  have hB0 : Below w.heap.size w W0 := by rw [← hW0]; clear hW0; go_grown
  rw [hW0]
  clear hW0 t0 t1 t2 t3 t4 t5 t6 tl u0 u1 u2 u3 x0f x1f x2f x3f hbw1 hcb
  have hstops := corners_stops 8 (by omega) w1.heap.size (w1.heap.size + 1) (w1.heap.size + 1 + 1) w.heap.size w1.heap.size B AX AY AV cx cy cv X Y V x1 x2 y1 y2 _ _ (Lib.hid rfl) (Lib.hid rfl) hct ox1 ox2 oy1 oy2 (by omega) (by omega) hB (by omega) W0 (by omega) (h.below (hB0.mono hB)) b0 b1 b2 b3 b4 b5 b6
  refine wpIn_rangeFunc_ownH rfl (by omega) (gf := 111) (lb := #[.pointer (some ⟨w1.heap.size, 0, none⟩), .pointer (some ⟨w1.heap.size + 1 + 1, 0, none⟩), .pointer (some ⟨w1.heap.size + 1, 0, none⟩)]) rfl trivial (enters_of Try.func111 (by kernel_rfl) rfl)
    hstops (fun h k => KP.trans h k) (kp_putObj (by omega)) (Below.refl _ _) (fun _ => rfl)
    (fun pre W => (W.cell? ⟨w1.heap.size, 0, none⟩ = some (.slice AX X.length cx) ∧ W.cell? ⟨w.heap.size + 1 + 1 + 1, 0, none⟩ = some (.int .i64 lim) ∧ W.cell? ⟨w.heap.size + 1 + 1 + 1 + 1, 0, none⟩ = some (.int .i64 0) ∧ W.cell? ⟨w.heap.size + 1 + 1 + 1 + 1 + 1, 0, none⟩ = some (.int .i64 0) ∧ W.cell? ⟨w.heap.size + 1 + 1 + 1 + 1 + 1 + 1, 0, none⟩ = some (.bool false) ∧ W.cell? ⟨w.heap.size + 1 + 1 + 1 + 1 + 1 + 1 + 1, 0, none⟩ = some (.int .i64 0) ∧ W.frozen? ⟨w.heap.size + 1 + 1 + 1 + 1, 0, none⟩ = false ∧ W.frozen? ⟨w.heap.size + 1 + 1 + 1 + 1 + 1, 0, none⟩ = false ∧ W.frozen? ⟨w.heap.size + 1 + 1 + 1 + 1 + 1 + 1, 0, none⟩ = false ∧ W.frozen? ⟨w.heap.size + 1 + 1 + 1 + 1 + 1 + 1 + 1, 0, none⟩ = false ∧ belL lim (pre.map (·.1)) = none) ∧ Below w.heap.size w W)
    (fun c pre W => (c = .ret ∧ ∃ cn : Cn, belL lim (pre.map (·.1)) = some cn ∧ W.cell? ⟨w.heap.size + 1 + 1 + 1 + 1, 0, none⟩ = some (.int .i64 cn.2.2.1) ∧ W.cell? ⟨w.heap.size + 1 + 1 + 1 + 1 + 1, 0, none⟩ = some (.int .i64 cn.2.2.2) ∧ W.cell? ⟨w.heap.size + 1 + 1 + 1 + 1 + 1 + 1, 0, none⟩ = some (.bool false) ∧ W.cell? ⟨w.heap.size + 1 + 1 + 1 + 1 + 1 + 1 + 1, 0, none⟩ = some (.int .i64 0)) ∧ Below w.heap.size w W)
    (OwnFrom.and (Own.from (fun s A B row hs hg hr => ⟨cell_kept hs.1 hg hr, cell_kept hs.2.1 hg hr, cell_kept hs.2.2.1 hg hr, cell_kept hs.2.2.2.1 hg hr, cell_kept hs.2.2.2.2.1 hg hr, cell_kept hs.2.2.2.2.2.1 hg hr, (frozen_kept hs.2.2.1 hg hr).trans hs.2.2.2.2.2.2.1, (frozen_kept hs.2.2.2.1 hg hr).trans hs.2.2.2.2.2.2.2.1, (frozen_kept hs.2.2.2.2.1 hg hr).trans hs.2.2.2.2.2.2.2.2.1, (frozen_kept hs.2.2.2.2.2.1 hg hr).trans hs.2.2.2.2.2.2.2.2.2.1, hs.2.2.2.2.2.2.2.2.2.2⟩) _) (ownFrom_below (Nat.le_refl _) (by omega)))
    (fun c => OwnFrom.and (Own.from (fun s A B row hs hg hr => by
      obtain ⟨rfl, cn, hb, h0, h1, h2, h3⟩ := hs
      exact ⟨rfl, cn, hb, cell_kept h0 hg hr, cell_kept h1 hg hr, cell_kept h2 hg hr, cell_kept h3 hg hr⟩) _) (ownFrom_below (Nat.le_refl _) (by omega)))
    ⟨⟨b0, al, a0, a1, a2, a3, g0, g1, g2, g3, rfl⟩, hB0⟩
    (fun x a' W => ∃ Bx : Nat, w1.heap.size < Bx ∧ Bx < W.heap.size ∧ (W.cell? ⟨Bx, 0, none⟩ = some (.int .i64 x.1.1) ∧ W.cell? ⟨Bx, 1, none⟩ = some (.int .i64 x.1.2.1) ∧ W.cell? ⟨Bx, 2, none⟩ = some (.int .i64 x.1.2.2.1) ∧ W.cell? ⟨Bx, 3, none⟩ = some (.int .i64 x.1.2.2.2)) ∧
      a' = { tmps := #[.agg #[.slice AX X.length cx, .slice AY Y.length cy, .slice AV V.length cv], .agg #[.int .i64 x1, .int .i64 x2], .agg #[.int .i64 y1, .int .i64 y2], .int .i64 lim, .pointer (some ⟨w.heap.size, 0, none⟩), .pointer (some ⟨w.heap.size + 1, 0, none⟩), .pointer (some ⟨w.heap.size + 1 + 1, 0, none⟩), .pointer (some ⟨w.heap.size + 1 + 1 + 1, 0, none⟩), .pointer (some ⟨w.heap.size + 1 + 1 + 1 + 1, 0, none⟩), .pointer (some ⟨w.heap.size + 1 + 1 + 1 + 1 + 1, 0, none⟩), .pointer (some ⟨w.heap.size + 1 + 1 + 1 + 1 + 1 + 1, 0, none⟩), .pointer (some ⟨w.heap.size + 1 + 1 + 1 + 1 + 1 + 1 + 1, 0, none⟩), .int .i64 0, .pointer (some ⟨Bx, 0, none⟩), .agg #[.slice AX X.length cx, .slice AY Y.length cy, .slice AV V.length cv], .agg #[.int .i64 x1, .int .i64 x2], .agg #[.int .i64 y1, .int .i64 y2], .int .i64 0, .int .i64 0, .bool false, undef, .agg #[.slice AX X.length cx, .slice AY Y.length cy, .slice AV V.length cv], .agg #[.int .i64 x1, .int .i64 x2], .agg #[.int .i64 y1, .int .i64 y2], .func (.func 111) #[] #[.pointer (some ⟨w1.heap.size, 0, none⟩), .pointer (some ⟨w1.heap.size + 1 + 1, 0, none⟩), .pointer (some ⟨w1.heap.size + 1, 0, none⟩)], cnV x.1, undef, undef, undef, undef, undef, undef, undef, undef, undef], defers := [] })
    (fun x a' => by
      rintro s A C row ⟨Bx, h1, h2, h3, h4⟩ hg hr
      exact ⟨Bx, h1, Nat.lt_of_lt_of_le h2 hg.size, ⟨cell_kept h3.1 hg (fun r e => (hr r e).2), cell_kept h3.2.1 hg (fun r e => (hr r e).2), cell_kept h3.2.2.1 hg (fun r e => (hr r e).2), cell_kept h3.2.2.2 hg (fun r e => (hr r e).2)⟩, h4⟩)
    ?assign ?body ?done ?stop
  case assign =>
    rintro l pre x W K ⟨⟨db, dl, d0, d1, d2, d3, d4, d5, d6, d7, hp⟩, hBW⟩ hK
    have hsW := hBW.size
    have l3 := World.block_lt_of_cell? W _ dl
    have l4 := World.block_lt_of_cell? W _ d0
    have l5 := World.block_lt_of_cell? W _ d1
    have l6 := World.block_lt_of_cell? W _ d2
    have l7 := World.block_lt_of_cell? W _ d3
    have hk9 := World.block_lt_of_cell? W _ db
    simp only at l3 l4 l5 l6 l7 hk9
    have HP := Lib.hid hp
    clear hp
    dsimp only [cnV]
    gi_wp2
    exact hK _ _ ((KeepsOthers.alloc _ _).from _) (KP.of_below ((Below.refl _ _).alloc (Nat.le_refl _) _) (by omega))
      ⟨⟨by go_simp, by go_simp, by go_simp, by go_simp, by go_simp, by go_simp, by go_simp, by go_simp, by go_simp, by go_simp, HP.out⟩, by go_grown⟩ ⟨W.heap.size, by omega, by simp, ⟨by go_simp, by go_simp, by go_simp, by go_simp⟩, rfl⟩
  case body =>
    rintro l pre x a' W hl hrec ⟨⟨db, dl, d0, d1, d2, d3, d4, d5, d6, d7, hp⟩, hBW⟩ ⟨Bx, hBx, hBx2, ⟨f0, f1, f2, f3⟩, rfl⟩ hlen
    have hsW := hBW.size
    obtain ⟨⟨num, den, px, py⟩, hgood⟩ := x
    have hgood' := hgood
    obtain ⟨gd1, gd2, gd3, gd4⟩ := hgood'
    simp only at gd1 gd2 gd3 gd4 f0 f1 f2 f3
    have hmx : Try.prog.follows .mixedOrders = true := by kernel_rfl
    have HCE := Lib.hid (fun W => vceil_any num den W gd1 (by omega) (by omega) (by omega))
    have HP := Lib.hid hp
    have HBW := Lib.hid hBW
    clear gd1 gd2 gd3 gd4 hp hBW
    dsimp only [cnV]
    gi_upto_region 6 with (fail)
    have hst := QZ6_stays Bx num den lim
    refine region_inv2 (by kernel_rfl) (RQ (QZ6 Bx num den lim) W) (by kernel_rfl) rfl (RQ.start _ _ _) ?hstep ?hend
    case hstep =>
      intro i' o ho val L b' x hF hR hpre hl
      match i', ho with
      | 0, ho =>
        simp at ho
        subst ho
        refine step_plain rfl ?_
        have e13 := hF.was 13 (by kernel_rfl) rfl
        have hgoal : ∀ v W', Below x.heap.size x W' → QZ6 Bx num den lim 0 v W' → RQ (QZ6 Bx num den lim) W (upd val 0 v) (L.setIfInBounds 0 true) W' := fun v W' hb hq => hR.step hst hb hq
        clear hF hpre hl hR
        go_simp
        exact ⟨_, rfl, hgoal _ _ (Below.refl _ _) rfl⟩
      | 1, ho =>
        simp at ho
        subst ho
        refine step_plain rfl ?_
        have e26 := hF.gave 0 rfl (hpre ⟨0, .data⟩ (by simp) rfl) rfl
        have v0 := hR.2 0 (hpre ⟨0, .data⟩ (by simp) rfl)
        rw [show val 0 = .pointer (some ⟨Bx, 0, none⟩) from v0] at e26
        clear v0
        have hgoal : ∀ v W', Below x.heap.size x W' → QZ6 Bx num den lim 1 v W' → RQ (QZ6 Bx num den lim) W (upd val 1 v) (L.setIfInBounds 1 true) W' := fun v W' hb hq => hR.step hst hb hq
        have q0 := cell_keep hR.1 f0
        have q1 := cell_keep hR.1 f1
        have q2 := cell_keep hR.1 dl
        clear hF hpre hl hR
        go_simp
        exact ⟨_, rfl, hgoal _ _ (Below.refl _ _) rfl⟩
      | 2, ho =>
        simp at ho
        subst ho
        refine step_plain rfl ?_
        have e27 := hF.gave 1 rfl (hpre ⟨1, .data⟩ (by simp) rfl) rfl
        have v1 := hR.2 1 (hpre ⟨1, .data⟩ (by simp) rfl)
        rw [show val 1 = .agg #[.int .i64 num, .int .i64 den] from v1] at e27
        clear v1
        have hgoal : ∀ v W', Below x.heap.size x W' → QZ6 Bx num den lim 2 v W' → RQ (QZ6 Bx num den lim) W (upd val 2 v) (L.setIfInBounds 2 true) W' := fun v W' hb hq => hR.step hst hb hq
        have q0 := cell_keep hR.1 f0
        have q1 := cell_keep hR.1 f1
        have q2 := cell_keep hR.1 dl
        have hM := Lib.hid hR.1
        clear hF hpre hl hR
        go_simp
        refine ⟨trivial, ?_⟩
        refine CallsIn.mono (CallsIn.inRound l (callsIn_wide.2 (HCE.out _))) ?_
        rintro e y9 ⟨rfl, hb9⟩
        exact ⟨_, rfl, hgoal _ _ hb9 rfl⟩
      | 3, ho =>
        simp at ho
        subst ho
        refine step_plain rfl ?_
        have e7 := hF.was 7 (by kernel_rfl) rfl
        have hgoal : ∀ v W', Below x.heap.size x W' → QZ6 Bx num den lim 3 v W' → RQ (QZ6 Bx num den lim) W (upd val 3 v) (L.setIfInBounds 3 true) W' := fun v W' hb hq => hR.step hst hb hq
        have q0 := cell_keep hR.1 f0
        have q1 := cell_keep hR.1 f1
        have q2 := cell_keep hR.1 dl
        clear hF hpre hl hR
        go_simp
        exact ⟨_, rfl, hgoal _ _ (Below.refl _ _) rfl⟩
      | 4, ho =>
        simp at ho
        subst ho
        refine step_plain rfl ?_
        have e28 := hF.gave 2 rfl (hpre ⟨2, .data⟩ (by simp) rfl) rfl
        have v2 := hR.2 2 (hpre ⟨2, .data⟩ (by simp) rfl)
        rw [show val 2 = .int .i64 (cl num den) from v2] at e28
        clear v2
        have e29 := hF.gave 3 rfl (hpre ⟨3, .data⟩ (by simp) rfl) rfl
        have v3 := hR.2 3 (hpre ⟨3, .data⟩ (by simp) rfl)
        rw [show val 3 = .int .i64 lim from v3] at e29
        clear v3
        have hgoal : ∀ v W', Below x.heap.size x W' → QZ6 Bx num den lim 4 v W' → RQ (QZ6 Bx num den lim) W (upd val 4 v) (L.setIfInBounds 4 true) W' := fun v W' hb hq => hR.step hst hb hq
        clear hF hpre hl hR
        go_simp
        exact ⟨_, rfl, hgoal _ _ (Below.refl _ _) rfl⟩
      | i + 5, ho => simp at ho
    case hend =>
    intro val L b' W1 hF hall hR
    have e := hF.all (by kernel_rfl) hall
    have v4 := hR.2 4 (hall 4 (by decide))
    have hb1 := hR.1
    have dl := cell_keep hb1 dl
    have q4 := (cell_frozen hb1 d0).trans d4
    have q5 := (cell_frozen hb1 d1).trans d5
    have q6 := (cell_frozen hb1 d2).trans d6
    have q7 := (cell_frozen hb1 d3).trans d7
    have d0 := cell_keep hb1 d0
    have d1 := cell_keep hb1 d1
    have d2 := cell_keep hb1 d2
    have d3 := cell_keep hb1 d3
    have f2 := cell_keep hb1 f2
    have f3 := cell_keep hb1 f3
    have db := cell_keep hb1 db
    have hBW1 := HBW.out.trans (hb1.mono hsW)
    clear hF hall hR hst d4 d5 d6 d7 f0 f1
    subst e
    simp [final, dstOf, List.range, List.range.loop]
    rw [show val 4 = .bool (decide (lim < cl num den)) from v4]
    clear v4
    generalize val 0 = v0, val 1 = v1, val 2 = v2, val 3 = v3
    by_cases hlt : lim < cl num den
    · rw [decide_eq_true hlt]
      gi_upto_region 7 with (fail)
      refine region_inv2 (by kernel_rfl) (R7 (w1.heap.size + 3) w.heap.size w W1 Bx px py) (by kernel_rfl) rfl
        ⟨KeepsFrom.of_below (Below.refl _ _).drew, hBW1.drew, fun i _ hl => (by rw [getD_replicate_no] at hl; cases hl), f2, f3,
          fun k hk => (by match k, hk with | 0, _ => exact q4 | 1, _ => exact q5 | 2, _ => exact q6 | 3, _ => exact q7),
          fun k hk => (by match k, hk with
            | 0, _ => (show (W1.cell? ⟨w.heap.size + 1 + 1 + 1 + 1, 0, none⟩).isSome = true; rw [d0]; rfl)
            | 1, _ => (show (W1.cell? ⟨w.heap.size + 1 + 1 + 1 + 1 + 1, 0, none⟩).isSome = true; rw [d1]; rfl)
            | 2, _ => (show (W1.cell? ⟨w.heap.size + 1 + 1 + 1 + 1 + 1 + 1, 0, none⟩).isSome = true; rw [d2]; rfl)
            | 3, _ => (show (W1.cell? ⟨w.heap.size + 1 + 1 + 1 + 1 + 1 + 1 + 1, 0, none⟩).isSome = true; rw [d3]; rfl)),
          fun k _ hl => (by rw [getD_replicate_no] at hl; cases hl)⟩ ?hstep ?hend
      case hstep =>
        intro i' o ho val L b' x hF hR hpre hl
        match i', ho with
        | 0, ho =>
          simp at ho
          subst ho
          refine step_plain rfl ?_
          have e13 := hF.was 13 (by kernel_rfl) rfl
          have hgoal := hR.put (i := 0) (by omega)
          have q0 := hR.x
          have q1 := hR.y
          clear hF hpre hl hR
          go_simp
          exact ⟨_, rfl, hgoal⟩
        | 1, ho =>
          simp at ho
          subst ho
          refine step_plain rfl ?_
          have e31 := hF.gave 0 rfl (hpre ⟨0, .data⟩ (by simp) rfl) rfl
          have v0 := hR.v 0 (by omega) (hpre ⟨0, .data⟩ (by simp) rfl)
          rw [show val 0 = .pointer (some ⟨Bx, 2, none⟩) from v0] at e31
          clear v0
          have hgoal := hR.put (i := 1) (by omega)
          have q0 := hR.x
          have q1 := hR.y
          clear hF hpre hl hR
          go_simp
          exact ⟨_, rfl, hgoal⟩
        | 2, ho =>
          simp at ho
          subst ho
          refine step_plain rfl ?_
          have e13 := hF.was 13 (by kernel_rfl) rfl
          have hgoal := hR.put (i := 2) (by omega)
          have q0 := hR.x
          have q1 := hR.y
          clear hF hpre hl hR
          go_simp
          exact ⟨_, rfl, hgoal⟩
        | 3, ho =>
          simp at ho
          subst ho
          refine step_plain rfl ?_
          have e33 := hF.gave 2 rfl (hpre ⟨2, .data⟩ (by simp) rfl) rfl
          have v2 := hR.v 2 (by omega) (hpre ⟨2, .data⟩ (by simp) rfl)
          rw [show val 2 = .pointer (some ⟨Bx, 3, none⟩) from v2] at e33
          clear v2
          have hgoal := hR.put (i := 3) (by omega)
          have q0 := hR.x
          have q1 := hR.y
          clear hF hpre hl hR
          go_simp
          exact ⟨_, rfl, hgoal⟩
        | 4, ho =>
          simp at ho
          subst ho
          refine step_plain rfl ?_
          have e8 := hF.was 8 (by kernel_rfl) rfl
          have e32 := hF.gave 1 rfl (hpre ⟨1, .data⟩ (by simp) rfl) rfl
          have v1 := hR.v 1 (by omega) (hpre ⟨1, .data⟩ (by simp) rfl)
          rw [show val 1 = .int .i64 px from v1] at e32
          clear v1
          have hgoal := hR.store (k := 0) (by omega)
          obtain ⟨u, hu⟩ := Option.isSome_iff_exists.1 (hR.c 0 (by omega))
          have q0 : x.cell? ⟨w.heap.size + 1 + 1 + 1 + 1, 0, none⟩ = some u := hu
          have q1 : x.frozen? ⟨w.heap.size + 1 + 1 + 1 + 1, 0, none⟩ = false := hR.f 0 (by omega)
          clear hF hpre hl hR hu
          go_simp
          exact ⟨undef, hgoal⟩
        | 5, ho =>
          simp at ho
          subst ho
          refine step_plain rfl ?_
          have e9 := hF.was 9 (by kernel_rfl) rfl
          have e34 := hF.gave 3 rfl (hpre ⟨3, .data⟩ (by simp) rfl) rfl
          have v3 := hR.v 3 (by omega) (hpre ⟨3, .data⟩ (by simp) rfl)
          rw [show val 3 = .int .i64 py from v3] at e34
          clear v3
          have hgoal := hR.store (k := 1) (by omega)
          obtain ⟨u, hu⟩ := Option.isSome_iff_exists.1 (hR.c 1 (by omega))
          have q0 : x.cell? ⟨w.heap.size + 1 + 1 + 1 + 1 + 1, 0, none⟩ = some u := hu
          have q1 : x.frozen? ⟨w.heap.size + 1 + 1 + 1 + 1 + 1, 0, none⟩ = false := hR.f 1 (by omega)
          clear hF hpre hl hR hu
          go_simp
          exact ⟨undef, hgoal⟩
        | 6, ho =>
          simp at ho
          subst ho
          refine step_plain rfl ?_
          have e10 := hF.was 10 (by kernel_rfl) rfl
          have hgoal := hR.store (k := 2) (by omega)
          obtain ⟨u, hu⟩ := Option.isSome_iff_exists.1 (hR.c 2 (by omega))
          have q0 : x.cell? ⟨w.heap.size + 1 + 1 + 1 + 1 + 1 + 1, 0, none⟩ = some u := hu
          have q1 : x.frozen? ⟨w.heap.size + 1 + 1 + 1 + 1 + 1 + 1, 0, none⟩ = false := hR.f 2 (by omega)
          clear hF hpre hl hR hu
          go_simp
          exact ⟨undef, hgoal⟩
        | 7, ho =>
          simp at ho
          subst ho
          refine step_plain rfl ?_
          have e11 := hF.was 11 (by kernel_rfl) rfl
          have hgoal := hR.store (k := 3) (by omega)
          obtain ⟨u, hu⟩ := Option.isSome_iff_exists.1 (hR.c 3 (by omega))
          have q0 : x.cell? ⟨w.heap.size + 1 + 1 + 1 + 1 + 1 + 1 + 1, 0, none⟩ = some u := hu
          have q1 : x.frozen? ⟨w.heap.size + 1 + 1 + 1 + 1 + 1 + 1 + 1, 0, none⟩ = false := hR.f 3 (by omega)
          clear hF hpre hl hR hu
          go_simp
          exact ⟨undef, hgoal⟩
        | i + 8, ho => simp at ho
      case hend =>
      intro val L b' W2 hF hall hR
      gi_wp2
      refine ⟨(KeepsFrom.of_below hb1).trans hR.k, ⟨rfl, num, den, px, py, ?_, hR.o 0 (by omega) (hall 4 (by decide)), hR.o 1 (by omega) (hall 5 (by decide)), hR.o 2 (by omega) (hall 6 (by decide)), hR.o 3 (by omega) (hall 7 (by decide))⟩, hR.b⟩
      rw [List.map_append]
      exact belL_yes HP.out hlt
    · rw [decide_eq_false hlt]
      gi_wp2
      refine ⟨KeepsFrom.of_below hb1, KP.of_below hb1 (by omega), ⟨db, dl, d0, d1, d2, d3, q4, q5, q6, q7, ?_⟩, hBW1⟩
      rw [List.map_append]
      exact belL_no HP.out (by show ¬ lim < cl num den; omega)
  case done =>
    rintro D ys W hD hys ⟨⟨db, dl, d0, d1, d2, d3, d4, d5, d6, d7, hp⟩, hBW⟩ hK
    have hmx : Try.prog.follows .mixedOrders = true := by kernel_rfl
    have e9 := HBS.out
    rw [← hys, hp] at e9
    simp at e9
    obtain ⟨rfl, rfl, rfl, rfl⟩ := e9
    clear HBS hp
    have l3 := World.block_lt_of_cell? W _ dl
    have hW4 : ∃ W4, (((W.setCell ⟨w.heap.size + 1 + 1 + 1 + 1, 0, none⟩ (.int .i64 0)).setCell ⟨w.heap.size + 1 + 1 + 1 + 1 + 1, 0, none⟩ (.int .i64 0)).setCell ⟨w.heap.size + 1 + 1 + 1 + 1 + 1 + 1, 0, none⟩ (.bool true)).setCell ⟨w.heap.size + 1 + 1 + 1 + 1 + 1 + 1 + 1, 0, none⟩ (.int .i64 0) = W4 := ⟨_, rfl⟩
    obtain ⟨W4, hW4⟩ := hW4
    have hK4 : W4.heap[D]? = some (.deferred (some [])) := by
      rw [← hW4, Below.heap_setCell _ _ _ _ (by simp; omega), Below.heap_setCell _ _ _ _ (by simp; omega), Below.heap_setCell _ _ _ _ (by simp; omega), Below.heap_setCell _ _ _ _ (by simp; omega)]
      exact hK
    have hB4 : Below w.heap.size w W4 := by
      rw [← hW4]
      exact (((hBW.setCell (p := ⟨w.heap.size + 1 + 1 + 1 + 1, 0, none⟩) (by simp; omega) _).setCell (p := ⟨w.heap.size + 1 + 1 + 1 + 1 + 1, 0, none⟩) (by simp; omega) _).setCell (p := ⟨w.heap.size + 1 + 1 + 1 + 1 + 1 + 1, 0, none⟩) (by simp; omega) _).setCell (p := ⟨w.heap.size + 1 + 1 + 1 + 1 + 1 + 1 + 1, 0, none⟩) (by simp; omega) _
    have c8 : W4.cell? ⟨w.heap.size + 1 + 1 + 1 + 1, 0, none⟩ = some (.int .i64 0) := by
      rw [← hW4, World.cell?_setCell_other _ _ _ _ (by simp), World.cell?_setCell_other _ _ _ _ (by simp), World.cell?_setCell_other _ _ _ _ (by simp)]
      exact World.cell?_setCell_same' _ _ _ (by rw [d0]; rfl)
    have c9 : W4.cell? ⟨w.heap.size + 1 + 1 + 1 + 1 + 1, 0, none⟩ = some (.int .i64 0) := by
      rw [← hW4, World.cell?_setCell_other _ _ _ _ (by simp), World.cell?_setCell_other _ _ _ _ (by simp)]
      exact World.cell?_setCell_same' _ _ _ (by rw [World.cell?_setCell_other _ _ _ _ (by simp), d1]; rfl)
    have c10 : W4.cell? ⟨w.heap.size + 1 + 1 + 1 + 1 + 1 + 1, 0, none⟩ = some (.bool true) := by
      rw [← hW4, World.cell?_setCell_other _ _ _ _ (by simp)]
      exact World.cell?_setCell_same' _ _ _ (by rw [World.cell?_setCell_other _ _ _ _ (by simp), World.cell?_setCell_other _ _ _ _ (by simp), d2]; rfl)
    have c11 : W4.cell? ⟨w.heap.size + 1 + 1 + 1 + 1 + 1 + 1 + 1, 0, none⟩ = some (.int .i64 0) := by
      rw [← hW4]
      exact World.cell?_setCell_same' _ _ _ (by rw [World.cell?_setCell_other _ _ _ _ (by simp), World.cell?_setCell_other _ _ _ _ (by simp), World.cell?_setCell_other _ _ _ _ (by simp), d3]; rfl)
    have hbD := belowK_b (w := W0) (Nat.le_refl _) W4 D _ (.deferred none) hD hK4 rfl rfl
    have r8 := (hbD.cell (p := ⟨w.heap.size + 1 + 1 + 1 + 1, 0, none⟩) (by show w.heap.size + 1 + 1 + 1 + 1 < _; omega)).trans c8
    have r9 := (hbD.cell (p := ⟨w.heap.size + 1 + 1 + 1 + 1 + 1, 0, none⟩) (by show w.heap.size + 1 + 1 + 1 + 1 + 1 < _; omega)).trans c9
    have r10 := (hbD.cell (p := ⟨w.heap.size + 1 + 1 + 1 + 1 + 1 + 1, 0, none⟩) (by show w.heap.size + 1 + 1 + 1 + 1 + 1 + 1 < _; omega)).trans c10
    have r11 := (hbD.cell (p := ⟨w.heap.size + 1 + 1 + 1 + 1 + 1 + 1 + 1, 0, none⟩) (by show w.heap.size + 1 + 1 + 1 + 1 + 1 + 1 + 1 < _; omega)).trans c11
    gi_wp2
    clear hW4 d0 d1 d2 d3 d4 d5 d6 d7 db dl hK c8 c9 c10 c11
    refine ⟨by simp, .inl ⟨_, _, rfl, run_takeDeferred hK4, ?_⟩⟩
    refine ⟨.tuple #[.int .i64 0, .int .i64 0, .bool true, .int .i64 0], ?_, rfl, hB4.trans (hbD.mono (by omega))⟩
    rw [results_cell4 rfl]
    go_simp
  case stop =>
    rintro D c pre W hD hpre ⟨⟨rfl, ⟨num, den, px, py⟩, hb, c8, c9, c10, c11⟩, hBW⟩ hK
    have e9 := HBS.out
    obtain ⟨r, hr⟩ := hpre
    have hf : belL lim (cornersL X Y V (endsL X x1 x2) (endsL Y y1 y2)) = some (num, den, px, py) := by
      rw [← hr]
      unfold belL at hb ⊢
      rw [List.find?_append, hb]
      rfl
    rw [hf] at e9
    simp at e9
    obtain ⟨rfl, rfl, rfl, rfl⟩ := e9
    clear HBS hf hr hb
    simp only at c8 c9
    have hbD := belowK_b (w := W0) (Nat.le_refl _) W D _ (.deferred none) hD hK rfl rfl
    have r8 := (hbD.cell (p := ⟨w.heap.size + 1 + 1 + 1 + 1, 0, none⟩) (by show w.heap.size + 1 + 1 + 1 + 1 < _; omega)).trans c8
    have r9 := (hbD.cell (p := ⟨w.heap.size + 1 + 1 + 1 + 1 + 1, 0, none⟩) (by show w.heap.size + 1 + 1 + 1 + 1 + 1 < _; omega)).trans c9
    have r10 := (hbD.cell (p := ⟨w.heap.size + 1 + 1 + 1 + 1 + 1 + 1, 0, none⟩) (by show w.heap.size + 1 + 1 + 1 + 1 + 1 + 1 < _; omega)).trans c10
    have r11 := (hbD.cell (p := ⟨w.heap.size + 1 + 1 + 1 + 1 + 1 + 1 + 1, 0, none⟩) (by show w.heap.size + 1 + 1 + 1 + 1 + 1 + 1 + 1 < _; omega)).trans c11
    gi_wp2
    refine ⟨by simp, .inl ⟨_, _, rfl, run_takeDeferred hK, ?_⟩⟩
    refine ⟨.tuple #[.int .i64 s1, .int .i64 s2, .bool false, .int .i64 0], ?_, rfl, hBW.trans (hbD.mono (by omega))⟩
    rw [results_cell4 rfl]
    go_simp

end Go.Proofs.Ytjdahphnmeaolaa

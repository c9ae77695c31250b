/- Contracts of the functions that the statement reaches: Bound, Great, Under, Gst, Meet, App, Chk, Copy, Rcorn, Comp, Rval, Rct. -/
import Derived.Test.YtnnmmojlgikdgaaM1
import Derived.Deep.AppendLies
import Derived.Deep.Upon
import Derived.Maps.AppendAt
import Derived.CallsIn

/- spans.Bound. -/
namespace Go.Proofs.Ytnnmmojlgikdgaa
open Go.RowKit Go.Shelf

attribute [local go_sem] Oper.semAt_some

def bndStep (s : Int × Int) (c : Cn) : Int × Int := (min s.1 (fl c.1 c.2.1), max s.2 (cl c.1 c.2.1))
def bndL (l : List Cn) : Int × Int := l.foldl bndStep (1000000, -1000000)
theorem bndL_snoc (l : List Cn) (c : Cn) : bndL (l ++ [c]) = bndStep (bndL l) c := by simp [bndL]

def bndG (l : List GC) : Int × Int := bndL (l.map (·.1))
theorem bndG_snoc (l : List GC) (c : GC) : bndG (l ++ [c]) = (min (bndG l).1 (fl c.1.1 c.1.2.1), max (bndG l).2 (cl c.1.1 c.1.2.1)) := by
  simp [bndG, bndL_snoc, bndStep]

theorem cbE_ok {X Y : List Int} {V : List (List Int)} {x1 x2 y1 y2 : Int} (h : cbE X Y V x1 x2 y1 y2 = 0) : ctB X Y V = true ∧ vS (x1, x2) = true ∧ vS (y1, y2) = true ∧ On X x1 ∧ On X x2 ∧ On Y y1 ∧ On Y y2 := by
  unfold cbE at h
  split at h
  · rename_i h1
    split at h
    · rename_i h2
      split at h
      · rename_i h3
        split at h
        · rename_i h4
          simp [onB, wB] at h3 h4
          simp at h2
          exact ⟨h1, h2.1, h2.2, ⟨h3.1.1, h3.1.2⟩, ⟨h3.2.1, h3.2.2⟩, ⟨h4.1.1, h4.1.2⟩, ⟨h4.2.1, h4.2.2⟩⟩
        · cases h
      · cases h
    · cases h
  · cases h

theorem cell_frozen {W w1 : World} (hb : Below W.heap.size W w1) {b o : Nat} {v : Value} (h : W.cell? ⟨b, o, none⟩ = some v) : w1.frozen? ⟨b, o, none⟩ = W.frozen? ⟨b, o, none⟩ :=
  hb.frozen (p := ⟨b, o, none⟩) (World.block_lt_of_cell? W _ h)
theorem KP.setCell {n m : Nat} {A : World} {p : Addr} (h1 : n ≤ p.block) (h2 : p.block < m) (u : Value) : KP n m A (A.setCell p u) :=
  ⟨(Below.refl _ _).setCell h1 u, fun k hk _ ho _ => (Below.heap_setCell A p u k (by omega)).trans ho⟩
theorem KeepsFrom.of_below {B : Nat} {A C : World} (h : Below A.heap.size A C) : KeepsFrom B A C :=
  ⟨h.size, fun k _ _ hk _ => (h.block k (Array.getElem?_eq_some_iff.1 hk).1).trans hk⟩
theorem kp_putObj {n m : Nat} {w : World} (hn : n ≤ w.heap.size) (W : World) (l : Nat) (o o' : Obj) (hl : w.heap.size ≤ l) (h : W.heap[l]? = some o) (hc : o.isCells = false) (hk : o.isWalk = false) : KP n m W (W.putObj l o') :=
  ⟨belowK_b hn W l o o' hl h hc hk, fun j _ u hu hcu => by
    rw [World.putObj_heap_other (fun e => by subst e; rw [h] at hu; cases hu; rw [hc] at hcu; cases hcu)]
    exact hu⟩

set_option maxRecDepth 100000 in
set_option maxHeartbeats 2000000 in
theorem bound_ok (AX AY AV : Option Addr) (nx cx ny cy nv cv B : Nat) (X Y : List Int) (V : List (List Int)) (x1 x2 y1 y2 : Int) (w : World) (hx : X.length = nx) (hy : Y.length = ny) (hv : V.length = nv) (hnx : nx ≤ maxLen) (hny : ny ≤ maxLen) (hnv : nv ≤ maxLen) (hnr : ∀ r ∈ V, r.length ≤ maxLen)
    (hB : B ≤ w.heap.size) (h : TB w B AX AY AV X Y V) (hcb : cbE X Y V x1 x2 y1 y2 = 0) :
    Calls Try.prog 47 #[.agg #[.slice AX nx cx, .slice AY ny cy, .slice AV nv cv], .agg #[.int .i64 x1, .int .i64 x2], .agg #[.int .i64 y1, .int .i64 y2]] w fun e w' =>
      e = .returned (.tuple #[.agg #[.int .i64 (bndL (cornersL X Y V (endsL X x1 x2) (endsL Y y1 y2))).1, .int .i64 (bndL (cornersL X Y V (endsL X x1 x2) (endsL Y y1 y2))).2], .int .i64 0]) ∧ Below w.heap.size w w' := by
  subst hx hy hv
  refine (callsIn_wide (n := 9)).1 ?_
  refine callsIn_of_wp_marks Try.func47 rfl trivial ?_ rfl
  simp only [Try.ntmps47, List.size_toArray, List.length_cons, List.length_nil, Nat.reduceAdd, Nat.reduceSub, Array.replicate_succ, Array.replicate_zero, List.push_toArray, List.append_toArray, List.nil_append, List.cons_append]
  gi_wp2_with (fail)
  refine ⟨trivial, ?_⟩
  refine CallsIn.mono (callsIn_wide.2 (checkBox_any AX AY AV _ _ _ _ _ _ B X Y V x1 x2 y1 y2 _ rfl rfl rfl hnx hny hnv hnr ?c1 (h.below ?c2))) ?_
  case c1 => simp; omega
  case c2 => go_grown
  rintro e w1 ⟨rfl, hb1⟩
  rw [hcb]
  have hz1 := hb1.size
  simp at hz1
  have hbw1 : Below w.heap.size w w1 := Below.trans (by go_grown) (hb1.mono (by simp; omega))
  have t0 : w1.cell? ⟨w.heap.size, 0, none⟩ = some (.slice AX X.length cx) := cell_keep hb1 (by go_simp)
  have t1 : w1.cell? ⟨w.heap.size, 1, none⟩ = some (.slice AY Y.length cy) := cell_keep hb1 (by go_simp)
  have t2 : w1.cell? ⟨w.heap.size, 2, none⟩ = some (.slice AV V.length cv) := cell_keep hb1 (by go_simp)
  have t3 : w1.cell? ⟨w.heap.size + 1, 0, none⟩ = some (.int .i64 x1) := cell_keep hb1 (by go_simp)
  have t4 : w1.cell? ⟨w.heap.size + 1, 1, none⟩ = some (.int .i64 x2) := cell_keep hb1 (by go_simp)
  have t5 : w1.cell? ⟨w.heap.size + 1 + 1, 0, none⟩ = some (.int .i64 y1) := cell_keep hb1 (by go_simp)
  have t6 : w1.cell? ⟨w.heap.size + 1 + 1, 1, none⟩ = some (.int .i64 y2) := cell_keep hb1 (by go_simp)
  have t7 : w1.cell? ⟨w.heap.size + 1 + 1 + 1, 0, none⟩ = some (.int .i64 0) := cell_keep hb1 (by go_simp)
  have t8 : w1.cell? ⟨w.heap.size + 1 + 1 + 1, 1, none⟩ = some (.int .i64 0) := cell_keep hb1 (by go_simp)
  have t9 : w1.frozen? ⟨w.heap.size + 1 + 1 + 1, 0, none⟩ = false := (hb1.frozen (p := ⟨w.heap.size + 1 + 1 + 1, 0, none⟩) (by simp)).trans (by go_simp)
  have t10 : w1.frozen? ⟨w.heap.size + 1 + 1 + 1, 1, none⟩ = false := (hb1.frozen (p := ⟨w.heap.size + 1 + 1 + 1, 1, none⟩) (by simp)).trans (by go_simp)
  clear hb1
  gi_wp2_with (fail)
  refine ⟨trivial, ?_⟩
  refine CallsIn.mono (callsIn_wide.2 (span_any 1000000 (-1000000) _)) ?_
  rintro e w2 ⟨rfl, hb2⟩
  have hz2 := hb2.size
  replace t0 := cell_keep hb2 t0
  replace t1 := cell_keep hb2 t1
  replace t2 := cell_keep hb2 t2
  replace t3 := cell_keep hb2 t3
  replace t4 := cell_keep hb2 t4
  replace t5 := cell_keep hb2 t5
  replace t6 := cell_keep hb2 t6
  replace t7 := cell_keep hb2 t7
  replace t8 := cell_keep hb2 t8
  replace t9 := (hb2.frozen (p := ⟨w.heap.size + 1 + 1 + 1, 0, none⟩) (by simp; omega)).trans t9
  replace t10 := (hb2.frozen (p := ⟨w.heap.size + 1 + 1 + 1, 1, none⟩) (by simp; omega)).trans t10
  have hbw2 : Below w.heap.size w w2 := hbw1.trans (hb2.mono (by omega))
  have hq : w.heap.size + 1 + 1 + 1 < w2.heap.size := by omega
  have hq2 : w.heap.size + 1 + 1 < w2.heap.size := by omega
  have hq1 : w.heap.size + 1 < w2.heap.size := by omega
  have hq0 : w.heap.size < w2.heap.size := by omega
  clear hb2 hbw1 hz1 hz2
  gi_wp2_with (fail)
  refine ⟨trivial, ?_⟩
  refine CallsIn.mono (callsIn_wide.2 (corners_any AX AY AV _ _ _ _ _ _ x1 x2 y1 y2 _)) ?_
  rintro e w3 ⟨rfl, rfl⟩
  gi_wp2_with (fail)
  obtain ⟨hct, hv1, hv2, ox1, ox2, oy1, oy2⟩ := cbE_ok hcb
  obtain ⟨W0, hW0⟩ : ∃ W0, (((w2.alloc (.cells #[.int .i64 1000000, .int .i64 (-1000000)] 27)).alloc (.cells #[.slice AX X.length cx, .slice AY Y.length cy, .slice AV V.length cv] 55)).alloc (.cells #[.int .i64 x1, .int .i64 x2] 27)).alloc (.cells #[.int .i64 y1, .int .i64 y2] 27) = W0 := ⟨_, rfl⟩
  have hs0 : W0.heap.size = w2.heap.size + 4 := by rw [← hW0]; clear hW0; simp
  have a0 : W0.cell? ⟨w2.heap.size, 0, none⟩ = some (.int .i64 1000000) := by rw [← hW0]; clear hW0; go_simp
  have a1 : W0.cell? ⟨w2.heap.size, 1, none⟩ = some (.int .i64 (-1000000)) := by rw [← hW0]; clear hW0; go_simp
  have a2 : W0.frozen? ⟨w2.heap.size, 0, none⟩ = false := by rw [← hW0]; clear hW0; go_simp
  have a3 : W0.frozen? ⟨w2.heap.size, 1, none⟩ = false := by rw [← hW0]; clear hW0; go_simp
  have b0 : W0.cell? ⟨w2.heap.size + 1, 0, none⟩ = some (.slice AX X.length cx) := by rw [← hW0]; clear hW0; go_simp
  have b1 : W0.cell? ⟨w2.heap.size + 1, 1, none⟩ = some (.slice AY Y.length cy) := by rw [← hW0]; clear hW0; go_simp
  have b2 : W0.cell? ⟨w2.heap.size + 1, 2, none⟩ = some (.slice AV V.length cv) := by rw [← hW0]; clear hW0; go_simp
  have b3 : W0.cell? ⟨w2.heap.size + 1 + 1, 0, none⟩ = some (.int .i64 x1) := by rw [← hW0]; clear hW0; go_simp
  have b4 : W0.cell? ⟨w2.heap.size + 1 + 1, 1, none⟩ = some (.int .i64 x2) := by rw [← hW0]; clear hW0; go_simp
  have b5 : W0.cell? ⟨w2.heap.size + 1 + 1 + 1, 0, none⟩ = some (.int .i64 y1) := by rw [← hW0]; clear hW0; go_simp
  have b6 : W0.cell? ⟨w2.heap.size + 1 + 1 + 1, 1, none⟩ = some (.int .i64 y2) := by rw [← hW0]; clear hW0; go_simp
  have c7 : W0.cell? ⟨w.heap.size + 1 + 1 + 1, 0, none⟩ = some (.int .i64 0) := by rw [← hW0]; clear hW0; go_simp
  have c8 : W0.cell? ⟨w.heap.size + 1 + 1 + 1, 1, none⟩ = some (.int .i64 0) := by rw [← hW0]; clear hW0; go_simp
  have c9 : W0.frozen? ⟨w.heap.size + 1 + 1 + 1, 0, none⟩ = false := by rw [← hW0]; clear hW0; go_simp
  have c10 : W0.frozen? ⟨w.heap.size + 1 + 1 + 1, 1, none⟩ = false := by rw [← hW0]; clear hW0; go_simp
  have hB0 : Below w.heap.size w W0 := by rw [← hW0]; clear hW0; go_grown
  rw [hW0]
  clear hW0 t0 t1 t2 t3 t4 t5 t6 t7 t8 t9 t10 hbw2 hcb
  have hstops := corners_stops 8 (by omega) (w2.heap.size + 1) (w2.heap.size + 1 + 1) (w2.heap.size + 1 + 1 + 1) w.heap.size (w2.heap.size + 1) B AX AY AV cx cy cv X Y V x1 x2 y1 y2 _ _ (Lib.hid rfl) (Lib.hid rfl) hct ox1 ox2 oy1 oy2 (by omega) (by omega) hB (by omega) W0 (by omega) (h.below (hB0.mono hB)) b0 b1 b2 b3 b4 b5 b6
  refine wpIn_rangeFunc_ownH rfl (by omega) (gf := 113) (lb := #[.pointer (some ⟨w2.heap.size + 1, 0, none⟩), .pointer (some ⟨w2.heap.size + 1 + 1 + 1, 0, none⟩), .pointer (some ⟨w2.heap.size + 1 + 1, 0, none⟩)]) rfl trivial (enters_of Try.func113 (by kernel_rfl) rfl)
    hstops (fun h k => KP.trans h k) (kp_putObj (by omega)) (Below.refl _ _) (fun _ => rfl)
    (fun pre W => (W.cell? ⟨w2.heap.size, 0, none⟩ = some (.int .i64 (bndG pre).1) ∧ W.cell? ⟨w2.heap.size, 1, none⟩ = some (.int .i64 (bndG pre).2) ∧ W.frozen? ⟨w2.heap.size, 0, none⟩ = false ∧ W.frozen? ⟨w2.heap.size, 1, none⟩ = false ∧
      W.cell? ⟨w.heap.size + 1 + 1 + 1, 0, none⟩ = some (.int .i64 0) ∧ W.cell? ⟨w.heap.size + 1 + 1 + 1, 1, none⟩ = some (.int .i64 0) ∧ W.frozen? ⟨w.heap.size + 1 + 1 + 1, 0, none⟩ = false ∧ W.frozen? ⟨w.heap.size + 1 + 1 + 1, 1, none⟩ = false) ∧ Below w.heap.size w W)
    (fun _ _ _ => False)
    (OwnFrom.and (Own.from (fun s A B row hs hg hr => ⟨cell_kept hs.1 hg hr, cell_kept hs.2.1 hg hr, (frozen_kept hs.1 hg hr).trans hs.2.2.1, (frozen_kept hs.2.1 hg hr).trans hs.2.2.2.1,
      cell_kept hs.2.2.2.2.1 hg hr, cell_kept hs.2.2.2.2.2.1 hg hr, (frozen_kept hs.2.2.2.2.1 hg hr).trans hs.2.2.2.2.2.2.1, (frozen_kept hs.2.2.2.2.2.1 hg hr).trans hs.2.2.2.2.2.2.2⟩) _) (ownFrom_below (Nat.le_refl _) (by omega)))
    (fun _ _ _ _ _ hs _ _ => hs)
    ⟨⟨a0, a1, a2, a3, c7, c8, c9, c10⟩, hB0⟩
    (fun x a' W => ∃ Bx : Nat, w2.heap.size < Bx ∧ Bx < W.heap.size ∧ (W.cell? ⟨Bx, 0, none⟩ = some (.int .i64 x.1.1) ∧ W.cell? ⟨Bx, 1, none⟩ = some (.int .i64 x.1.2.1)) ∧
      a' = { tmps := #[.agg #[.slice AX X.length cx, .slice AY Y.length cy, .slice AV V.length cv], .agg #[.int .i64 x1, .int .i64 x2], .agg #[.int .i64 y1, .int .i64 y2],
        .pointer (some ⟨w.heap.size, 0, none⟩), .pointer (some ⟨w.heap.size + 1, 0, none⟩), .pointer (some ⟨w.heap.size + 1 + 1, 0, none⟩), .pointer (some ⟨w.heap.size + 1 + 1 + 1, 0, none⟩), .int .i64 0, .int .i64 0,
        .pointer (some ⟨w2.heap.size, 0, none⟩), .pointer (some ⟨Bx, 0, none⟩), .agg #[.slice AX X.length cx, .slice AY Y.length cy, .slice AV V.length cv], .agg #[.int .i64 x1, .int .i64 x2], .agg #[.int .i64 y1, .int .i64 y2], .int .i64 0, .int .i64 0, .bool false, undef, undef,
        .agg #[.int .i64 1000000, .int .i64 (-1000000)], .agg #[.slice AX X.length cx, .slice AY Y.length cy, .slice AV V.length cv], .agg #[.int .i64 x1, .int .i64 x2], .agg #[.int .i64 y1, .int .i64 y2],
        .func (.func 113) #[] #[.pointer (some ⟨w2.heap.size + 1, 0, none⟩), .pointer (some ⟨w2.heap.size + 1 + 1 + 1, 0, none⟩), .pointer (some ⟨w2.heap.size + 1 + 1, 0, none⟩)],
        cnV x.1, undef, undef, undef, undef, undef, undef, undef, undef, undef, undef, undef, undef, undef, undef], defers := [] })
    (fun x a' => by
      rintro s A C row ⟨Bx, h1, h2, h3, h4⟩ hg hr
      exact ⟨Bx, h1, Nat.lt_of_lt_of_le h2 hg.size, ⟨cell_kept h3.1 hg (fun r e => (hr r e).2), cell_kept h3.2 hg (fun r e => (hr r e).2)⟩, h4⟩)
    ?assign ?body ?done ?stop
  case assign =>
    rintro l pre x W K ⟨⟨d0, d1, d2, d3, d4, d5, d6, d7⟩, hBW⟩ hK
    have hsW := hBW.size
    have l0 := World.block_lt_of_cell? W _ d0
    have l1 := World.block_lt_of_cell? W _ d4
    obtain ⟨hk0, hk1⟩ : w2.heap.size < W.heap.size ∧ w.heap.size + 1 + 1 + 1 < W.heap.size := ⟨l0, l1⟩
    dsimp only [cnV]
    gi_wp2
    exact hK _ _ ((KeepsOthers.alloc _ _).from _) (KP.of_below ((Below.refl _ _).alloc (Nat.le_refl _) _) (by omega))
      ⟨⟨by go_simp, by go_simp, by go_simp, by go_simp, by go_simp, by go_simp, by go_simp, by go_simp⟩, by go_grown⟩ ⟨W.heap.size, by omega, by simp, ⟨by go_simp, by go_simp⟩, rfl⟩
  case body =>
    rintro l pre x a' W hl hrec ⟨⟨d0, d1, d2, d3, d4, d5, d6, d7⟩, hBW⟩ ⟨Bx, hBx, hBx2, ⟨f0, f1⟩, rfl⟩ hlen
    have hsW := hBW.size
    have hk0 := World.block_lt_of_cell? W _ d0
    have hk1 := World.block_lt_of_cell? W _ d4
    obtain ⟨⟨num, den, px, py⟩, g1, g2, g3, g4⟩ := x
    simp only at g1 g2 g3 g4 f0 f1
    have hmx : Try.prog.follows .mixedOrders = true := by kernel_rfl
    gi_wp2
    have l9 : w2.heap.size < W.heap.size := hk0
    refine region_inv (by kernel_rfl) (fun i => match i with
        | 0 => .pointer (some ⟨w2.heap.size, 0, none⟩) | 1 => .int .i64 (bndG pre).1 | 2 => .pointer (some ⟨Bx, 0, none⟩) | 3 => .agg #[.int .i64 num, .int .i64 den] | 4 => .int .i64 (fl num den) | 5 => .int .i64 (min (bndG pre).1 (fl num den))
        | 6 => .pointer (some ⟨w2.heap.size, 1, none⟩) | 7 => .int .i64 (bndG pre).2 | 8 => .pointer (some ⟨Bx, 0, none⟩) | 9 => .agg #[.int .i64 num, .int .i64 den] | 10 => .int .i64 (cl num den) | 11 => .int .i64 (max (bndG pre).2 (cl num den))
        | 12 => .agg #[.int .i64 (min (bndG pre).1 (fl num den)), .int .i64 (max (bndG pre).2 (cl num den))] | _ => undef)
      (fun L x => (L.getD 13 false = false → Below W.heap.size W x) ∧ (L.getD 13 false = true → ∃ y, Below W.heap.size W y ∧ x = (y.setCell ⟨w2.heap.size, 0, none⟩ (.int .i64 (min (bndG pre).1 (fl num den)))).setCell ⟨w2.heap.size, 1, none⟩ (.int .i64 (max (bndG pre).2 (cl num den)))))
      (by kernel_rfl) rfl ⟨fun _ => (Below.refl _ _).drew, fun h => by simp at h⟩ ?hstep ?hend
    case hstep =>
      intro i o ho L b x hF hR hpre hl
      match i, ho with
      | 0, ho =>
        simp at ho
        subst ho
        refine step_plain rfl ?_
        have e9 := hF.was 9 (by kernel_rfl) rfl
        have hN := hF.later hl 13 rfl (e := ⟨0, .phase⟩) (by simp) rfl rfl
        have hM := hR.1 hN
        rw [Array.getD_eq_getD_getElem?] at hN
        clear hF hpre hl hR
        have q0 := cell_keep hM d0
        have q1 := cell_keep hM d1
        have q2 := cell_keep hM f0
        have q3 := cell_keep hM f1
        first | (go_simp; done) | (go_simp; exact hM)
      | 1, ho =>
        simp at ho
        subst ho
        refine step_plain rfl ?_
        have e25 := hF.gave 0 rfl (hpre ⟨0, .data⟩ (by simp) rfl) rfl
        have hN := hF.later hl 13 rfl (e := ⟨1, .phase⟩) (by simp) rfl rfl
        have hM := hR.1 hN
        rw [Array.getD_eq_getD_getElem?] at hN
        clear hF hpre hl hR
        have q0 := cell_keep hM d0
        have q1 := cell_keep hM d1
        have q2 := cell_keep hM f0
        have q3 := cell_keep hM f1
        first | (go_simp; done) | (go_simp; exact hM)
      | 2, ho =>
        simp at ho
        subst ho
        refine step_plain rfl ?_
        have e10 := hF.was 10 (by kernel_rfl) rfl
        have hN := hF.later hl 13 rfl (e := ⟨2, .phase⟩) (by simp) rfl rfl
        have hM := hR.1 hN
        rw [Array.getD_eq_getD_getElem?] at hN
        clear hF hpre hl hR
        have q0 := cell_keep hM d0
        have q1 := cell_keep hM d1
        have q2 := cell_keep hM f0
        have q3 := cell_keep hM f1
        first | (go_simp; done) | (go_simp; exact hM)
      | 3, ho =>
        simp at ho
        subst ho
        refine step_plain rfl ?_
        have e27 := hF.gave 2 rfl (hpre ⟨2, .data⟩ (by simp) rfl) rfl
        have hN := hF.later hl 13 rfl (e := ⟨3, .phase⟩) (by simp) rfl rfl
        have hM := hR.1 hN
        rw [Array.getD_eq_getD_getElem?] at hN
        clear hF hpre hl hR
        have q0 := cell_keep hM d0
        have q1 := cell_keep hM d1
        have q2 := cell_keep hM f0
        have q3 := cell_keep hM f1
        first | (go_simp; done) | (go_simp; exact hM)
      | 4, ho =>
        simp at ho
        subst ho
        refine step_plain rfl ?_
        have e28 := hF.gave 3 rfl (hpre ⟨3, .data⟩ (by simp) rfl) rfl
        have hN := hF.later hl 13 rfl (e := ⟨4, .phase⟩) (by simp) rfl rfl
        have hM := hR.1 hN
        rw [Array.getD_eq_getD_getElem?] at hN
        clear hF hpre hl hR
        have q0 := cell_keep hM d0
        have q1 := cell_keep hM d1
        have q2 := cell_keep hM f0
        have q3 := cell_keep hM f1
        go_simp
        refine ⟨trivial, ?_⟩
        refine CallsIn.mono (CallsIn.inRound l (callsIn_wide.2 (vfloor_any num den _ (by omega) (by omega) (by omega) (by omega)))) ?_
        rintro e y ⟨rfl, hy⟩
        have hs := hM.size
        exact ⟨rfl, hM.trans (hy.mono hs)⟩
      | 5, ho =>
        simp at ho
        subst ho
        refine step_plain rfl ?_
        have e26 := hF.gave 1 rfl (hpre ⟨1, .data⟩ (by simp) rfl) rfl
        have e29 := hF.gave 4 rfl (hpre ⟨4, .data⟩ (by simp) rfl) rfl
        have hN := hF.later hl 13 rfl (e := ⟨5, .phase⟩) (by simp) rfl rfl
        have hM := hR.1 hN
        rw [Array.getD_eq_getD_getElem?] at hN
        clear hF hpre hl hR
        have q0 := cell_keep hM d0
        have q1 := cell_keep hM d1
        have q2 := cell_keep hM f0
        have q3 := cell_keep hM f1
        first | (go_simp; done) | (go_simp; exact hM)
      | 6, ho =>
        simp at ho
        subst ho
        refine step_plain rfl ?_
        have e9 := hF.was 9 (by kernel_rfl) rfl
        have hN := hF.later hl 13 rfl (e := ⟨6, .phase⟩) (by simp) rfl rfl
        have hM := hR.1 hN
        rw [Array.getD_eq_getD_getElem?] at hN
        clear hF hpre hl hR
        have q0 := cell_keep hM d0
        have q1 := cell_keep hM d1
        have q2 := cell_keep hM f0
        have q3 := cell_keep hM f1
        first | (go_simp; done) | (go_simp; exact hM)
      | 7, ho =>
        simp at ho
        subst ho
        refine step_plain rfl ?_
        have e31 := hF.gave 6 rfl (hpre ⟨6, .data⟩ (by simp) rfl) rfl
        have hN := hF.later hl 13 rfl (e := ⟨7, .phase⟩) (by simp) rfl rfl
        have hM := hR.1 hN
        rw [Array.getD_eq_getD_getElem?] at hN
        clear hF hpre hl hR
        have q0 := cell_keep hM d0
        have q1 := cell_keep hM d1
        have q2 := cell_keep hM f0
        have q3 := cell_keep hM f1
        first | (go_simp; done) | (go_simp; exact hM)
      | 8, ho =>
        simp at ho
        subst ho
        refine step_plain rfl ?_
        have e10 := hF.was 10 (by kernel_rfl) rfl
        have hN := hF.later hl 13 rfl (e := ⟨8, .phase⟩) (by simp) rfl rfl
        have hM := hR.1 hN
        rw [Array.getD_eq_getD_getElem?] at hN
        clear hF hpre hl hR
        have q0 := cell_keep hM d0
        have q1 := cell_keep hM d1
        have q2 := cell_keep hM f0
        have q3 := cell_keep hM f1
        first | (go_simp; done) | (go_simp; exact hM)
      | 9, ho =>
        simp at ho
        subst ho
        refine step_plain rfl ?_
        have e33 := hF.gave 8 rfl (hpre ⟨8, .data⟩ (by simp) rfl) rfl
        have hN := hF.later hl 13 rfl (e := ⟨9, .phase⟩) (by simp) rfl rfl
        have hM := hR.1 hN
        rw [Array.getD_eq_getD_getElem?] at hN
        clear hF hpre hl hR
        have q0 := cell_keep hM d0
        have q1 := cell_keep hM d1
        have q2 := cell_keep hM f0
        have q3 := cell_keep hM f1
        first | (go_simp; done) | (go_simp; exact hM)
      | 10, ho =>
        simp at ho
        subst ho
        refine step_plain rfl ?_
        have e34 := hF.gave 9 rfl (hpre ⟨9, .data⟩ (by simp) rfl) rfl
        have hN := hF.later hl 13 rfl (e := ⟨10, .phase⟩) (by simp) rfl rfl
        have hM := hR.1 hN
        rw [Array.getD_eq_getD_getElem?] at hN
        clear hF hpre hl hR
        have q0 := cell_keep hM d0
        have q1 := cell_keep hM d1
        have q2 := cell_keep hM f0
        have q3 := cell_keep hM f1
        go_simp
        refine ⟨trivial, ?_⟩
        refine CallsIn.mono (CallsIn.inRound l (callsIn_wide.2 (vceil_any num den _ (by omega) (by omega) (by omega) (by omega)))) ?_
        rintro e y ⟨rfl, hy⟩
        have hs := hM.size
        exact ⟨rfl, hM.trans (hy.mono hs)⟩
      | 11, ho =>
        simp at ho
        subst ho
        refine step_plain rfl ?_
        have e32 := hF.gave 7 rfl (hpre ⟨7, .data⟩ (by simp) rfl) rfl
        have e35 := hF.gave 10 rfl (hpre ⟨10, .data⟩ (by simp) rfl) rfl
        have hN := hF.later hl 13 rfl (e := ⟨11, .phase⟩) (by simp) rfl rfl
        have hM := hR.1 hN
        rw [Array.getD_eq_getD_getElem?] at hN
        clear hF hpre hl hR
        have q0 := cell_keep hM d0
        have q1 := cell_keep hM d1
        have q2 := cell_keep hM f0
        have q3 := cell_keep hM f1
        first | (go_simp; done) | (go_simp; exact hM)
      | 12, ho =>
        simp at ho
        subst ho
        refine step_plain rfl ?_
        have e30 := hF.gave 5 rfl (hpre ⟨5, .data⟩ (by simp) rfl) rfl
        have e36 := hF.gave 11 rfl (hpre ⟨11, .data⟩ (by simp) rfl) rfl
        have hN := hF.later hl 13 rfl (e := ⟨12, .phase⟩) (by simp) rfl rfl
        have hM := hR.1 hN
        rw [Array.getD_eq_getD_getElem?] at hN
        clear hF hpre hl hR
        have q0 := cell_keep hM d0
        have q1 := cell_keep hM d1
        have q2 := cell_keep hM f0
        have q3 := cell_keep hM f1
        go_simp
        refine ⟨trivial, ?_⟩
        refine CallsIn.mono (CallsIn.inRound l (callsIn_wide.2 (span_any _ _ _))) ?_
        rintro e y ⟨rfl, hy⟩
        have hs := hM.size
        exact ⟨rfl, hM.trans (hy.mono hs)⟩
      | 13, ho =>
        simp at ho
        subst ho
        refine step_plain rfl ?_
        have e9 := hF.was 9 (by kernel_rfl) rfl
        have e37 := hF.gave 12 rfl (hpre ⟨12, .data⟩ (by simp) rfl) rfl
        have hls := hF.lsize
        have hls' : 13 < L.size := by rw [hls]; decide
        have hM := hR.1 (by rw [← getD_same hls']; exact hl)
        clear hF hpre hl hR hls
        have q0 := cell_keep hM d0
        have q1 := cell_keep hM d1
        have q4 := (cell_frozen hM d0).trans d2
        have q5 := (cell_frozen hM d1).trans d3
        go_simp
        exact ⟨x, hM, rfl⟩
      | i + 14, ho => simp at ho
    case hend =>
      intro L b x hF hall hR
      obtain ⟨y, hy, rfl⟩ := hR.2 (hall 13 (by decide))
      have hys := hy.size
      have q0 := cell_keep hy d0
      have q1 := cell_keep hy d1
      have q2 := (cell_frozen hy d0).trans d2
      have q3 := (cell_frozen hy d1).trans d3
      have q4 := cell_keep hy d4
      have q5 := cell_keep hy d5
      have q6 := (cell_frozen hy d4).trans d6
      have q7 := (cell_frozen hy d5).trans d7
      have hne : w.heap.size + 1 + 1 + 1 ≠ w2.heap.size := by omega
      have hst : ∀ (x : GC), bndG (pre ++ [x]) = (min (bndG pre).1 (fl x.1.1 x.1.2.1), max (bndG pre).2 (cl x.1.1 x.1.2.1)) := bndG_snoc pre
      refine ⟨((KeepsFrom.of_below hy).trans ((KeepsOthers.setCell _ _ _).from _)).trans ((KeepsOthers.setCell _ _ _).from _), ((KP.of_below hy (by omega)).trans (KP.setCell (by simp; omega) (by simp) _)).trans (KP.setCell (by simp; omega) (by simp) _), ⟨?_, ?_, ?_, ?_, ?_, ?_, ?_, ?_⟩, ((hBW.trans (hy.mono hsW)).setCell (by simp; omega) _).setCell (by simp; omega) _⟩
      · rw [hst, World.cell?_setCell_other _ _ _ _ (by simp)]
        exact World.cell?_setCell_same' _ _ _ (by rw [q0]; rfl)
      · rw [hst]
        exact World.cell?_setCell_same' _ _ _ (by rw [World.cell?_setCell_other _ _ _ _ (by simp), q1]; rfl)
      · rw [World.frozen?_setCell, World.frozen?_setCell]; exact q2
      · rw [World.frozen?_setCell, World.frozen?_setCell]; exact q3
      · rw [World.cell?_setCell_other _ _ _ _ (by simp), World.cell?_setCell_other _ _ _ _ (by simp)]; exact q4
      · rw [World.cell?_setCell_other _ _ _ _ (by simp), World.cell?_setCell_other _ _ _ _ (by simp)]; exact q5
      · rw [World.frozen?_setCell, World.frozen?_setCell]; exact q6
      · rw [World.frozen?_setCell, World.frozen?_setCell]; exact q7
  case done =>
    rintro D ys W hD hys ⟨⟨d0, d1, d2, d3, d4, d5, d6, d7⟩, hBW⟩ hK
    gi_wp2
    have e0 : bndG ys = bndL (cornersL X Y V (endsL X x1 x2) (endsL Y y1 y2)) := by unfold bndG; rw [hys]
    have hK1 := (KeepsOthers.setCell W ⟨w.heap.size + 1 + 1 + 1, 0, none⟩ (.int .i64 (bndG ys).1)).same D _ hK rfl
    have hK2 := (KeepsOthers.setCell (W.setCell ⟨w.heap.size + 1 + 1 + 1, 0, none⟩ (.int .i64 (bndG ys).1)) ⟨w.heap.size + 1 + 1 + 1, 1, none⟩ (.int .i64 (bndG ys).2)).same D _ hK1 rfl
    have z1 := World.cell?_setCell_same' W ⟨w.heap.size + 1 + 1 + 1, 0, none⟩ (.int .i64 (bndG ys).1) (by rw [d4]; rfl)
    have z2 : ((W.setCell ⟨w.heap.size + 1 + 1 + 1, 0, none⟩ (.int .i64 (bndG ys).1)).setCell ⟨w.heap.size + 1 + 1 + 1, 1, none⟩ (.int .i64 (bndG ys).2)).cell? ⟨w.heap.size + 1 + 1 + 1, 0, none⟩ = some (.int .i64 (bndG ys).1) := by
      rw [World.cell?_setCell_other _ _ _ _ (by simp)]; exact z1
    have z3 := World.cell?_setCell_same' (W.setCell ⟨w.heap.size + 1 + 1 + 1, 0, none⟩ (.int .i64 (bndG ys).1)) ⟨w.heap.size + 1 + 1 + 1, 1, none⟩ (.int .i64 (bndG ys).2) (by rw [World.cell?_setCell_other _ _ _ _ (by simp), d5]; rfl)
    refine ⟨by simp, .inl ⟨_, _, rfl, run_takeDeferred hK2, ?_⟩⟩
    have z4 := cell_kept z2 (grownBy_putObj' _ D (.deferred none)) (fun r e => by cases e; exact ⟨_, hK2, rfl⟩)
    have z5 := cell_kept z3 (grownBy_putObj' _ D (.deferred none)) (fun r e => by cases e; exact ⟨_, hK2, rfl⟩)
    have hb9 : Below w.heap.size w ((W.setCell ⟨w.heap.size + 1 + 1 + 1, 0, none⟩ (.int .i64 (bndG ys).1)).setCell ⟨w.heap.size + 1 + 1 + 1, 1, none⟩ (.int .i64 (bndG ys).2)) := (hBW.setCell (by simp; omega) _).setCell (by simp; omega) _
    refine ⟨.tuple #[.agg #[.int .i64 (bndG ys).1, .int .i64 (bndG ys).2], .int .i64 0], ?_, by rw [e0], hb9.trans (belowK_b (w := w) (Nat.le_refl _) _ D _ _ (by omega) hK2 rfl rfl)⟩
    simp [results, Try.f47, go_sem, z4, z5]
  case stop =>
    rintro D c pre W _ _ h _
    exact h.elim

end Go.Proofs.Ytnnmmojlgikdgaa

/- spans.notAbove, under. -/
namespace Go.Proofs.Ytnnmmojlgikdgaa
open Go.RowKit

def naS (size p q : Int) : Int × Int :=
  if p < q then (0, min size (fl (-size * p) (q - p))) else if q < p then (max 0 (cl (size * p) (p - q)), size) else if p ≤ 0 then (0, size) else (1, 0)

theorem mul_bd2 {a p A M : Int} (h0 : 0 ≤ a) (hA : a ≤ A) (h1 : -M ≤ p) (h2 : p ≤ M) (hM : 0 ≤ M) : -(A * M) ≤ a * p ∧ a * p ≤ A * M ∧ -(A * M) ≤ -a * p ∧ -a * p ≤ A * M := by
  have := mul_bd h0 hA h1 h2 hM
  have e : -a * p = -(a * p) := by grind
  omega

end Go.Proofs.Ytnnmmojlgikdgaa

/- spans.under. -/
namespace Go.Proofs.Ytnnmmojlgikdgaa
open Go.RowKit

def unP (Y : List Int) (V : List (List Int)) (i : Nat) (limit k : Int) : Int := kNum Y V i k - limit * kDen Y k
def unStep (size : Int) (Y : List Int) (V : List (List Int)) (i : Nat) (limit : Int) (s : Int × Int) (k : Int) : Int × Int :=
  (max s.1 (naS size (unP Y V i limit k) (unP Y V (i + 1) limit k)).1, min s.2 (naS size (unP Y V i limit k) (unP Y V (i + 1) limit k)).2)
def unL (size : Int) (Y : List Int) (V : List (List Int)) (i : Nat) (limit : Int) (l : List Int) : Int × Int := l.foldl (unStep size Y V i limit) (0, size)
theorem unL_step {size : Int} {Y : List Int} {V : List (List Int)} {i : Nat} {limit : Int} {l : List Int} {a : Nat} {x : Int} (h : l[a]? = some x) :
    unL size Y V i limit (l.take (a + 1)) = unStep size Y V i limit (unL size Y V i limit (l.take a)) x := by
  unfold unL
  rw [List.take_add_one, h]
  simp

theorem unP_bd {X Y : List Int} {V : List (List Int)} {i : Nat} {limit k : Int} (h : ctB X Y V = true) (hi : i < X.length) (hk : On Y k) (h1 : -1000001 ≤ limit) (h2 : limit ≤ 1000001) :
    -100000000000 ≤ unP Y V i limit k ∧ unP Y V i limit k ≤ 100000000000 ∧ -10000010000 ≤ limit * kDen Y k ∧ limit * kDen Y k ≤ 10000010000 ∧ -10000000000 ≤ kNum Y V i k ∧ kNum Y V i k ≤ 10000000000 := by
  obtain ⟨_, b, _, _⟩ := ctB_get h
  obtain ⟨d1, d2⟩ := kDen_bd b hk
  obtain ⟨n1, n2⟩ := kNum_bd h hi hk
  have m := mul_bd (a := kDen Y k) (u := limit) (A := 10000) (M := 1000001) (by omega) d2 h1 h2 (by omega)
  have e : limit * kDen Y k = kDen Y k * limit := Int.mul_comm _ _
  unfold unP
  omega

end Go.Proofs.Ytnnmmojlgikdgaa

/- spans.Greatest. -/
namespace Go.Proofs.Ytnnmmojlgikdgaa
open Go.RowKit

theorem unL_bd (size : Int) (Y : List Int) (V : List (List Int)) (i : Nat) (limit : Int) (l : List Int) : 0 ≤ (unL size Y V i limit l).1 ∧ (unL size Y V i limit l).2 ≤ size := by
  have key : ∀ (l : List Int) (s : Int × Int), 0 ≤ s.1 → s.2 ≤ size → 0 ≤ (l.foldl (unStep size Y V i limit) s).1 ∧ (l.foldl (unStep size Y V i limit) s).2 ≤ size := by
    intro l
    induction l with
    | nil => intro s h1 h2; exact ⟨h1, h2⟩
    | cons x l ih => intro s h1 h2; exact ih _ (by unfold unStep; simp only; omega) (by unfold unStep; simp only; omega)
  exact key l _ (Int.le_refl _) (Int.le_refl _)

def grSpan (X Y : List Int) (V : List (List Int)) (y1 y2 lim : Int) (i : Nat) : Int × Int := unL (gz X (i + 1) - gz X i) Y V i lim (endsL Y y1 y2)
def grGo (X Y : List Int) (V : List (List Int)) (y1 y2 lim : Int) : Nat → Int × Int
  | 0 => (0, 3)
  | m + 1 => if (grSpan X Y V y1 y2 lim m).1 ≤ (grSpan X Y V y1 y2 lim m).2 then (gz X m + (grSpan X Y V y1 y2 lim m).2, 0) else grGo X Y V y1 y2 lim m
def grS (X Y : List Int) (V : List (List Int)) (y1 y2 limit : Int) : Int × Int :=
  if ctB X Y V then (if [(y1, y2)].all vS then (if onB Y [y1, y2] then grGo X Y V y1 y2 (min (max limit (-1000001)) 1000000) (X.length - 1) else (0, 1)) else (0, 10)) else (0, 11)

end Go.Proofs.Ytnnmmojlgikdgaa

/- Meet and Hull, of both sides. -/
namespace Go.Proofs.Ytnnmmojlgikdgaa
open Go.RowKit

def vI (a b : Int) : Bool := decide (-1000000 ≤ a) && decide (a ≤ 1000000) && (decide (a ≤ b) && decide (b ≤ 1000000))
theorem vS_vI (a b : Int) : vS (a, b) = vI a b := by
  rw [Bool.eq_iff_iff]
  simp [vS, vI, wB]
  omega
def twoE (a b c d : Int) : Int := if vI a b && vI c d then 0 else 10
def meetS (a b c d : Int) : (Int × Int) × Int := if vI a b && vI c d then (if min b d < max a c then ((0, 0), 3) else ((max a c, min b d), 0)) else ((0, 0), 10)
def hullS (a b c d : Int) : (Int × Int) × Int := if vI a b && vI c d then ((min a c, max b d), 0) else ((0, 0), 10)

theorem from_any (a b c : Int) (w : World) : Calls Try.prog 98 #[.int .i64 a, .int .i64 b, .int .i64 c] w fun e w' => e = .returned (.bool (decide (b ≤ a) && decide (a ≤ c))) ∧ w = w' := by
  by_cases h1 : b ≤ a <;> by_cases h2 : a ≤ c
  all_goals
    go_enter Try.func98, Try.ntmps98
    go_wp2
    go_ret
    exact ⟨ret_bool (by simp; omega), rfl⟩

theorem rvalid_any (a b : Int) (w : World) : Calls Try.prog 61 #[.agg #[.int .i64 a, .int .i64 b]] w fun e w' => e = .returned (.bool (vI a b)) ∧ Below w.heap.size w w' := by
  by_cases h1 : (decide (-1000000 ≤ a) && decide (a ≤ 1000000)) = true
  · go_enter Try.func61, Try.ntmps61
    go_wp2_with (go_at_call 98; refine Calls.mono (from_any _ _ _ _) ?_; rintro e w1 ⟨rfl, rfl⟩)
    go_ret
    exact ⟨ret_bool (by unfold vI; rw [h1]; rfl), by go_grown⟩
  · have h2 : (decide (-1000000 ≤ a) && decide (a ≤ 1000000)) = false := by simpa using h1
    have H2 := Lib.hid h2
    clear h1 h2
    go_enter Try.func61, Try.ntmps61
    go_wp2_with (go_at_call 98; refine Calls.mono (from_any _ _ _ _) ?_; rintro e w1 ⟨rfl, rfl⟩; rw [H2.out])
    go_ret
    exact ⟨ret_bool (by unfold vI; rw [H2.out]; rfl), by go_grown⟩

theorem two_any (a b c d : Int) (w : World) : Calls Try.prog 122 #[.agg #[.int .i64 a, .int .i64 b], .agg #[.int .i64 c, .int .i64 d]] w fun e w' => e = .returned (.int .i64 (twoE a b c d)) ∧ Below w.heap.size w w' := by
  cases h1 : vI a b with
  | false =>
    have e0 : twoE a b c d = 10 := by unfold twoE; rw [h1]; rfl
    rw [e0]
    clear e0
    have H1 := Lib.hid h1
    clear h1
    go_enter Try.func122, Try.ntmps122
    go_wp2_with (go_at_call 61; refine Calls.mono (rvalid_any _ _ _) ?_; rintro e w1 ⟨rfl, hb1⟩; rw [H1.out])
    go_ret
    exact ⟨rfl, Below.trans (by go_grown) (hb1.mono (by simp; omega))⟩
  | true =>
    cases h2 : vI c d with
    | false =>
      have e0 : twoE a b c d = 10 := by unfold twoE; rw [h1, h2]; rfl
      rw [e0]
      clear e0
      have H1 := Lib.hid h1
      have H2 := Lib.hid h2
      clear h1 h2
      go_enter Try.func122, Try.ntmps122
      go_wp2_with (first
        | (go_at_call_of 61 (Value.agg #[.int .i64 a, .int .i64 b]); refine Calls.mono (rvalid_any a b _) ?_; rintro e w1 ⟨rfl, hb1⟩; rw [H1.out]; obtain ⟨hc1, hf1⟩ := bcell hb1; have hz1 := hb1.size; simp at hz1; have hz2 : w.heap.size + 1 < w1.heap.size := (by omega); have hbb1 : Below w.heap.size w w1 := (Below.trans (by go_grown) (hb1.mono (by simp; omega))))
        | (go_at_call 61; refine Calls.mono (rvalid_any c d _) ?_; rintro e w2 ⟨rfl, hb2⟩; rw [H2.out]))
      go_ret
      exact ⟨rfl, hbb1.trans (hb2.mono (by omega))⟩
    | true =>
      have e0 : twoE a b c d = 0 := by unfold twoE; rw [h1, h2]; rfl
      rw [e0]
      clear e0
      have H1 := Lib.hid h1
      have H2 := Lib.hid h2
      clear h1 h2
      go_enter Try.func122, Try.ntmps122
      go_wp2_with (first
        | (go_at_call_of 61 (Value.agg #[.int .i64 a, .int .i64 b]); refine Calls.mono (rvalid_any a b _) ?_; rintro e w1 ⟨rfl, hb1⟩; rw [H1.out]; obtain ⟨hc1, hf1⟩ := bcell hb1; have hz1 := hb1.size; simp at hz1; have hz2 : w.heap.size + 1 < w1.heap.size := (by omega); have hbb1 : Below w.heap.size w w1 := (Below.trans (by go_grown) (hb1.mono (by simp; omega))))
        | (go_at_call 61; refine Calls.mono (rvalid_any c d _) ?_; rintro e w2 ⟨rfl, hb2⟩; rw [H2.out]))
      go_ret
      exact ⟨rfl, hbb1.trans (hb2.mono (by omega))⟩

end Go.Proofs.Ytnnmmojlgikdgaa

/- append(s, x...) with x whatever slice, an empty one too: at the operation. -/
namespace Go.Proofs.Ytnnmmojlgikdgaa
open Go.RowKit

/-- The slice's cells, where it has any. -/
def Cells (w : World) (A : Option Addr) (news : List Value) : Prop := 0 < news.length → ∃ ad, A = some ad ∧ ∀ j u, news[j]? = some u → w.cell? (ad.add j) = some u

theorem run_append_none {P : Program} (w : World) (t ty e : TypeId) (i : TypeInfo) (ht : P.underlying t = some (.slice e)) (hi : P.info? e = some i) (v : Value) (base n size : Nat) (xs : List Value) (hown : w.ownsRow base e size v n xs) (A : Option Addr) (c : Nat) :
    (Builtin.append_ #[t, t] ty #[v, .slice A 0 c]).run P w = .ok v w := by
  have hf : ∀ k, (Builtin.firstCells k 0 (.slice A 0 c)).run P w = .ok #[] w := fun k => by
    cases A <;> simp [Builtin.firstCells, loadCells, loadCellsFrom]
  rcases hown.2 with ⟨rfl, rfl⟩ | ⟨g, cap, cur, rfl, _, _, hnc, _⟩
  · simp [Builtin.append_, run_underlying ht, sizeOf, typeInfo, hi, Builtin.lenOf, hf]
  · simp [Builtin.append_, run_underlying ht, sizeOf, typeInfo, hi, Builtin.lenOf, hf, hnc, storeCells]

theorem run_append_all {P : Program} (w : World) (t ty : TypeId) (base : Nat) (e : TypeId) (i : TypeInfo) (z : Value) (size bytes : Nat) (ht : P.underlying t = some (.slice e)) (hi : P.info? e = some i) (hz : i.zero = some z)
    (hsize : i.size = size) (hby : i.bytes = bytes) (hzs : z.cells.size = size) (hsz : 0 < size)
    (v : Value) (n : Nat) (xs : List Value) (hown : w.ownsRow base e size v n xs)
    (A : Option Addr) (m c : Nat) (news : List Value) (hl : news.length = m * size) (hnews : Cells w A news) (h1 : ∀ u ∈ news, u.oneCell' = true)
    (h63 : n + m ≤ maxLen) (hbytes : (n + m) * bytes ≤ 140737488355328) (hbase : base ≤ w.heap.size) (H : Nat) (hH : w.heap.size = H) :
    ∃ v' w', (Builtin.append_ #[t, t] ty #[v, .slice A m c]).run P w = .ok v' w' ∧ w'.ownsRow base e size v' (n + m) (xs ++ news) ∧ w.grownBy w' v.ownBlock ∧ (v'.ownBlock = v.ownBlock ∨ v'.ownBlock = some H) ∧ (v ≠ .slice none 0 0 → v' ≠ .slice none 0 0) := by
  by_cases hm : 0 < m
  · have hp : 0 < news.length := by rw [hl]; exact Nat.mul_pos hm hsz
    obtain ⟨ad, rfl, hc⟩ := hnews hp
    obtain ⟨g, cap, w', hr, h2, h3, h4, h5⟩ := run_append_lies (P := P) w t ty base e i z size bytes ht hi hz hsize hby hzs hsz v n xs hown ad m c news hl hc h1 hm h63 hbytes hbase H hH
    refine ⟨_, w', hr, h2, h3, ?_, fun _ => by simp⟩
    rcases h4 with h4 | h4
    · exact .inl (by rw [h4]; rfl)
    · exact .inr (by rw [← h4]; rfl)
  · obtain rfl : m = 0 := by omega
    have hn : news = [] := by simpa using hl
    subst hn
    exact ⟨v, w, run_append_none w t ty e i ht hi v base n size xs hown A c, by simpa using hown, World.grownBy.refl _ _, .inl rfl, id⟩

theorem wp_append_all {P : Program} (w : World) {o : Oper} {a : Act} {K : Act → World → Prop} {Q : Exit → Act → World → Prop} (s x : Operand) (t : TypeId)
    (ho : o.op = .call { callee := .builtin .append, args := #[s, x], argTypes := #[t, t] })
    (base : Nat) (e : TypeId) (i : TypeInfo) (z : Value) (size bytes : Nat) (ht : P.underlying t = some (.slice e)) (hi : P.info? e = some i) (hz : i.zero = some z)
    (hsize : i.size = size) (hby : i.bytes = bytes) (hzs : z.cells.size = size) (hsz : 0 < size)
    (v : Value) (n : Nat) (xs : List Value) (hs : a.eval s = v) (hown : w.ownsRow base e size v n xs)
    (A : Option Addr) (m c : Nat) (news : List Value) (hx : a.eval x = .slice A m c) (hl : news.length = m * size) (hnews : Cells w A news) (h1 : ∀ u ∈ news, u.oneCell' = true)
    (h63 : n + m ≤ maxLen) (hbytes : (n + m) * bytes ≤ 140737488355328) (hbase : base ≤ w.heap.size) (H : Nat) (hH : w.heap.size = H)
    (h : ∀ v' w', w'.ownsRow base e size v' (n + m) (xs ++ news) → w.grownBy w' v.ownBlock → (v'.ownBlock = v.ownBlock ∨ v'.ownBlock = some H) → (v ≠ .slice none 0 0 → v' ≠ .slice none 0 0) → K (a.put o.dst v') w') : o.wp P a w K Q := by
  obtain ⟨v', w', hr, h2, h3, h4, h5⟩ := run_append_all (P := P) w t o.type base e i z size bytes ht hi hz hsize hby hzs hsz v n xs hown A m c news hl hnews h1 h63 hbytes hbase H hH
  unfold Oper.wp execOp
  simp only [ho, resolve, invoke, builtin, Sem.run_bind, Sem.run_pure, Result.andThen_ok, List.map_toArray, List.map_cons, List.map_nil, hs, hx, hr]
  exact h v' w' h2 h3 h4 h5

/-- .. at a step of region_inv. -/
theorem wpIn_append_all {P : Program} (w : World) {k : Nat} {o : Oper} {a : Act} {K : Act → World → Prop} {Q : Exit → Act → World → Prop} (s x : Operand) (t : TypeId)
    (ho : o.op = .call { callee := .builtin .append, args := #[s, x], argTypes := #[t, t] })
    (base : Nat) (e : TypeId) (i : TypeInfo) (z : Value) (size bytes : Nat) (ht : P.underlying t = some (.slice e)) (hi : P.info? e = some i) (hz : i.zero = some z)
    (hsize : i.size = size) (hby : i.bytes = bytes) (hzs : z.cells.size = size) (hsz : 0 < size)
    (v : Value) (n : Nat) (xs : List Value) (hs : a.eval s = v) (hown : w.ownsRow base e size v n xs)
    (A : Option Addr) (m c : Nat) (news : List Value) (hx : a.eval x = .slice A m c) (hl : news.length = m * size) (hnews : Cells w A news) (h1 : ∀ u ∈ news, u.oneCell' = true)
    (h63 : n + m ≤ maxLen) (hbytes : (n + m) * bytes ≤ 140737488355328) (hbase : base ≤ w.heap.size) (H : Nat) (hH : w.heap.size = H)
    (h : ∀ v' w', w'.ownsRow base e size v' (n + m) (xs ++ news) → w.grownBy w' v.ownBlock → (v'.ownBlock = v.ownBlock ∨ v'.ownBlock = some H) → (v ≠ .slice none 0 0 → v' ≠ .slice none 0 0) → K (a.put o.dst v') w') : Oper.wpIn Fence.wide k P o a w K Q := by
  obtain ⟨v', w', hr, h2, h3, h4, h5⟩ := run_append_all (P := P) w t o.type base e i z size bytes ht hi hz hsize hby hzs hsz v n xs hown A m c news hl hnews h1 h63 hbytes hbase H hH
  refine ⟨fun _ _ => trivial, ?_⟩
  rw [Oper.semAt_eq _ _ _ (by simp [ho])]
  unfold Oper.uponIn execOp
  simp only [ho, resolve, invoke, builtin, Sem.run_bind, Sem.run_pure, Result.andThen_ok, List.map_toArray, List.map_cons, List.map_nil, hs, hx, hr]
  exact h v' w' h2 h3 h4 h5

theorem wpList_append_all {P : Program} (w : World) {ops : Array Oper} {rest : List Oper} {o : Oper} {a : Act} {Q : Exit → Act → World → Prop} (hgd : o.guard = none) (s x : Operand) (t : TypeId)
    (ho : o.op = .call { callee := .builtin .append, args := #[s, x], argTypes := #[t, t] })
    (base : Nat) (e : TypeId) (i : TypeInfo) (z : Value) (size bytes : Nat) (ht : P.underlying t = some (.slice e)) (hi : P.info? e = some i) (hz : i.zero = some z)
    (hsize : i.size = size) (hby : i.bytes = bytes) (hzs : z.cells.size = size) (hsz : 0 < size)
    (v : Value) (n : Nat) (xs : List Value) (hs : a.eval s = v) (hown : w.ownsRow base e size v n xs)
    (A : Option Addr) (m c : Nat) (news : List Value) (hx : a.eval x = .slice A m c) (hl : news.length = m * size) (hnews : Cells w A news) (h1 : ∀ u ∈ news, u.oneCell' = true)
    (h63 : n + m ≤ maxLen) (hbytes : (n + m) * bytes ≤ 140737488355328) (hbase : base ≤ w.heap.size) (H : Nat) (hH : w.heap.size = H)
    (h : ∀ v' w', w'.ownsRow base e size v' (n + m) (xs ++ news) → w.grownBy w' v.ownBlock → (v'.ownBlock = v.ownBlock ∨ v'.ownBlock = some H) → (v ≠ .slice none 0 0 → v' ≠ .slice none 0 0) → wpList P ops Q rest (a.put o.dst v') w') : wpList P ops Q (o :: rest) a w :=
  wpList_plain hgd fun _ hK => wp_append_all w s x t ho base e i z size bytes ht hi hz hsize hby hzs hsz v n xs hs hown A m c news hx hl hnews h1 h63 hbytes hbase H hH fun v' w' h2 h3 h4 h5 => hK _ _ (h v' w' h2 h3 h4 h5)

end Go.Proofs.Ytnnmmojlgikdgaa

/- Far, Check of both sides, box. -/
namespace Go.Proofs.Ytnnmmojlgikdgaa
open Go.RowKit

/-- What a law does not look at. -/
def farB (X Y : List Int) (V : List (List Int)) : Bool := decide (15 < X.length) || (decide (15 < Y.length) || (decide (15 < V.length) || V.any fun r => decide (15 < r.length)))
theorem farB_no {X Y : List Int} {V : List (List Int)} (h : farB X Y V = false) : X.length ≤ 15 ∧ Y.length ≤ 15 ∧ V.length ≤ 15 ∧ ∀ r ∈ V, r.length ≤ 15 := by
  unfold farB at h
  simp at h
  exact ⟨h.1, h.2.1, h.2.2.1, h.2.2.2⟩

theorem any_hit {V : List (List Int)} {k : Nat} {r : List Int} (hr : V[k]? = some r) (h : 15 < r.length) : (V.any fun r => decide (15 < r.length)) = true := by
  rw [List.any_eq_true]
  obtain ⟨hk, rfl⟩ := List.getElem?_eq_some_iff.1 hr
  exact ⟨_, List.getElem_mem hk, by simpa using h⟩
theorem any_step {V : List (List Int)} {k : Nat} {r : List Int} (hr : V[k]? = some r) : ((V.take (k + 1)).any fun r => decide (15 < r.length)) = (((V.take k).any fun r => decide (15 < r.length)) || decide (15 < r.length)) := by
  rw [List.take_add_one, hr]
  simp

def chkB (l : List (Int × Int)) : Bool := decide (1 ≤ l.length) && decide (l.length ≤ 3) && l.all vS
def chkE (l : List (Int × Int)) : Int := if chkB l then 0 else 10
theorem chkE_no {l : List (Int × Int)} (h : chkB l = false) : chkE l = 10 := by unfold chkE; rw [h]; rfl
theorem chkE_yes {l : List (Int × Int)} (h : chkB l = true) : chkE l = 0 := by unfold chkE; rw [h]; rfl

theorem check_any (A : Option Addr) (n c B : Nat) (l : List (Int × Int)) (w : World) (hx : l.length = n) (hn : n ≤ maxLen) (hB : B ≤ w.heap.size) (h : RS w B A l) :
    Calls Try.prog 97 #[.slice A n c] w fun e w' => e = .returned (.int .i64 (chkE l)) ∧ Below w.heap.size w w' := by
  subst hx
  have hn' := hn
  unfold maxLen at hn'
  by_cases h1 : 1 ≤ l.length ∧ l.length ≤ 3
  · obtain ⟨h1, h2⟩ := h1
    have g1 : (1 : Int) ≤ l.length := by omega
    have g2 : (l.length : Int) ≤ 3 := by omega
    cases hv : l.all vS with
    | false =>
      rw [chkE_no (by unfold chkB; rw [hv]; simp)]
      have HV := Lib.hid hv
      clear hv h1 h2
      go_enter Try.func97, Try.ntmps97
      go_wp2_with (go_at_call 112; refine Calls.mono (valid_any A _ c B l _ rfl hn hB h) ?_; rintro e w1 ⟨rfl, hb1⟩; rw [HV.out])
      go_ret
      exact ⟨rfl, hb1⟩
    | true =>
      rw [chkE_yes (by unfold chkB; rw [hv]; simp [h1, h2])]
      have HV := Lib.hid hv
      clear hv h1 h2
      go_enter Try.func97, Try.ntmps97
      go_wp2_with (go_at_call 112; refine Calls.mono (valid_any A _ c B l _ rfl hn hB h) ?_; rintro e w1 ⟨rfl, hb1⟩; rw [HV.out])
      go_ret
      exact ⟨rfl, hb1⟩
  · rw [chkE_no (by unfold chkB; simp; omega)]
    have g1 : (l.length : Int) < 1 ∨ (3 : Int) < l.length := by omega
    clear h1
    rcases g1 with g1 | g1
    all_goals
      go_enter Try.func97, Try.ntmps97
      go_wp2
      go_ret
      exact ⟨rfl, by go_grown⟩

theorem rcheck_any (A : Option Addr) (n c B : Nat) (l : List (Int × Int)) (w : World) (hx : l.length = n) (hn : n ≤ maxLen) (hB : B ≤ w.heap.size) (h : RS w B A l) :
    Calls Try.prog 69 #[.slice A n c] w fun e w' => e = .returned (.int .i64 (chkE l)) ∧ Below w.heap.size w w' := by
  subst hx
  have hn' := hn
  unfold maxLen at hn'
  by_cases h1 : 1 ≤ l.length ∧ l.length ≤ 3
  · obtain ⟨h1, h2⟩ := h1
    have hd : (decide ((1 : Int) ≤ l.length) && decide ((l.length : Int) ≤ 3)) = true := by simp; omega
    have HD := Lib.hid hd
    have HL := Lib.hid (And.intro h1 h2)
    clear hd h1 h2
    go_enter Try.func69, Try.ntmps69
    go_wp2_with (go_at_call 98; refine Calls.mono (from_any _ _ _ _) ?_; rintro e w1 ⟨rfl, rfl⟩; rw [HD.out])
    go_loopw [3] (fun i wr => ∃ k : Nat, k ≤ l.length ∧ i = .int .i64 k ∧ (l.take k).all vS = true ∧ Below w.heap.size w wr) (fun i _ => l.length - (intOf i).toNat)
    case atStart => exact ⟨0, by omega, rfl, by simp, by go_grown⟩
    case round =>
      obtain ⟨k, hk, rfl, hw, hbw⟩ := hrel
      have HW := Lib.hid hw
      clear hw
      by_cases hlt : k < l.length
      · obtain ⟨b, off, p, rfl, hb, hr, hc0, hc1⟩ := ((h.more hB).below hbw).at_ hlt
        obtain ⟨p0, p1⟩ := p
        simp only at hc0 hc1
        have HR := Lib.hid hr
        clear hr
        cases hv : vI p0 p1 with
        | false =>
          have HV := Lib.hid hv
          clear hv
          go_wp2_with (go_at_call 61; refine Calls.mono (rvalid_any _ _ _) ?_; rintro e w2 ⟨rfl, hb2⟩; rw [HV.out])
          go_ret
          exact ⟨ret_int (chkE_no (by unfold chkB; rw [vS_bad HR.out (by rw [vS_vI]; exact HV.out)]; simp)).symm, hbw.trans (hb2.mono hbw.size)⟩
        | true =>
          have HV := Lib.hid hv
          clear hv
          go_wp2_with (go_at_call 61; refine Calls.mono (rvalid_any _ _ _) ?_; rintro e w2 ⟨rfl, hb2⟩; rw [HV.out])
          go_roundw
          case rel => exact ⟨k + 1, by omega, by go_num, by rw [vS_step HR.out, HW.out, vS_vI, HV.out]; rfl, hbw.trans (hb2.mono hbw.size)⟩
          case measure => simp [intOf]; omega
      · go_wp2
        go_ret
        obtain ⟨l1, l2⟩ := HL.out
        exact ⟨ret_int (chkE_yes (by have hw := HW.out; rw [List.take_of_length_le (by omega)] at hw; unfold chkB; rw [hw]; simp [l1, l2])).symm, hbw⟩
  · rw [chkE_no (by unfold chkB; simp; omega)]
    have hd : (decide ((1 : Int) ≤ l.length) && decide ((l.length : Int) ≤ 3)) = false := by simp; omega
    have HD := Lib.hid hd
    clear hd h1
    go_enter Try.func69, Try.ntmps69
    go_wp2_with (go_at_call 98; refine Calls.mono (from_any _ _ _ _) ?_; rintro e w1 ⟨rfl, rfl⟩; rw [HD.out])
    go_ret
    exact ⟨rfl, by go_grown⟩

/-- The cells of a list of spans. -/
def spanCells (l : List (Int × Int)) : List Value := l.flatMap fun p => [.int .i64 p.1, .int .i64 p.2]
theorem spanCells_len (l : List (Int × Int)) : (spanCells l).length = l.length * 2 := by
  induction l with
  | nil => rfl
  | cons p l ih => show ([_, _] ++ spanCells l).length = _; simp [ih]; omega
theorem spanCells_get (l : List (Int × Int)) (j : Nat) {p : Int × Int} (h : l[j]? = some p) : (spanCells l)[j * 2]? = some (.int .i64 p.1) ∧ (spanCells l)[j * 2 + 1]? = some (.int .i64 p.2) := by
  induction l generalizing j with
  | nil => simp at h
  | cons q l ih =>
    have e : spanCells (q :: l) = .int .i64 q.1 :: .int .i64 q.2 :: spanCells l := rfl
    rw [e]
    cases j with
    | zero =>
      simp at h
      subst h
      simp
    | succ j =>
      simp at h
      have := ih j h
      have e1 : (j + 1) * 2 = j * 2 + 1 + 1 := by omega
      have e2 : (j + 1) * 2 + 1 = j * 2 + 1 + 1 + 1 := by omega
      rw [e1]
      simp only [List.getElem?_cons_succ]
      exact this
theorem spanCells_one (l : List (Int × Int)) : ∀ u ∈ spanCells l, u.oneCell' = true := by
  intro u hu
  obtain ⟨p, _, h⟩ := List.mem_flatMap.1 hu
  simp at h
  rcases h with rfl | rfl <;> rfl
theorem RS.cells {w : World} {B : Nat} {A : Option Addr} {l : List (Int × Int)} (h : RS w B A l) : Cells w A (spanCells l) := fun hp => by
  rw [spanCells_len] at hp
  obtain ⟨b, off, rfl, hb, hc⟩ := h (by omega)
  refine ⟨_, rfl, fun j u hu => ?_⟩
  have hj : j < l.length * 2 := by rw [← spanCells_len]; exact (List.getElem?_eq_some_iff.1 hu).1
  have hq : j / 2 < l.length := by omega
  obtain ⟨h0, h1⟩ := hc (j / 2) _ (List.getElem?_eq_getElem hq)
  obtain ⟨g0, g1⟩ := spanCells_get l (j / 2) (List.getElem?_eq_getElem hq)
  rw [Go.WideShapes.add_plain]
  rcases Nat.mod_two_eq_zero_or_one j with e | e
  · have e' : j / 2 * 2 = j := by omega
    rw [e'] at h0 g0
    rw [h0, ← hu, g0]
  · have e' : j / 2 * 2 + 1 = j := by omega
    have e2 : off + j / 2 * 2 + 1 = off + j := by omega
    rw [e'] at g1
    rw [e2] at h1
    rw [h1, ← hu, g1]
theorem RS.of_own {w : World} {base n : Nat} {v : Value} {E : TypeId} {l : List (Int × Int)} (h : w.ownsRow base E 2 v n (spanCells l)) (hl : l.length = n) (hv : v ≠ .slice none 0 0) :
    ∃ g c, v = .slice (some ⟨g, 0, none⟩) n c ∧ base ≤ g ∧ RS w w.heap.size (some ⟨g, 0, none⟩) l := by
  rcases h.2 with ⟨e, _⟩ | ⟨g, cap, cur, rfl, hg, hcur, hn, hm, hs, ht⟩
  · exact absurd e hv
  refine ⟨g, cap, rfl, hg, fun hp => ⟨g, 0, rfl, (h.lt g rfl).2, fun j p hj => ?_⟩⟩
  obtain ⟨g0, g1⟩ := spanCells_get l j hj
  have hjl := (List.getElem?_eq_some_iff.1 hj).1
  rw [Nat.zero_add]
  exact ⟨by rw [h.cellAt (j * 2) (by omega), g0], by rw [h.cellAt (j * 2 + 1) (by omega), g1]⟩

theorem info_span : (Try.prog.info? 27).map (fun i => (i.zero, i.size, i.bytes)) = some (some (.agg #[.int .i64 0, .int .i64 0]), 2, 16) := by kernel_rfl

/-- What is returned is a box of the call's own. -/
def GivesSpans (w : World) (l : List (Int × Int)) (e : Ending) (w' : World) : Prop :=
  ∃ g c, e = .returned (.slice (some ⟨g, 0, none⟩) l.length c) ∧ w.heap.size ≤ g ∧ RS w' w'.heap.size (some ⟨g, 0, none⟩) l ∧ Below w.heap.size w w'

end Go.Proofs.Ytnnmmojlgikdgaa

/- Copy of a table. -/
namespace Go.Proofs.Ytnnmmojlgikdgaa
open Go.RowKit

section own
variable {W W' : World} {M s n : Nat} {T : TypeId} {v : Value} {xs : List Value}

theorem own_same (h : W.ownsRow M T s v n xs) (hs : ∀ g, v.ownBlock = some g → W'.heap[g]? = W.heap[g]?) : W'.ownsRow M T s v n xs := by
  obtain ⟨h1, h2⟩ := h
  refine ⟨h1, ?_⟩
  rcases h2 with h2 | ⟨g, cap, cur, rfl, hg, hc, h3⟩
  · exact .inl h2
  · exact .inr ⟨g, cap, cur, rfl, hg, (hs g rfl).trans hc, h3⟩
theorem cell_same {g o : Nat} (h : W'.heap[g]? = W.heap[g]?) : W'.cell? ⟨g, o, none⟩ = W.cell? ⟨g, o, none⟩ := by simp only [World.cell?, h]
theorem frozen_same {g o : Nat} (h : W'.heap[g]? = W.heap[g]?) : W'.frozen? ⟨g, o, none⟩ = W.frozen? ⟨g, o, none⟩ := by simp only [World.frozen?, h]
theorem heap_alloc_old {o : Obj} {g : Nat} (h : g < W.heap.size) : (W.alloc o).heap[g]? = W.heap[g]? := by
  show (W.heap.push o)[g]? = _
  rw [Array.getElem?_push]
  have : g ≠ W.heap.size := by omega
  simp [this]
end own

/-- A list of integers that the call owns, at block g. -/
def XF (M : Nat) (W : World) (g : Nat) (v : Value) (xs : List Int) : Prop :=
  M ≤ g ∧ g < W.heap.size ∧ v.ownBlock = some g ∧ W.ownsRow M 3 1 v xs.length (xs.map (Value.int .i64))
theorem XF.same {M : Nat} {W W' : World} {g : Nat} {v : Value} {xs : List Int} (h : XF M W g v xs) (hs : W'.heap[g]? = W.heap[g]?) (hz : W.heap.size ≤ W'.heap.size) : XF M W' g v xs :=
  ⟨h.1, by have := h.2.1; omega, h.2.2.1, own_same h.2.2.2 (fun q hq => by rw [h.2.2.1] at hq; cases hq; exact hs)⟩
theorem XF.alloc {M : Nat} {W : World} {g : Nat} {v : Value} {xs : List Int} (h : XF M W g v xs) (o : Obj) : XF M (W.alloc o) g v xs := h.same (heap_alloc_old h.2.1) (by simp)
theorem XF.new (M : Nat) (W : World) (h : M ≤ W.heap.size) : XF M (W.alloc (.cells #[] 3)) W.heap.size (.slice (some ⟨W.heap.size, 0, none⟩) 0 0) [] :=
  ⟨h, by simp, rfl, by
    have := World.ownsRow_lit (base := M) (e := 3) (size := 1) W #[] 0 h (le_maxLen (by omega)) (by simp)
    simpa using this⟩
theorem XF.slice {M : Nat} {W : World} {g : Nat} {v : Value} {xs : List Int} (h : XF M W g v xs) : ∃ c, v = .slice (some ⟨g, 0, none⟩) xs.length c ∧ RI W W.heap.size (some ⟨g, 0, none⟩) xs := by
  obtain ⟨_, _, h3, h4⟩ := h
  rcases h4.2 with ⟨e, _⟩ | ⟨g', cap, cur, rfl, hg, hcur, hn, hm, hs, ht⟩
  · rw [e] at h3; cases h3
  · have : g' = g := by simpa [Value.ownBlock] using h3
    subst this
    exact ⟨cap, rfl, RI.of_own h4⟩
theorem ints_one (xs : List Int) : ∀ u ∈ xs.map (Value.int .i64), u.oneCell' = true := by
  intro u hu
  obtain ⟨x, _, rfl⟩ := List.mem_map.1 hu
  rfl
theorem RI.cells {w : World} {B : Nat} {A : Option Addr} {l : List Int} (h : RI w B A l) : Cells w A (l.map (Value.int .i64)) := fun hp => by
  obtain ⟨b, off, rfl, hb, hc⟩ := h hp
  exact ⟨_, rfl, fun j u hu => by rw [Go.WideShapes.add_plain]; exact hc j u hu⟩

/-- The new table's box. -/
def OF (M : Nat) (W : World) (g : Nat) (u0 u1 : Value) : Prop := M ≤ g ∧ W.heap[g]? = some (.cells #[u0, u1, .slice none 0 0] 55 (0, 0))
theorem OF.lt {M : Nat} {W : World} {g : Nat} {u0 u1 : Value} (h : OF M W g u0 u1) : g < W.heap.size := (Array.getElem?_eq_some_iff.1 h.2).1
theorem OF.same {M : Nat} {W W' : World} {g : Nat} {u0 u1 : Value} (h : OF M W g u0 u1) (hs : W'.heap[g]? = W.heap[g]?) : OF M W' g u0 u1 := ⟨h.1, hs.trans h.2⟩
theorem OF.alloc {M : Nat} {W : World} {g : Nat} {u0 u1 : Value} (h : OF M W g u0 u1) (o : Obj) : OF M (W.alloc o) g u0 u1 := h.same (heap_alloc_old h.lt)
theorem block_cell {W : World} {g o : Nat} {cs : Array Value} {T : TypeId} (h : W.heap[g]? = some (.cells cs T (0, 0))) : W.cell? ⟨g, o, none⟩ = cs[o]? := by simp [World.cell?, h]
theorem block_frozen {W : World} {g o : Nat} {cs : Array Value} {T : TypeId} (h : W.heap[g]? = some (.cells cs T (0, 0))) : W.frozen? ⟨g, o, none⟩ = false := by simp [World.frozen?, h]

/-- The state of the region that makes the copy's axes. -/
def CR (W0 : World) (X Y : List Int) (x0 x3 y4 y7 o9 : Value) (l0 l3 l4 l7 l9 l10 : Bool) (W : World) : Prop :=
  Below W0.heap.size W0 W ∧ ∃ bx by_ bo : Nat,
    (l0 = true → XF W0.heap.size W bx (if l3 then x3 else x0) (if l3 then X else [])) ∧
    (l4 = true → XF W0.heap.size W by_ (if l7 then y7 else y4) (if l7 then Y else [])) ∧
    (l9 = true → o9 = .pointer (some ⟨bo, 0, none⟩) ∧ OF W0.heap.size W bo (if l10 then x3 else .slice none 0 0) (if l10 then y7 else .slice none 0 0)) ∧
    (l0 = true → l4 = true → bx ≠ by_) ∧ (l0 = true → l9 = true → bx ≠ bo) ∧ (l4 = true → l9 = true → by_ ≠ bo)

theorem XF.grown {M : Nat} {W W' : World} {g : Nat} {v : Value} {xs : List Int} {row : Option Nat} (h : XF M W g v xs) (hg : W.grownBy W' row) (hne : some g ≠ row) : XF M W' g v xs := h.same (hg.block g h.2.1 hne) hg.size
theorem OF.grown {M : Nat} {W W' : World} {g : Nat} {u0 u1 : Value} {row : Option Nat} (h : OF M W g u0 u1) (hg : W.grownBy W' row) (hne : some g ≠ row) : OF M W' g u0 u1 := h.same (hg.block g h.lt hne)

section steps
variable {W0 W W' : World} {X Y : List Int} {x0 x3 y4 y7 o9 v : Value} {l0 l3 l4 l7 l9 l10 : Bool}
theorem CR.op0 (h : CR W0 X Y x0 x3 y4 y7 o9 false false l4 l7 l9 l10 W) : CR W0 X Y (.slice (some ⟨W.heap.size, 0, none⟩) 0 0) x3 y4 y7 o9 true false l4 l7 l9 l10 (W.alloc (.cells #[] 3)) := by
  obtain ⟨hb, bx, by_, bo, r1, r2, r3, r4, r5, r6⟩ := h
  refine ⟨hb.alloc hb.size _, W.heap.size, by_, bo, fun _ => XF.new _ _ hb.size, fun e => (r2 e).alloc _, fun e => ⟨(r3 e).1, (r3 e).2.alloc _⟩, fun _ e h => ?_, fun _ e h => ?_, r6⟩
  · have := (r2 e).2.1; omega
  · have := (r3 e).2.lt; omega
theorem CR.op4 (h : CR W0 X Y x0 x3 y4 y7 o9 l0 l3 false false l9 l10 W) : CR W0 X Y x0 x3 (.slice (some ⟨W.heap.size, 0, none⟩) 0 0) y7 o9 l0 l3 true false l9 l10 (W.alloc (.cells #[] 3)) := by
  obtain ⟨hb, bx, by_, bo, r1, r2, r3, r4, r5, r6⟩ := h
  refine ⟨hb.alloc hb.size _, bx, W.heap.size, bo, fun e => (r1 e).alloc _, fun _ => XF.new _ _ hb.size, fun e => ⟨(r3 e).1, (r3 e).2.alloc _⟩, fun e _ h => ?_, r5, fun _ e h => ?_⟩
  · have := (r1 e).2.1; omega
  · have := (r3 e).2.lt; omega
theorem CR.op9 (h : CR W0 X Y x0 x3 y4 y7 v l0 l3 l4 l7 false false W) : CR W0 X Y x0 x3 y4 y7 (.pointer (some ⟨W.heap.size, 0, none⟩)) l0 l3 l4 l7 true false (W.alloc (.cells #[.slice none 0 0, .slice none 0 0, .slice none 0 0] 55)) := by
  obtain ⟨hb, bx, by_, bo, r1, r2, r3, r4, r5, r6⟩ := h
  refine ⟨hb.alloc hb.size _, bx, by_, W.heap.size, fun e => (r1 e).alloc _, fun e => (r2 e).alloc _, fun _ => ⟨rfl, hb.size, by show (W.heap.push _)[W.heap.size]? = _; simp⟩, r4, fun e _ h => ?_, fun e _ h => ?_⟩
  · have := (r1 e).2.1; omega
  · have := (r2 e).2.1; omega
theorem CR.op3 (h : CR W0 X Y x0 x3 y4 y7 o9 true false l4 l7 l9 false W) (hg : W.grownBy W' x0.ownBlock) (hown : W'.ownsRow W0.heap.size 3 1 v X.length (X.map (Value.int .i64))) (hat : v.ownBlock = x0.ownBlock ∨ v.ownBlock = some W.heap.size) :
    CR W0 X Y x0 v y4 y7 o9 true true l4 l7 l9 false W' := by
  obtain ⟨hb, bx, by_, bo, r1, r2, r3, r4, r5, r6⟩ := h
  obtain ⟨x1, x2, x5, x4⟩ := r1 rfl
  simp only [Bool.false_eq_true, if_false] at x5 x4
  rw [x5] at hg hat
  obtain ⟨q, hq, hq'⟩ : ∃ q, v.ownBlock = some q ∧ (q = bx ∨ q = W.heap.size) := by
    rcases hat with e | e
    · exact ⟨bx, e, .inl rfl⟩
    · exact ⟨_, e, .inr rfl⟩
  have hlt : q < W'.heap.size := by
    rcases hown.2 with ⟨e, _⟩ | ⟨g, cap, cur, rfl, hg1, hcur, _⟩
    · rw [e] at hq; cases hq
    · have : g = q := by simpa [Value.ownBlock] using hq
      subst this
      exact (Array.getElem?_eq_some_iff.1 hcur).1
  refine ⟨hb.grown hg hb.size (fun k hk => by cases hk; exact x1), q, by_, bo, fun _ => ⟨by have := hb.size; omega, hlt, hq, hown⟩, fun e => (r2 e).grown hg (fun h => by cases h; exact r4 rfl e rfl), fun e => ⟨(r3 e).1, (r3 e).2.grown hg (fun h => by cases h; exact r5 rfl e rfl)⟩, fun _ e h => ?_, fun _ e h => ?_, r6⟩
  · have := r4 rfl e; have := (r2 e).2.1; omega
  · have := r5 rfl e; have := (r3 e).2.lt; omega
theorem CR.op7 (h : CR W0 X Y x0 x3 y4 y7 o9 l0 l3 true false l9 false W) (hg : W.grownBy W' y4.ownBlock) (hown : W'.ownsRow W0.heap.size 3 1 v Y.length (Y.map (Value.int .i64))) (hat : v.ownBlock = y4.ownBlock ∨ v.ownBlock = some W.heap.size) :
    CR W0 X Y x0 x3 y4 v o9 l0 l3 true true l9 false W' := by
  obtain ⟨hb, bx, by_, bo, r1, r2, r3, r4, r5, r6⟩ := h
  obtain ⟨x1, x2, x5, x4⟩ := r2 rfl
  simp only [Bool.false_eq_true, if_false] at x5 x4
  rw [x5] at hg hat
  obtain ⟨q, hq, hq'⟩ : ∃ q, v.ownBlock = some q ∧ (q = by_ ∨ q = W.heap.size) := by
    rcases hat with e | e
    · exact ⟨by_, e, .inl rfl⟩
    · exact ⟨_, e, .inr rfl⟩
  have hlt : q < W'.heap.size := by
    rcases hown.2 with ⟨e, _⟩ | ⟨g, cap, cur, rfl, hg1, hcur, _⟩
    · rw [e] at hq; cases hq
    · have : g = q := by simpa [Value.ownBlock] using hq
      subst this
      exact (Array.getElem?_eq_some_iff.1 hcur).1
  refine ⟨hb.grown hg hb.size (fun k hk => by cases hk; exact x1), bx, q, bo, fun e => (r1 e).grown hg (fun h => by cases h; exact r4 e rfl rfl), fun _ => ⟨by have := hb.size; omega, hlt, hq, hown⟩, fun e => ⟨(r3 e).1, (r3 e).2.grown hg (fun h => by cases h; exact r6 rfl e rfl)⟩, fun e _ h => ?_, r5, fun _ e h => ?_⟩
  · have := r4 e rfl; have := (r1 e).2.1; omega
  · have := r6 rfl e; have := (r3 e).2.lt; omega
theorem heap_set3 {g : Nat} {a b c a' b' c' : Value} {T : TypeId} (h : W.heap[g]? = some (.cells #[a, b, c] T (0, 0))) :
    (((W.setCell ⟨g, 0, none⟩ a').setCell ⟨g, 1, none⟩ b').setCell ⟨g, 2, none⟩ c').heap[g]? = some (.cells #[a', b', c'] T (0, 0)) := by
  have h1 := heap_setCell_same W g 0 _ T a' h
  have h2 := heap_setCell_same _ g 1 _ T b' h1
  have h3 := heap_setCell_same _ g 2 _ T c' h2
  rw [h3]
  simp
theorem CR.op10 (h : CR W0 X Y x0 x3 y4 y7 o9 true true true true true false W) : ∃ bo, o9 = .pointer (some ⟨bo, 0, none⟩) ∧ W.heap[bo]? = some (.cells #[.slice none 0 0, .slice none 0 0, .slice none 0 0] 55 (0, 0)) ∧
    CR W0 X Y x0 x3 y4 y7 o9 true true true true true true (((W.setCell ⟨bo, 0, none⟩ x3).setCell ⟨bo, 1, none⟩ y7).setCell ⟨bo, 2, none⟩ (.slice none 0 0)) := by
  obtain ⟨hb, bx, by_, bo, r1, r2, r3, r4, r5, r6⟩ := h
  obtain ⟨e9, o1, o2⟩ := r3 rfl
  have hother : ∀ k, k ≠ bo → (((W.setCell ⟨bo, 0, none⟩ x3).setCell ⟨bo, 1, none⟩ y7).setCell ⟨bo, 2, none⟩ (.slice none 0 0)).heap[k]? = W.heap[k]? := fun k hk => by
    rw [heap_setCell_other _ _ _ _ hk, heap_setCell_other _ _ _ _ hk, heap_setCell_other _ _ _ _ hk]
  have hz : (((W.setCell ⟨bo, 0, none⟩ x3).setCell ⟨bo, 1, none⟩ y7).setCell ⟨bo, 2, none⟩ (.slice none 0 0)).heap.size = W.heap.size := by simp [World.setCell]
  exact ⟨bo, e9, o2, ((hb.setCell (p := ⟨bo, 0, none⟩) o1 _).setCell (p := ⟨bo, 1, none⟩) o1 _).setCell (p := ⟨bo, 2, none⟩) o1 _, bx, by_, bo, fun e => (r1 e).same (hother _ (r5 rfl rfl)) (by omega), fun e => (r2 e).same (hother _ (r6 rfl rfl)) (by omega),
    fun _ => ⟨e9, o1, by simpa using heap_set3 o2⟩, r4, r5, r6⟩
end steps

theorem fx_step {fx : Nat → Option Value} {val : Nat → Value} {L : Array Bool} {i : Nat} {v : Value} (h : ∀ j u, fx j = some u → L.getD j false = true → val j = u) (hv : ∀ u, fx i = some u → v = u) :
    ∀ j u, fx j = some u → (L.setIfInBounds i true).getD j false = true → upd val i v j = u := by
  intro j u hj hl
  by_cases e : j = i
  · subst e
    rw [upd_same]
    exact hv u hj
  · rw [upd_other e]
    rw [getD_set_other (fun h => e h.symm)] at hl
    exact h j u hj hl

theorem grown_far {W W' : World} {row : Option Nat} {wr : World} {row' : Option Nat} (h : wr.grownBy W row) (hg : W.grownBy W' row') (hr : ∀ k, row' = some k → row' = row ∨ wr.heap.size ≤ k) : wr.grownBy W' row :=
  ⟨hg.os.trans h.os, hg.tape.trans h.tape, hg.output.trans h.output, Nat.le_trans h.size hg.size, fun k hk hne => by
    have hs := h.size
    refine (hg.block k (by omega) (fun e => ?_)).trans (h.block k hk hne)
    rcases hr k e.symm with e' | e'
    · exact hne (e.trans e')
    · omega⟩
theorem grown_alloc (W : World) (o : Obj) : W.grownBy (W.alloc o) none := ⟨rfl, rfl, rfl, by simp, fun k hk _ => heap_alloc_old hk⟩
theorem own_lt {W : World} {M s n q : Nat} {T : TypeId} {v : Value} {xs : List Value} (h : W.ownsRow M T s v n xs) (hq : v.ownBlock = some q) : q < W.heap.size := by
  rcases h.2 with ⟨e, _⟩ | ⟨g, cap, cur, rfl, hg1, hcur, _⟩
  · rw [e] at hq; cases hq
  · have : g = q := by simpa [Value.ownBlock] using hq
    subst this
    exact (Array.getElem?_eq_some_iff.1 hcur).1

theorem own_base {W : World} {M s n q : Nat} {T : TypeId} {v : Value} {xs : List Value} (h : W.ownsRow M T s v n xs) (hq : v.ownBlock = some q) : M ≤ q := by
  rcases h.2 with ⟨e, _⟩ | ⟨g, cap, cur, rfl, hg1, hcur, _⟩
  · rw [e] at hq; cases hq
  · have : g = q := by simpa [Value.ownBlock] using hq
    omega
theorem RI.cells_grown {W W' : World} {B : Nat} {A : Option Addr} {l : List Int} {row : Option Nat} (h : RI W B A l) (hg : W.grownBy W' row) (hB : B ≤ W.heap.size) (hr : ∀ q, row = some q → B ≤ q) : Cells W' A (l.map (Value.int .i64)) :=
  RI.cells (B := B) (RV.keep h (fun p hp => World.cell?_of_block (hg.block p.block (by omega) (fun e => by have := hr _ e.symm; omega))))
theorem getD_no_of {ops : Array Oper} {T : Array Value} {val : Nat → Value} {L : Array Bool} {a : Act} (h : Fr ops T val L a) (j i : Nat) {o : Oper} (ho : ops[j]? = some o) {e : Edge} (he : e ∈ o.after) (hb : Region.binds .any e = true) (hi : e.on = i) (hl : L.getD i false = false) : L.getD j false = false := by
  cases hj : L.getD j false with
  | false => rfl
  | true =>
    have := h.closed j o ho hj e he hb
    rw [hi, hl] at this
    cases this

/-- The state of the region that copies a row. -/
def S5 (wr : World) (M k : Nat) (rv : Value) (vs : List Value) (r : List Int) (v2 v8 v9 v10 : Value) (l2 l8 l9 l10 : Bool) (W : World) : Prop :=
  wr.grownBy W rv.ownBlock ∧ (l10 = false → W.ownsRow M 25 1 rv k vs) ∧ ∃ g, wr.heap.size ≤ g ∧ (l2 = true → XF M W g (if l8 then v8 else v2) (if l8 then r else [])) ∧
    (l9 = true → l10 = false → ∃ q, v9 = .slice (some ⟨q, 0, none⟩) 1 1 ∧ W.cell? ⟨q, 0, none⟩ = some v8) ∧
    (l10 = true → W.ownsRow M 25 1 v10 (k + 1) (vs ++ [v8]) ∧ v10.ownBlock ≠ some g ∧ (v10.ownBlock = rv.ownBlock ∨ ∃ h, v10.ownBlock = some h ∧ wr.heap.size ≤ h))
section steps5
variable {wr W W' : World} {M k : Nat} {rv : Value} {vs : List Value} {r : List Int} {v2 v8 v9 v10 v : Value} {l2 l8 l9 l10 : Bool}
theorem S5.start (h : wr.ownsRow M 25 1 rv k vs) : S5 wr M k rv vs r v2 v8 v9 v10 false false false false wr.drew :=
  ⟨⟨rfl, rfl, rfl, Nat.le_refl _, fun _ _ _ => rfl⟩, fun _ => h, wr.heap.size, Nat.le_refl _, fun e => (by cases e), fun e => (by cases e), fun e => (by cases e)⟩
theorem S5.op2 (h : S5 wr M k rv vs r v2 v8 v9 v10 false false false false W) (hM : M ≤ wr.heap.size) : S5 wr M k rv vs r (.slice (some ⟨W.heap.size, 0, none⟩) 0 0) v8 v9 v10 true false false false (W.alloc (.cells #[] 3)) := by
  obtain ⟨h1, h2, g, h3, h4, h5, h6⟩ := h
  have hs := h1.size
  exact ⟨grown_far h1 (grown_alloc _ _) (fun k hk => (by cases hk)), fun e => own_same (h2 e) (fun q hq => heap_alloc_old (own_lt (h2 e) hq)), W.heap.size, hs, fun _ => XF.new _ _ (by omega), fun e => (by cases e), fun e => (by cases e)⟩
theorem S5.op8 (h : S5 wr M k rv vs r v2 v8 v9 v10 true false false false W) (hlt : ∀ q, rv.ownBlock = some q → q < wr.heap.size) (hg : W.grownBy W' v2.ownBlock) (hown : W'.ownsRow M 3 1 v r.length (r.map (Value.int .i64))) (hat : v.ownBlock = v2.ownBlock ∨ v.ownBlock = some W.heap.size) :
    S5 wr M k rv vs r v2 v v9 v10 true true false false W' := by
  obtain ⟨h1, h2, g, h3, h4, h5, h6⟩ := h
  obtain ⟨x1, x2, x3, x4⟩ := h4 rfl
  simp only [Bool.false_eq_true, if_false] at x3 x4
  rw [x3] at hg hat
  have hs := h1.size
  obtain ⟨q, hq, hq'⟩ : ∃ q, v.ownBlock = some q ∧ (q = g ∨ q = W.heap.size) := by
    rcases hat with e | e
    · exact ⟨g, e, .inl rfl⟩
    · exact ⟨_, e, .inr rfl⟩
  refine ⟨grown_far h1 hg (fun k hk => by cases hk; exact .inr h3), fun e => own_same (h2 e) (fun q hq => hg.block q (own_lt (h2 e) hq) (fun h => ?_)), q, by omega, fun _ => ⟨by omega, own_lt hown hq, hq, hown⟩, fun e => (by cases e), fun e => (by cases e)⟩
  cases h
  have := hlt g hq
  omega
theorem S5.op9 (h : S5 wr M k rv vs r v2 v8 v v10 true true false false W) : S5 wr M k rv vs r v2 v8 (.slice (some ⟨W.heap.size, 0, none⟩) 1 1) v10 true true true false (W.alloc (.cells #[v8] 25)) := by
  obtain ⟨h1, h2, g, h3, h4, h5, h6⟩ := h
  exact ⟨grown_far h1 (grown_alloc _ _) (fun k hk => (by cases hk)), fun e => own_same (h2 e) (fun q hq => heap_alloc_old (own_lt (h2 e) hq)), g, h3, fun e => (h4 e).alloc _, fun _ _ => ⟨_, rfl, by rw [cell_newest]; rfl⟩, fun e => by cases e⟩
theorem S5.op10 (h : S5 wr M k rv vs r v2 v8 v9 v10 true true true false W) (hlt : ∀ q, rv.ownBlock = some q → q < wr.heap.size) (hg : W.grownBy W' rv.ownBlock) (hown : W'.ownsRow M 25 1 v (k + 1) (vs ++ [v8])) (hat : v.ownBlock = rv.ownBlock ∨ v.ownBlock = some W.heap.size) :
    S5 wr M k rv vs r v2 v8 v9 v true true true true W' := by
  obtain ⟨h1, h2, g, h3, h4, h5, h6⟩ := h
  have x := h4 rfl
  simp only [if_true] at x
  have hs := h1.size
  refine ⟨grown_far h1 hg (fun k hk => .inl rfl), fun e => (by cases e), g, h3, fun _ => ?_, fun _ e => (by cases e), fun _ => ⟨hown, fun e => ?_, ?_⟩⟩
  · simp only [if_true]
    exact x.grown hg (fun e => by have := hlt g e.symm; omega)
  · rcases hat with h | h
    · rw [h] at e; have := hlt g e; omega
    · rw [h] at e; cases e; have := x.2.1; omega
  · rcases hat with h | h
    · exact .inl h
    · exact .inr ⟨_, h, hs⟩
end steps5

/-- The rows that are copied so far. -/
def Rows_ (M : Nat) (W : World) (V : List (List Int)) (rv : Value) (vs : List Value) : Prop :=
  vs.length = V.length ∧ ∀ (j : Nat) (r : List Int), V[j]? = some r → ∃ g v, vs[j]? = some v ∧ XF M W g v r ∧ rv.ownBlock ≠ some g
theorem Rows_.step {M k : Nat} {wr W : World} {V : List (List Int)} {rv v2 v8 v9 v10 : Value} {vs : List Value} {r : List Int} (h : Rows_ M wr (V.take k) rv vs) (hr : V[k]? = some r) (hS : S5 wr M k rv vs r v2 v8 v9 v10 true true true true W) :
    Rows_ M W (V.take (k + 1)) v10 (vs ++ [v8]) := by
  obtain ⟨h1, h2, g, h3, h4, h5, h6⟩ := hS
  obtain ⟨h7, h8, h9⟩ := h6 rfl
  have x := h4 rfl
  simp only [if_true] at x
  obtain ⟨hl, hall⟩ := h
  have hk : k < V.length := (List.getElem?_eq_some_iff.1 hr).1
  have hlk : vs.length = k := by rw [hl]; simp; omega
  refine ⟨by simp [hl]; omega, fun j q hj => ?_⟩
  rw [List.take_add_one, hr] at hj
  by_cases e : j < k
  · rw [List.getElem?_append_left (by simp; omega)] at hj
    obtain ⟨g', v, e1, e2, e3⟩ := hall j q hj
    refine ⟨g', v, by rw [List.getElem?_append_left (by omega)]; exact e1, e2.grown h1 (fun h => e3 h.symm), ?_⟩
    rcases h9 with h9 | ⟨h, h9, h10⟩
    · rw [h9]; exact e3
    · rw [h9]; intro e'; cases e'; have := e2.2.1; omega
  · rw [List.getElem?_append_right (by simp; omega)] at hj
    have hj0 : j - (V.take k).length = 0 := by
      rcases Nat.eq_zero_or_pos (j - (V.take k).length) with h | h
      · exact h
      · simp only [Option.toList_some] at hj
        rw [List.getElem?_eq_none (by simp; simp at h; omega)] at hj
        cases hj
    have hjk : j = k := by simp at hj0; omega
    rw [hj0] at hj
    simp at hj
    subst hj hjk
    exact ⟨g, v8, by rw [List.getElem?_append_right (by omega)]; simp [hlk], x, h8⟩

theorem info_ints : (Try.prog.info? 25).map (fun i => (i.zero, i.size, i.bytes)) = some (some (.slice none 0 0), 1, 24) := by kernel_rfl
theorem Rows_.same {M : Nat} {W W' : World} {V : List (List Int)} {rv : Value} {vs : List Value} (h : Rows_ M W V rv vs) (hs : ∀ g, M ≤ g → W'.heap[g]? = W.heap[g]?) (hz : W.heap.size ≤ W'.heap.size) : Rows_ M W' V rv vs :=
  ⟨h.1, fun j r hj => by
    obtain ⟨g, v, e1, e2, e3⟩ := h.2 j r hj
    exact ⟨g, v, e1, e2.same (hs g e2.1) hz, e3⟩⟩
theorem Rows_.rows {M k : Nat} {W : World} {V : List (List Int)} {rv : Value} {vs : List Value} (h : Rows_ M W V rv vs) (ho : W.ownsRow M 25 1 rv k vs) : ∃ A c, rv = .slice A V.length c ∧ RR W W.heap.size A V := by
  have hk : k = V.length := by have := ho.1; have := h.1; omega
  subst hk
  rcases ho.2 with ⟨e, e0⟩ | ⟨g, cap, cur, rfl, hg1, hcur, _⟩
  · exact ⟨none, 0, by rw [e, e0], fun hp => by omega⟩
  · refine ⟨_, cap, rfl, fun hp => ⟨g, 0, rfl, own_lt ho rfl, fun j r hj => ?_⟩⟩
    obtain ⟨g', v, e1, e2, _⟩ := h.2 j r hj
    obtain ⟨c, rfl, hri⟩ := e2.slice
    have hj' : j < V.length := (List.getElem?_eq_some_iff.1 hj).1
    refine ⟨_, c, ?_, hri⟩
    rw [Nat.zero_add, ho.cellAt j (by omega)]
    exact e1

def fxC (w : World) (AX AY : Option Addr) (X Y : List Int) (cx cy : Nat) : Nat → Option Value
  | 1 => some (.pointer (some ⟨w.heap.size, 0, none⟩))
  | 2 => some (.slice AX X.length cx)
  | 5 => some (.pointer (some ⟨w.heap.size, 1, none⟩))
  | 6 => some (.slice AY Y.length cy)
  | _ => none
def RC (w : World) (AX AY : Option Addr) (X Y : List Int) (cx cy : Nat) (W0 : World) (val : Nat → Value) (L : Array Bool) (W : World) : Prop :=
  (∀ j u, fxC w AX AY X Y cx cy j = some u → L.getD j false = true → val j = u) ∧ (L.getD 8 false = true → val 8 = .agg #[val 3, val 7, .slice none 0 0]) ∧
  CR W0 X Y (val 0) (val 3) (val 4) (val 7) (val 9) (L.getD 0 false) (L.getD 3 false) (L.getD 4 false) (L.getD 7 false) (L.getD 9 false) (L.getD 10 false) W

def fx5 (g b off n c k : Nat) (A' : Option Addr) (rl c' bo : Nat) (rv : Value) : Nat → Option Value
  | 0 => some (.pointer (some ⟨bo, 2, none⟩))
  | 1 => some rv
  | 3 => some (.pointer (some ⟨g, 2, none⟩))
  | 4 => some (.slice (some ⟨b, off, none⟩) n c)
  | 5 => some (.int .i64 k)
  | 6 => some (.pointer (some ⟨b, off + k, none⟩))
  | 7 => some (.slice A' rl c')
  | 11 => some (.pointer (some ⟨bo, 2, none⟩))
  | _ => none
def R5 (fx : Nat → Option Value) (wr : World) (M k : Nat) (rv : Value) (vs : List Value) (r : List Int) (bo : Nat) (val : Nat → Value) (L : Array Bool) (W : World) : Prop :=
  (∀ j u, fx j = some u → L.getD j false = true → val j = u) ∧
  (L.getD 12 false = false → S5 wr M k rv vs r (val 2) (val 8) (val 9) (val 10) (L.getD 2 false) (L.getD 8 false) (L.getD 9 false) (L.getD 10 false) W) ∧
  (L.getD 12 false = true → ∃ W1, S5 wr M k rv vs r (val 2) (val 8) (val 9) (val 10) true true true true W1 ∧ W = W1.setCell ⟨bo, 2, none⟩ (val 10))

end Go.Proofs.Ytnnmmojlgikdgaa

/- The reference's corners. -/
namespace Go.Proofs.Ytnnmmojlgikdgaa
open Go.RowKit

set_option maxHeartbeats 1000000 in
theorem rcorners_any (A : Option Addr) (n c B : Nat) (X : List Int) (lo hi : Int) (w : World) (hx : X.length = n) (hn : n ≤ 1000000) (hB : B ≤ w.heap.size) (h : RI w B A X) :
    Calls Try.prog 123 #[.slice A n c, .agg #[.int .i64 lo, .int .i64 hi]] w (GivesInts w (endsL X lo hi)) := by
  subst hx
  obtain ⟨i0, hi0, hz0, hz1, hz2⟩ := info_parts info_int
  have HI := Lib.hid (h.more hB)
  clear h
  go_enter Try.func123, Try.ntmps123
  go_wp2_with fail
  have hown0 : ((w.alloc (.cells #[.int .i64 lo, .int .i64 hi] 27)).alloc (.cells #[.int .i64 lo] 3)).ownsRow (w.heap.size + 1) 3 1 (.slice (some ⟨w.heap.size + 1, 0, none⟩) 1 1) 1 [.int .i64 lo] := by
    have := World.ownsRow_lit (base := w.heap.size + 1) (e := 3) (size := 1) (w.alloc (.cells #[.int .i64 lo, .int .i64 hi] 27)) #[.int .i64 lo] 1 (by simp) (le_maxLen (by omega)) (by simp)
    simpa using this
  go_loopw [5, 6] (fun v i wr => ∃ k : Nat, k ≤ X.length ∧ i = .int .i64 k ∧ wr.ownsRow (w.heap.size + 1) 3 1 v (endK X lo hi k).length ((endK X lo hi k).map (Value.int .i64)) ∧
      wr.cell? ⟨w.heap.size, 0, none⟩ = some (.int .i64 lo) ∧ wr.cell? ⟨w.heap.size, 1, none⟩ = some (.int .i64 hi) ∧ w.heap.size < wr.heap.size ∧ Below w.heap.size w wr) (fun _ i _ => X.length - (intOf i).toNat)
  case atStart => exact ⟨0, Nat.zero_le _, rfl, by simpa [endK] using hown0, by go_simp, by go_simp, by simp; omega, by go_grown⟩
  case round =>
    obtain ⟨k, hk, rfl, hown, hc1, hc2, hsz, hbw⟩ := hrel
    have hel := endK_len X lo hi k
    have HOW := Lib.hid hown
    have HBW := Lib.hid hbw
    clear hown0
    by_cases hlt : k < X.length
    · obtain ⟨b, off, x, rfl, hb, hx, hc⟩ := (HI.out.below hbw).at_ hlt
      have HX := Lib.hid hx
      have hk0 : (k : Int) < X.length := by omega
      clear hx hown hbw
      by_cases h1 : lo < x
      · by_cases h2 : x < hi
        · go_upto_region 5 with fail
          go_quiet (fail)
          have hbq : Below wr.heap.size wr (wr.drewN nq) := below_drewN (Below.refl _ _) nq
          have d1 := cell_keep hbq hc1
          have d2 := cell_keep hbq hc2
          have d3 := cell_keep hbq hc
          have hown' : (wr.drewN nq).ownsRow (w.heap.size + 1) 3 1 u5 (endK X lo hi k).length ((endK X lo hi k).map (Value.int .i64)) := own_same HOW.out (fun q _ => by rw [World.heap_drewN])
          have hsz' : w.heap.size < (wr.drewN nq).heap.size := by rw [World.heap_drewN]; exact hsz
          have hbw' := below_drewN HBW.out nq
          generalize hwq : wr.drewN nq = wq at *
          have HBQ := Lib.hid hbw'
          clear hwq hbq hc hc1 hc2 hbw'
          go_wp2_with (at_builtin; refine wpList_append_own _ rfl _ _ 25 rfl (w.heap.size + 1) 3 i0 (.int .i64 0) 1 8 Try.underlying25 hi0 hz0 hz1 hz2 rfl (by decide) _ _ _ rfl (hown'.alloc _) ⟨wq.heap.size, 0, none⟩ 1 1 [.int .i64 x] rfl rfl ?c1 ?c2 ?c3 ?c4 ?c5 ?_)
          case c1 => exact cell_one_new _ _ _
          case c2 => intro u hu; simp at hu; subst hu; rfl
          case c3 => unfold maxLen; omega
          case c4 => omega
          case c5 => simp; omega
          intro v' w1 hown2 hgrow _
          have hne := fun e => (absurd (hown'.lt w.heap.size e).1 (by omega) : False)
          have hb2 : Below w.heap.size w w1 := (HBQ.out.alloc (by omega) (.cells #[.int .i64 x] 3)).grown hgrow (by simp; omega) (fun q hq => by have := (hown'.lt _ hq).1; omega)
          have e1 : w1.cell? ⟨w.heap.size, 0, none⟩ = some (.int .i64 lo) := hgrow.cell (by rw [World.cell?_alloc_past _ _ _ hsz']; exact d1) (fun e => hne e.symm)
          have e2 : w1.cell? ⟨w.heap.size, 1, none⟩ = some (.int .i64 hi) := hgrow.cell (by rw [World.cell?_alloc_past _ _ _ hsz']; exact d2) (fun e => hne e.symm)
          have hs1 : w.heap.size < w1.heap.size := by have := hgrow.size; simp at this; omega
          have ho : w1.ownsRow (w.heap.size + 1) 3 1 v' (endK X lo hi (k + 1)).length ((endK X lo hi (k + 1)).map (Value.int .i64)) := by
            rw [endK_hit HX.out h1 h2]; simpa using hown2
          clear hown2 hgrow hown' d1 d2 d3 hne
          go_wp2
          go_roundw
          case rel => exact ⟨k + 1, by omega, by go_num, ho, e1, e2, hs1, hb2⟩
          case measure => simp [intOf]; omega
        · have e1 := endK_miss (lo := lo) (hi := hi) HX.out (by omega)
          have E1 := Lib.hid e1
          clear e1
          go_upto_region 5 with fail
          go_quiet (fail)
          go_wp2
          go_roundw
          case rel => exact ⟨k + 1, by omega, by go_num, by rw [E1.out]; exact own_same HOW.out (fun q _ => by rw [World.heap_drewN]), hc1, hc2, by rw [World.heap_drewN]; exact hsz, below_drewN HBW.out _⟩
          case measure => simp [intOf]; omega
      · have e1 := endK_miss (lo := lo) (hi := hi) HX.out (by omega)
        have E1 := Lib.hid e1
        clear e1
        go_upto_region 5 with fail
        go_quiet (fail)
        go_wp2
        go_roundw
        case rel => exact ⟨k + 1, by omega, by go_num, by rw [E1.out]; exact own_same HOW.out (fun q _ => by rw [World.heap_drewN]), hc1, hc2, by rw [World.heap_drewN]; exact hsz, below_drewN HBW.out _⟩
        case measure => simp [intOf]; omega
    · obtain rfl : k = X.length := by omega
      obtain ⟨g, cap, rfl⟩ := ownsRow_succ (k := (X.take X.length |>.filter (fun n => decide (lo < n) && decide (n < hi))).length) (by simpa [endK] using hown)
      have hbig : (endK X lo hi X.length).length = (X.take X.length |>.filter (fun n => decide (lo < n) && decide (n < hi))).length + 1 := by simp [endK]
      rw [← hbig] at *
      have HB := Lib.hid hbig
      clear hbig
      by_cases hlh : lo < hi
      · have e2 : endsL X lo hi = endK X lo hi X.length ++ [hi] := by rw [endK_all, if_pos hlh]
        have E2 := Lib.hid e2
        clear e2
        go_wp2_with (at_builtin; refine wpList_append_own _ rfl _ _ 25 rfl (w.heap.size + 1) 3 i0 (.int .i64 0) 1 8 Try.underlying25 hi0 hz0 hz1 hz2 rfl (by decide) _ _ _ rfl (hown.alloc _) ⟨wr.heap.size, 0, none⟩ 1 1 [.int .i64 hi] rfl rfl ?d1 ?d2 ?d3 ?d4 ?d5 ?_)
        case d2 => first | rfl | (intro u hu; simp at hu; subst hu; rfl)
        case d3 => first | omega | (unfold maxLen; omega)
        case d4 => omega
        case d5 => first | omega | (simp; omega)
        intro v' w1 hown' hgrow _
        have hb2 : Below w.heap.size w w1 := (hbw.alloc (by omega) (.cells #[.int .i64 hi] 3)).grown hgrow (by simp; omega) (fun q hq => by have := (hown.lt _ hq).1; omega)
        obtain ⟨g', cap', hv'⟩ := ownsRow_succ hown'
        subst hv'
        have ho : RI w1 w1.heap.size (some ⟨g', 0, none⟩) (endsL X lo hi) := by
          rw [E2.out]
          exact RI.of_own (n := (endK X lo hi X.length).length + 1) (by simpa using hown')
        have hg' : w.heap.size ≤ g' := by have := (hown'.lt g' rfl).1; omega
        clear hown' hgrow hown hc1 hc2 hbw
        go_wp2
        go_ret
        exact ⟨g', cap', by rw [E2.out]; simp, hg', ho, hb2⟩
      · have e2 : endsL X lo hi = endK X lo hi X.length := by rw [endK_all, if_neg hlh]; simp
        have E2 := Lib.hid e2
        clear e2
        go_wp2
        go_ret
        exact ⟨g, cap, by rw [E2.out]; rfl, by have := (hown.lt g rfl).1; omega, by rw [E2.out]; exact RI.of_own hown, hbw⟩

end Go.Proofs.Ytnnmmojlgikdgaa

/- Add and Times of both sides; floor and ceil of the reference. -/
namespace Go.Proofs.Ytnnmmojlgikdgaa
open Go.RowKit

theorem mul_bd3 {a c M N : Int} (h1 : -M ≤ a) (h2 : a ≤ M) (h3 : -N ≤ c) (h4 : c ≤ N) (hN : 0 ≤ N) : -(M * N) ≤ a * c ∧ a * c ≤ M * N := by
  by_cases h : 0 ≤ a
  · exact mul_bd h h2 h3 h4 hN
  · have := mul_bd (a := -a) (A := M) (by omega) (by omega) h3 h4 hN
    rw [Int.neg_mul] at this
    omega

theorem rfl_neg {a b : Int} (hb : 1 ≤ b) (h : a < 0) : -((-a + b - 1).tdiv b) = fl a b := by
  have h0 : 0 < b := by omega
  have e1 := Int.emod_nonneg a (b := b) (by omega)
  have e2 := Int.emod_lt_of_pos a h0
  have e3 := Int.emod_add_mul_ediv a b
  have hq : (-a + b - 1) / b = -(a / b) ∧ (-a + b - 1) % b = b - 1 - a % b := by
    refine (Int.ediv_emod_unique h0).2 ⟨?_, by omega, by omega⟩
    rw [Int.mul_neg]
    omega
  rw [Int.tdiv_eq_ediv_of_nonneg (by omega), hq.1]
  unfold fl
  omega

theorem rfloor_any (a b : Int) (w : World) (h1 : 1 ≤ b) (h2 : b ≤ 1000000000) (h3 : -1000000000000 ≤ a) (h4 : a ≤ 1000000000000) :
    Calls Try.prog 125 #[.int .i64 a, .int .i64 b] w fun e w' => e = .returned (.int .i64 (fl a b)) ∧ w = w' := by
  have hd := tdiv_bd (b := b) (a := a) (M := 1000000000000) h3 h4
  have hd2 := tdiv_bd (b := b) (a := -a + b - 1) (M := 2000000000000) (by omega) (by omega)
  by_cases h : 0 ≤ a
  · go_enter Try.func125, Try.ntmps125
    go_wp2
    go_ret
    exact ⟨ret_int (by unfold fl; exact Int.tdiv_eq_ediv_of_nonneg h), rfl⟩
  · go_enter Try.func125, Try.ntmps125
    go_wp2
    go_ret
    exact ⟨ret_int (rfl_neg h1 (by omega)), rfl⟩

theorem rceil_any (a b : Int) (w : World) (h1 : 1 ≤ b) (h2 : b ≤ 1000000000) (h3 : -1000000000000 ≤ a) (h4 : a ≤ 1000000000000) :
    Calls Try.prog 126 #[.int .i64 a, .int .i64 b] w fun e w' => e = .returned (.int .i64 (cl a b)) ∧ w = w' := by
  have hd := fl_bd (a := -a) h1 (M := 1000000000000) (by omega) (by omega)
  go_enter Try.func126, Try.ntmps126
  go_wp2_with (go_at_call 125; refine (rfloor_any _ _ _ h1 h2 (by omega) (by omega)).mono ?_; rintro e w' ⟨rfl, rfl⟩)
  go_ret
  exact ⟨rfl, rfl⟩

def madeS (a b : Int) : (Int × Int) × Int := if vI a b then ((a, b), 0) else ((0, 0), 2)

end Go.Proofs.Ytnnmmojlgikdgaa

/- The reference's part, Value, Between. -/
namespace Go.Proofs.Ytnnmmojlgikdgaa
open Go.RowKit

theorem rprt_any (A : Option Addr) (n c B : Nat) (X : List Int) (y : Int) (w : World) (hx : X.length = n) (hn : n ≤ 1000000) (h2 : 2 ≤ n) (h : RI w B A X) :
    Calls Try.prog 127 #[.slice A n c, .int .i64 y] w fun e w' => e = .returned (.int .i64 (partN X y : Nat)) ∧ w = w' := by
  subst hx
  go_enter Try.func127, Try.ntmps127
  go_wp2
  go_loop [5] (fun i => ∃ k : Nat, k + 2 ≤ X.length ∧ i = .int .i64 k ∧ partN X y = k + partN (X.drop k) y) (fun i => X.length - (intOf i).toNat)
  case atStart => exact ⟨0, by omega, rfl, by simp⟩
  case round =>
    obtain ⟨k, hk, rfl, hw⟩ := hrel
    have HW := Lib.hid hw
    clear hw
    by_cases hlt : k + 2 < X.length
    · obtain ⟨b, off, x, rfl, hb, hx, hc⟩ := h.at_ (k := k + 1) (by omega)
      have HX := Lib.hid hx
      clear hx
      have hlt' : (k : Int) + 2 < (X.length : Int) := by omega
      have i4 : (k : Int) + 1 < X.length := by omega
      by_cases hle : x ≤ y
      · go_wp2
        go_round
        case rel => exact ⟨k + 1, by omega, by go_num, by rw [HW.out, partN_go hlt HX.out hle]; omega⟩
        case measure => simp [intOf]; omega
      · go_wp2
        go_ret
        exact ⟨ret_int (by rw [HW.out, partN_stop hlt HX.out (by omega)]; omega), rfl⟩
    · have hlt' : ¬ (k : Int) + 2 < (X.length : Int) := by omega
      go_wp2
      go_ret
      exact ⟨ret_int (by rw [HW.out, partN_end (by omega)]; omega), rfl⟩

/-- Between. -/
def btB (X : List Int) (a b : Int) : Bool := decide (gz X 0 ≤ a) && decide (b ≤ gz X (X.length - 1))

theorem between_any (A : Option Addr) (n c B : Nat) (X : List Int) (a b : Int) (w : World) (hx : X.length = n) (hn : n ≤ 1000000) (h1 : 1 ≤ n) (hB : B ≤ w.heap.size) (h : RI w B A X) :
    Calls Try.prog 89 #[.slice A n c, .agg #[.int .i64 a, .int .i64 b]] w fun e w' => e = .returned (.bool (btB X a b)) ∧ Below w.heap.size w w' := by
  subst hx
  obtain ⟨b0, o0, x0, rfl, hb0, hx0, hc0⟩ := h.at_ (k := 0) (by omega)
  obtain ⟨b1, o1, x1, hA, hb1, hx1, hc1⟩ := h.at_ (k := X.length - 1) (by omega)
  obtain ⟨rfl, rfl⟩ : b0 = b1 ∧ o0 = o1 := by simpa using hA
  have e1 : btB X a b = (decide (x0 ≤ a) && decide (b ≤ x1)) := by unfold btB; rw [gz_of hx0, gz_of hx1]
  rw [e1]
  simp only [Nat.add_zero] at hc0
  have i0 : (0 : Int) < (X.length : Int) := by omega
  have i1 : IntKind.i64.wrap ((X.length : Int) - 1) = (X.length : Int) - 1 := IntWalk.i64_in _ (by omega)
  have i2 : ((X.length : Int) - 1).toNat = X.length - 1 := by omega
  have i3 : (0 : Int) ≤ (X.length : Int) - 1 := by omega
  have i4 : (X.length : Int) - 1 < (X.length : Int) := by omega
  have hbb : b0 < w.heap.size := by omega
  clear hx0 hx1 e1 hA h hb1
  by_cases g1 : x0 ≤ a <;> by_cases g2 : b ≤ x1
  all_goals
    have G := Lib.hid (And.intro g1 g2)
    go_enter Try.func89, Try.ntmps89
    go_upto_region 1 with fail
    go_quiet (fail)
    go_wp2
    go_ret
    obtain ⟨g1', g2'⟩ := G.out
    exact ⟨ret_bool (by simp [g1', g2']), below_drewN (by go_grown) _⟩

set_option maxHeartbeats 4000000 in
set_option maxRecDepth 100000 in
theorem rvalue_any (AX AY AV : Option Addr) (nx cx ny cy nv cv B : Nat) (X Y : List Int) (V : List (List Int)) (x y : Int) (w : World) (hx : X.length = nx) (hy : Y.length = ny) (hv : V.length = nv)
    (hB : B ≤ w.heap.size) (h : TB w B AX AY AV X Y V) (hct : ctB X Y V = true) (ho' : On X x) (ho : On Y y) :
    Calls Try.prog 124 #[.agg #[.slice AX nx cx, .slice AY ny cy, .slice AV nv cv], .int .i64 x, .int .i64 y] w fun e w' =>
      e = .returned (.tuple #[.int .i64 (atN X Y V x y), .int .i64 (atD X Y x y)]) ∧ Below w.heap.size w w' := by
  subst hx hy hv
  obtain ⟨ha, hb, hl, _⟩ := ctB_get hct
  obtain ⟨q1, q2, q3, q4⟩ := axB_get ha
  obtain ⟨p1, p2, p3, p4⟩ := axB_get hb
  have s := seg_of ha ho'.1 ho'.2
  have t := seg_of hb ho.1 ho.2
  have sl := s.lt
  have tl := t.lt
  have hxp : ∀ W, RI W B AX X → Calls Try.prog 127 #[.slice AX X.length cx, .int .i64 x] W fun e w' => e = .returned (.int .i64 (partN X x : Nat)) ∧ W = w' := fun W hW => rprt_any _ _ _ B X x W rfl (by omega) q1 hW
  have hyp : ∀ W, RI W B AY Y → Calls Try.prog 127 #[.slice AY Y.length cy, .int .i64 y] W fun e w' => e = .returned (.int .i64 (partN Y y : Nat)) ∧ W = w' := fun W hW => rprt_any _ _ _ B Y y W rfl (by omega) p1 hW
  obtain ⟨bx, ox, x0, hAX, hbx, hx0, hcx0⟩ := h.x.at_ (k := partN X x) (by omega)
  obtain ⟨bx2, ox2, x1, hA, _, hx1, hcx1⟩ := h.x.at_ (k := partN X x + 1) (by omega)
  obtain ⟨rfl, rfl⟩ : bx = bx2 ∧ ox = ox2 := by rw [hAX] at hA; simpa using hA
  obtain ⟨by1, oy, y0, hAY, hby, hy0, hcy0⟩ := h.y.at_ (k := partN Y y) (by omega)
  obtain ⟨by2, oy2, y1, hA', _, hy1, hcy1⟩ := h.y.at_ (k := partN Y y + 1) (by omega)
  obtain ⟨rfl, rfl⟩ : by1 = by2 ∧ oy = oy2 := by rw [hAY] at hA'; simpa using hA'
  obtain ⟨r1, r2⟩ := row_get hct (i := partN X x) (by omega)
  obtain ⟨r3, r4⟩ := row_get hct (i := partN X x + 1) (by omega)
  obtain ⟨bv, ov, r, A0, c0, hAV, hbv, hr, hcr, hri⟩ := h.v.at_ (k := partN X x) (by omega)
  obtain ⟨bv2, ov2, r', A1, c1, hA'', _, hr', hcr', hri'⟩ := h.v.at_ (k := partN X x + 1) (by omega)
  obtain ⟨rfl, rfl⟩ : bv = bv2 ∧ ov = ov2 := by rw [hAV] at hA''; simpa using hA''
  have er : gr V (partN X x) = r := gr_of hr
  have er' : gr V (partN X x + 1) = r' := gr_of hr'
  rw [er] at r1 r2
  rw [er'] at r3 r4
  obtain ⟨g0, o0, v00, rfl, hg0, hv00, hc00⟩ := hri.at_ (k := partN Y y) (by omega)
  obtain ⟨g0', o0', v01, hB0, _, hv01, hc01⟩ := hri.at_ (k := partN Y y + 1) (by omega)
  obtain ⟨rfl, rfl⟩ : g0 = g0' ∧ o0 = o0' := by simpa using hB0
  obtain ⟨g1, o1, v10, rfl, hg1, hv10, hc10⟩ := hri'.at_ (k := partN Y y) (by omega)
  obtain ⟨g1', o1', v11, hB1, _, hv11, hc11⟩ := hri'.at_ (k := partN Y y + 1) (by omega)
  obtain ⟨rfl, rfl⟩ : g1 = g1' ∧ o1 = o1' := by simpa using hB1
  have e1 : atN X Y V x y = (x1 - x) * (y1 - y) * v00 + (x - x0) * (y1 - y) * v10 + (x1 - x) * (y - y0) * v01 + (x - x0) * (y - y0) * v11 := by
    unfold atN kNum
    rw [gz_of hx0, gz_of hx1, gz_of hy0, gz_of hy1, er, er', gz_of hv00, gz_of hv01, gz_of hv10, gz_of hv11]
    grind
  have e2 : atD X Y x y = (x1 - x0) * (y1 - y0) := by unfold atD kDen; rw [gz_of hx0, gz_of hx1, gz_of hy0, gz_of hy1]
  rw [e1, e2]
  have sd1 := s.d1; have sd2 := s.d2; have slo := s.lo; have shi := s.hi
  have td1 := t.d1; have td2 := t.d2; have tlo := t.lo; have thi := t.hi
  rw [gz_of hx0, gz_of hx1] at sd1 sd2
  rw [gz_of hx0] at slo
  rw [gz_of hx1] at shi
  rw [gz_of hy0, gz_of hy1] at td1 td2
  rw [gz_of hy0] at tlo
  rw [gz_of hy1] at thi
  obtain ⟨a1, a2⟩ := wB_mem q3 hx0
  obtain ⟨a3, a4⟩ := wB_mem q3 hx1
  obtain ⟨a5, a6⟩ := wB_mem p3 hy0
  obtain ⟨a7, a8⟩ := wB_mem p3 hy1
  obtain ⟨b1, b2⟩ := wB_mem r2 hv00
  obtain ⟨b3, b4⟩ := wB_mem r2 hv01
  obtain ⟨b5, b6⟩ := wB_mem r4 hv10
  obtain ⟨b7, b8⟩ := wB_mem r4 hv11
  have lx0 : (partN X x : Int) < X.length := by omega
  have lx1 : (partN X x : Int) + 1 < X.length := by omega
  have ly0 : (partN Y y : Int) < Y.length := by omega
  have ly1 : (partN Y y : Int) + 1 < Y.length := by omega
  have lv0 : (partN X x : Int) < V.length := by omega
  have lv1 : (partN X x : Int) + 1 < V.length := by omega
  have lr0 : (partN Y y : Int) < r.length := by omega
  have lr1 : (partN Y y : Int) + 1 < r.length := by omega
  have lr2 : (partN Y y : Int) < r'.length := by omega
  have lr3 : (partN Y y : Int) + 1 < r'.length := by omega
  have bk : partN X x ≤ 100 := by omega
  have bm : partN Y y ≤ 100 := by omega
  have hgx : bx < w.heap.size := by omega
  have hgy : by1 < w.heap.size := by omega
  have hgv : bv < w.heap.size := by omega
  have hgr0 : g0 < w.heap.size := by omega
  have hgr1 : g1 < w.heap.size := by omega
  have HTX := Lib.hid h.x
  have HTY := Lib.hid h.y
  rw [hAX] at HTX hxp ⊢
  rw [hAY] at HTY hyp ⊢
  rw [hAV]
  generalize hk : partN X x = k at *
  generalize hm : partN Y y = m at *
  clear hk hm s t hct ha hb hl q1 q2 q3 q4 p1 p2 p3 p4 e1 e2 er er' hr hr' hri hri' h hx0 hx1 hy0 hy1 hv00 hv01 hv10 hv11 r1 r2 r3 r4 hA hA' hA'' hAX hAY hAV hB0 hB1 ho ho' sl tl
  have HXP := Lib.hid hxp
  have HYP := Lib.hid hyp
  clear hxp hyp
  have f1 : IntKind.i64.wrap ((k : Int) + 1) = (k : Int) + 1 := IntWalk.i64_in _ (by omega)
  have f2 : ((k : Int) + 1).toNat = k + 1 := by omega
  have f3 : (0 : Int) ≤ (k : Int) + 1 := by omega
  have f4 : IntKind.i64.wrap ((m : Int) + 1) = (m : Int) + 1 := IntWalk.i64_in _ (by omega)
  have f5 : ((m : Int) + 1).toNat = m + 1 := by omega
  have f6 : (0 : Int) ≤ (m : Int) + 1 := by omega
  generalize hda : x1 - x = da at *
  generalize hdb : x - x0 = db at *
  generalize hdc : y1 - y = dc at *
  generalize hdd : y - y0 = dd at *
  generalize hdx : x1 - x0 = dx at *
  generalize hdy : y1 - y0 = dy at *
  have w1 : IntKind.i64.wrap (x1 - x) = da := by rw [hda]; exact IntWalk.i64_in _ (by omega)
  have w2 : IntKind.i64.wrap (x - x0) = db := by rw [hdb]; exact IntWalk.i64_in _ (by omega)
  have w3 : IntKind.i64.wrap (y1 - y) = dc := by rw [hdc]; exact IntWalk.i64_in _ (by omega)
  have w4 : IntKind.i64.wrap (y - y0) = dd := by rw [hdd]; exact IntWalk.i64_in _ (by omega)
  have w5 : IntKind.i64.wrap (x1 - x0) = dx := by rw [hdx]; exact IntWalk.i64_in _ (by omega)
  have w6 : IntKind.i64.wrap (y1 - y0) = dy := by rw [hdy]; exact IntWalk.i64_in _ (by omega)
  have m1 := mul_bd (a := da) (u := dc) (A := 10000) (M := 10000) (by omega) (by omega) (by omega) (by omega) (by omega)
  have m2 := mul_bd (a := db) (u := dc) (A := 10000) (M := 10000) (by omega) (by omega) (by omega) (by omega) (by omega)
  have m3 := mul_bd (a := da) (u := dd) (A := 10000) (M := 10000) (by omega) (by omega) (by omega) (by omega) (by omega)
  have m4 := mul_bd (a := db) (u := dd) (A := 10000) (M := 10000) (by omega) (by omega) (by omega) (by omega) (by omega)
  have m5 := mul_bd (a := dx) (u := dy) (A := 10000) (M := 10000) (by omega) (by omega) (by omega) (by omega) (by omega)
  have n1 : 0 ≤ da * dc := Int.mul_nonneg (by omega) (by omega)
  have n2 : 0 ≤ db * dc := Int.mul_nonneg (by omega) (by omega)
  have n3 : 0 ≤ da * dd := Int.mul_nonneg (by omega) (by omega)
  have n4 : 0 ≤ db * dd := Int.mul_nonneg (by omega) (by omega)
  have w7 : IntKind.i64.wrap (da * dc) = da * dc := IntWalk.i64_in _ (by omega)
  have w8 : IntKind.i64.wrap (db * dc) = db * dc := IntWalk.i64_in _ (by omega)
  have w9 : IntKind.i64.wrap (da * dd) = da * dd := IntWalk.i64_in _ (by omega)
  have w10 : IntKind.i64.wrap (db * dd) = db * dd := IntWalk.i64_in _ (by omega)
  have w11 : IntKind.i64.wrap (dx * dy) = dx * dy := IntWalk.i64_in _ (by omega)
  generalize hg_s1 : da * dc = s1 at *
  generalize hg_s2 : db * dc = s2 at *
  generalize hg_s3 : da * dd = s3 at *
  generalize hg_s4 : db * dd = s4 at *
  generalize hg_s5 : dx * dy = s5 at *
  have m6 := mul_bd (a := s1) (u := v00) (A := 100000000) (M := 1000000) (by omega) (by omega) (by omega) (by omega) (by omega)
  have m7 := mul_bd (a := s2) (u := v10) (A := 100000000) (M := 1000000) (by omega) (by omega) (by omega) (by omega) (by omega)
  have m8 := mul_bd (a := s3) (u := v01) (A := 100000000) (M := 1000000) (by omega) (by omega) (by omega) (by omega) (by omega)
  have m9 := mul_bd (a := s4) (u := v11) (A := 100000000) (M := 1000000) (by omega) (by omega) (by omega) (by omega) (by omega)
  have w12 : IntKind.i64.wrap (s1 * v00) = s1 * v00 := IntWalk.i64_in _ (by omega)
  have w13 : IntKind.i64.wrap (s2 * v10) = s2 * v10 := IntWalk.i64_in _ (by omega)
  have w14 : IntKind.i64.wrap (s3 * v01) = s3 * v01 := IntWalk.i64_in _ (by omega)
  have w15 : IntKind.i64.wrap (s4 * v11) = s4 * v11 := IntWalk.i64_in _ (by omega)
  generalize hg_t1 : s1 * v00 = t1 at *
  generalize hg_t2 : s2 * v10 = t2 at *
  generalize hg_t3 : s3 * v01 = t3 at *
  generalize hg_t4 : s4 * v11 = t4 at *
  have w16 : IntKind.i64.wrap (t1 + t2) = t1 + t2 := IntWalk.i64_in _ (by omega)
  have w17 : IntKind.i64.wrap (t1 + t2 + t3) = t1 + t2 + t3 := IntWalk.i64_in _ (by omega)
  have w18 : IntKind.i64.wrap (t1 + t2 + t3 + t4) = t1 + t2 + t3 + t4 := IntWalk.i64_in _ (by omega)
  clear m1 m2 m3 m4 m5 m6 m7 m8 m9 n1 n2 n3 n4 a1 a2 a3 a4 a5 a6 a7 a8 b1 b2 b3 b4 b5 b6 b7 b8 hda hdb hdc hdd hdx hdy sd1 sd2 slo shi td1 td2 tlo thi
  go_enter Try.func124, Try.ntmps124
  go_upto_region 1 with fail
  go_quiet (first
    | (go_at_call_of 127 (Value.int .i64 x); exact quiet_left (HXP.out _ (RI.drewN (HTX.out.below (by go_grown)) _)))
    | (go_at_call_of 127 (Value.int .i64 y); exact quiet_left (HYP.out _ (RI.drewN (HTY.out.below (by go_grown)) _))))
  go_wp2_with fail
  go_quiet (fail)
  go_wp2_with fail
  go_quiet (fail)
  go_wp2_with fail
  go_quiet (fail)
  go_wp2
  go_ret2
  exact ⟨rfl, below_drewN (below_drewN ((Below.refl _ _).alloc (Nat.le_refl _) _) _) _⟩

end Go.Proofs.Ytnnmmojlgikdgaa

/- The reference's knots and CheckTable. -/
namespace Go.Proofs.Ytnnmmojlgikdgaa
open Go.RowKit

theorem from_yes {a b c : Int} (h1 : b ≤ a) (h2 : a ≤ c) (w : World) : Calls Try.prog 98 #[.int .i64 a, .int .i64 b, .int .i64 c] w fun e w' => e = .returned (.bool true) ∧ w = w' := by
  have := from_any a b c w
  rwa [show (decide (b ≤ a) && decide (a ≤ c)) = true by simp [h1, h2]] at this
theorem from_no {a b c : Int} (h : ¬ (b ≤ a ∧ a ≤ c)) (w : World) : Calls Try.prog 98 #[.int .i64 a, .int .i64 b, .int .i64 c] w fun e w' => e = .returned (.bool false) ∧ w = w' := by
  have := from_any a b c w
  rwa [show (decide (b ≤ a) && decide (a ≤ c)) = false by simp; omega] at this

theorem axB_bad1 {X : List Int} {k : Nat} {x : Int} (hx : X[k]? = some x) (h : ¬ (-1000000 ≤ x ∧ x ≤ 1000000)) : axB X = false := by
  unfold axB
  rw [wB_bad hx (by omega)]
  simp
theorem axB_bad2 {X : List Int} {k : Nat} {x y : Int} (hx : X[k + 1]? = some x) (hy : X[k]? = some y) (h : ¬ (1 ≤ x - y ∧ x - y ≤ 10000)) : axB X = false := by
  unfold axB
  have hk : k + 1 < X.length := (List.getElem?_eq_some_iff.1 hx).1
  have : stN X (X.length - 1) = false := stN_bad (m := k) (by omega) (by rw [hx, hy]; simp; omega)
  rw [this]
  simp
theorem axB_good {X : List Int} (h1 : 2 ≤ X.length) (h2 : X.length ≤ 12) (h3 : wB (-1000000) 1000000 X = true) (h4 : stN X (X.length - 1) = true) : axB X = true := by
  unfold axB
  simp [h1, h2, h3, h4]

set_option maxRecDepth 100000 in
theorem knots_any (A : Option Addr) (n c B : Nat) (X : List Int) (w : World) (hx : X.length = n) (hn : n ≤ maxLen) (hB : B ≤ w.heap.size) (h : RI w B A X) :
    Calls Try.prog 108 #[.slice A n c] w fun e w' => e = .returned (.bool (axB X)) ∧ Below w.heap.size w w' := by
  subst hx
  unfold maxLen at hn
  by_cases h1 : 2 ≤ X.length ∧ X.length ≤ 12
  · obtain ⟨h1, h2⟩ := h1
    have HF := Lib.hid (from_yes (a := (X.length : Int)) (b := 2) (c := 12) (by omega) (by omega))
    have HL := Lib.hid (And.intro h1 h2)
    have HI := Lib.hid h
    clear h1 h2 h
    go_enter Try.func108, Try.ntmps108
    go_wp2_with (go_at_call 98; refine Calls.mono (HF.out _) ?_; rintro e w1 ⟨rfl, rfl⟩)
    go_loopw [3] (fun i wr => ∃ k : Nat, k ≤ X.length ∧ i = .int .i64 k ∧ wB (-1000000) 1000000 (X.take k) = true ∧ stN X (k - 1) = true ∧ Below w.heap.size w wr) (fun i _ => X.length - (intOf i).toNat)
    case atStart => exact ⟨0, by omega, rfl, by simp [wB], by simp [stN], by go_grown⟩
    case round =>
      obtain ⟨k, hk, rfl, hw, hs, hbw⟩ := hrel
      have HBW := Lib.hid hbw
      have HJ := Lib.hid ((HI.out.more hB).below hbw)
      have HW := Lib.hid (And.intro hw hs)
      clear hw hs
      by_cases hlt : k < X.length
      · obtain ⟨b, off, x, rfl, hb, hx, hc⟩ := HJ.out.at_ hlt
        clear hbw
        have HX := Lib.hid hx
        have hk0 : (k : Int) < X.length := by omega
        by_cases g1 : -1000000 ≤ x ∧ x ≤ 1000000
        · have HF1 := Lib.hid (from_yes (a := x) (b := -1000000) (c := 1000000) g1.1 g1.2)
          cases k with
          | zero =>
            simp only [Nat.add_zero] at hc
            clear hx
            go_upto_region 6 with fail
            go_quiet ((go_at_call 98; exact quiet_left (HF1.out _)))
            go_wp2
            go_roundw
            case rel => exact ⟨1, by omega, by go_num, by rw [wB_step HX.out]; simp [wB, g1.1, g1.2], by simp [stN], below_drewN HBW.out _⟩
            case measure => simp [intOf]; omega
          | succ k =>
            obtain ⟨b', off', y, hA, hb', hy, hc2⟩ := HJ.out.at_ (k := k) (by omega)
            obtain ⟨rfl, rfl⟩ : b = b' ∧ off = off' := by simpa using hA
            have HY := Lib.hid hy
            have hyb := wB_mem HW.out.1 (show (X.take (k + 1))[k]? = some y by rw [List.getElem?_take_of_lt (by omega)]; exact hy)
            obtain ⟨y1, y2⟩ := hyb
            obtain ⟨x1, x2⟩ := g1
            have i1 : ((k + 1 : Nat) : Int) - 1 = k := by omega
            have i2 : IntKind.i64.wrap (((k + 1 : Nat) : Int) - 1) = k := by rw [IntWalk.i64_in _ (by omega)]; omega
            have i3 : IntKind.i64.wrap (x - y) = x - y := IntWalk.i64_in _ (by omega)
            have i4 : (0 : Int) < ((k + 1 : Nat) : Int) := by omega
            have i5 : (k : Int) < X.length := by omega
            have i6 : (0 : Int) ≤ (k : Int) := by omega
            have i7 : (k : Int) + 1 - 1 = k := by omega
            have i8 : IntKind.i64.wrap (k : Int) = k := IntWalk.i64_in _ (by omega)
            have i9 : ((k : Int) + 1).toNat = k + 1 := by omega
            have i10 : (0 : Int) ≤ (k : Int) + 1 := by omega
            have i11 : (0 : Int) < (k : Int) + 1 := by omega
            have i12 : (k : Int) + 1 < X.length := by omega
            clear hx hy hA
            by_cases g2 : 1 ≤ x - y ∧ x - y ≤ 10000
            · have HF2 := Lib.hid (from_yes (a := x - y) (b := 1) (c := 10000) g2.1 g2.2)
              go_upto_region 6 with fail
              go_quiet (first
                | (go_at_call_of 98 (Value.int .i64 10000); exact quiet_left (HF2.out _))
                | (go_at_call 98; exact quiet_left (HF1.out _)))
              go_wp2
              go_roundw
              case rel => exact ⟨k + 1 + 1, by omega, by go_num, by rw [wB_step HX.out, HW.out.1]; simp [x1, x2], by have hs := HW.out.2; simp only [Nat.add_sub_cancel] at hs; show stN X (k + 1) = true; rw [stN_step, hs, HX.out, HY.out]; simp [g2.1, g2.2], below_drewN HBW.out _⟩
              case measure => simp [intOf]; omega
            · have HF2 := Lib.hid (from_no (a := x - y) (b := 1) (c := 10000) g2)
              have G2 := Lib.hid g2
              clear g2
              go_upto_region 6 with fail
              go_quiet (first
                | (go_at_call_of 98 (Value.int .i64 10000); exact quiet_left (HF2.out _))
                | (go_at_call 98; exact quiet_left (HF1.out _)))
              go_wp2
              go_ret
              exact ⟨ret_bool (axB_bad2 HX.out HY.out G2.out).symm, below_drewN HBW.out _⟩
        · have HF1 := Lib.hid (from_no (a := x) (b := -1000000) (c := 1000000) g1)
          have G1 := Lib.hid g1
          clear g1 hx
          go_upto_region 6 with fail
          go_quiet ((go_at_call 98; exact quiet_left (HF1.out _)))
          go_wp2
          go_ret
          exact ⟨ret_bool (axB_bad1 HX.out G1.out).symm, below_drewN HBW.out _⟩
      · obtain rfl : k = X.length := by omega
        go_wp2
        go_ret
        exact ⟨ret_bool (axB_good HL.out.1 HL.out.2 (by have := HW.out.1; rwa [List.take_of_length_le (by omega)] at this) HW.out.2).symm, HBW.out⟩
  · have HF := Lib.hid (from_no (a := (X.length : Int)) (b := 2) (c := 12) (by omega))
    have e1 : axB X = false := by unfold axB; simp; omega
    rw [e1]
    clear h1 e1
    go_enter Try.func108, Try.ntmps108
    go_wp2_with (go_at_call 98; refine Calls.mono (HF.out _) ?_; rintro e w1 ⟨rfl, rfl⟩)
    go_ret
    exact ⟨rfl, by go_grown⟩

set_option maxRecDepth 100000 in
set_option maxHeartbeats 1000000 in
theorem rct_any (AX AY AV : Option Addr) (nx cx ny cy nv cv B : Nat) (X Y : List Int) (V : List (List Int)) (w : World) (hx : X.length = nx) (hy : Y.length = ny) (hv : V.length = nv) (hnx : nx ≤ maxLen) (hny : ny ≤ maxLen) (hnv : nv ≤ maxLen) (hnr : ∀ r ∈ V, r.length ≤ maxLen)
    (hB : B ≤ w.heap.size) (h : TB w B AX AY AV X Y V) :
    Calls Try.prog 75 #[.agg #[.slice AX nx cx, .slice AY ny cy, .slice AV nv cv]] w fun e w' => e = .returned (.int .i64 (ctE X Y V)) ∧ Below w.heap.size w w' := by
  subst hx hy hv
  unfold maxLen at hnr
  cases h1 : axB X with
  | false =>
    rw [ctE_no (by unfold ctB; simp [h1])]
    have H1 := Lib.hid h1
    clear h1
    go_enter Try.func75, Try.ntmps75
    go_wp2_with (go_at_call 108; refine Calls.mono (knots_any AX _ _ B X _ rfl hnx (by simp; omega) (h.x.below (by go_grown))) ?_; rintro e w1 ⟨rfl, hb1⟩; rw [H1.out])
    go_ret
    exact ⟨rfl, Below.trans (by go_grown) (hb1.mono (by simp))⟩
  | true =>
  cases h2 : axB Y with
  | false =>
    rw [ctE_no (by unfold ctB; simp [h2])]
    have H1 := Lib.hid h1
    have H2 := Lib.hid h2
    clear h1 h2
    go_enter Try.func75, Try.ntmps75
    go_wp2_with (first
      | (go_at_call_of 108 (Value.slice AX X.length cx); refine Calls.mono (knots_any AX _ _ B X _ rfl hnx (by simp; omega) (h.x.below (by go_grown))) ?_; rintro e w1 ⟨rfl, hb1⟩; rw [H1.out]; obtain ⟨hc1, hf1⟩ := bcell hb1; have hB1 := hb1.size; simp at hB1; have hz1 : w.heap.size < w1.heap.size := by omega)
      | (go_at_call_of 108 (Value.slice AY Y.length cy); refine Calls.mono (knots_any AY _ _ B Y _ rfl hny (by omega) ((h.y.below (by go_grown)).below (hb1.mono (by simp; omega)))) ?_; rintro e w2 ⟨rfl, hb2⟩; rw [H2.out]))
    go_ret
    exact ⟨rfl, (Below.trans (by go_grown) (hb1.mono (by simp))).trans (hb2.mono (by omega))⟩
  | true =>
  by_cases h3 : V.length = X.length
  · have h3' : ((V.length : Int) != (X.length : Int)) = false := by rw [bne_eq_false_iff_eq]; omega
    have H3 := Lib.hid h3
    have H1 := Lib.hid h1
    have H2 := Lib.hid h2
    clear h3 h1 h2
    have hnv' := hnv
    unfold maxLen at hnv'
    go_enter Try.func75, Try.ntmps75
    go_wp2_with (first
      | (go_at_call_of 108 (Value.slice AX X.length cx); refine Calls.mono (knots_any AX _ _ B X _ rfl hnx (by simp; omega) (h.x.below (by go_grown))) ?_; rintro e w1 ⟨rfl, hb1⟩; rw [H1.out]; obtain ⟨hc1, hf1⟩ := bcell hb1; have hB1 := hb1.size; simp at hB1; have hz1 : w.heap.size < w1.heap.size := by omega)
      | (go_at_call_of 108 (Value.slice AY Y.length cy); refine Calls.mono (knots_any AY _ _ B Y _ rfl hny (by omega) ((h.y.below (by go_grown)).below (hb1.mono (by simp; omega)))) ?_; rintro e w2 ⟨rfl, hb2⟩; rw [H2.out]; obtain ⟨hc2, hf2⟩ := bcell hb2; have hB2 := hb2.size; have hz2 : w.heap.size < w2.heap.size := by omega))
    have hbw : Below w.heap.size w w2 := (Below.trans (by go_grown) (hb1.mono (by simp))).trans (hb2.mono (by omega))
    have hbox1 : w2.cell? ⟨w.heap.size, 1, none⟩ = some (.slice AY Y.length cy) := by rw [hc2 _ _ hz1, hc1 _ _ (by simp)]; rw [cell_newest]; rfl
    have hbox2 : w2.cell? ⟨w.heap.size, 2, none⟩ = some (.slice AV V.length cv) := by rw [hc2 _ _ hz1, hc1 _ _ (by simp)]; rw [cell_newest]; rfl
    have HV := Lib.hid (h.v.below (hbw.mono hB))
    have HBW := Lib.hid hbw
    clear hc1 hf1 hc2 hf2 hb1 hb2 h h3' hbw hB1 hB2 hz1
    go_loopw [3] (fun i wr => ∃ k : Nat, k ≤ V.length ∧ i = .int .i64 k ∧ rowsB Y.length (V.take k) = true ∧ Below w2.heap.size w2 wr) (fun i _ => V.length - (intOf i).toNat)
    case atStart => exact ⟨0, by omega, rfl, by simp [rowsB], Below.refl _ _⟩
    case round =>
      obtain ⟨k, hk, rfl, hw, hwr⟩ := hrel
      have c1 : wr.cell? ⟨w.heap.size, 1, none⟩ = some (.slice AY Y.length cy) := cell_keep hwr hbox1
      have c2 : wr.cell? ⟨w.heap.size, 2, none⟩ = some (.slice AV V.length cv) := cell_keep hwr hbox2
      have hV : RR wr B AV V := HV.out.below (hwr.mono (by have := HBW.out.size; omega))
      have HWR := Lib.hid hwr
      have HW := Lib.hid hw
      clear hw hwr
      by_cases hlt : k < V.length
      · obtain ⟨b, off, r, A', c', rfl, hb, hr, hc, hri⟩ := hV.at_ hlt
        have hrl := hnr r (List.mem_of_getElem? hr)
        have HR := Lib.hid hr
        have HRI := Lib.hid hri
        have hk0 : (k : Int) < V.length := by omega
        clear hr hri hV
        by_cases g1 : r.length = Y.length
        · have g1' : ((r.length : Int) != (Y.length : Int)) = false := by rw [bne_eq_false_iff_eq]; omega
          have G1 := Lib.hid g1
          clear g1
          go_upto_region 6 with fail
          go_quiet (fail)
          generalize hwq : wr.drewN nq = wq
          have d1 : wq.cell? ⟨w.heap.size, 1, none⟩ = some (.slice AY Y.length cy) := by rw [← hwq]; exact c1
          have d2 : wq.cell? ⟨w.heap.size, 2, none⟩ = some (.slice (some ⟨b, off, none⟩) V.length cv) := by rw [← hwq]; exact c2
          have dc : wq.cell? ⟨b, off + k, none⟩ = some (.slice A' r.length c') := by rw [← hwq]; exact hc
          have HRQ := Lib.hid (show RI wq B A' r by rw [← hwq]; exact HRI.out)
          have HWQ := Lib.hid (show Below w2.heap.size w2 wq by rw [← hwq]; exact below_drewN HWR.out nq)
          clear hwq c1 c2 hc
          go_wp2_with fail
          go_loopw [4] (fun i wr => ∃ j : Nat, j ≤ r.length ∧ i = .int .i64 j ∧ wB (-1000000) 1000000 (r.take j) = true ∧ wr = wq) (fun i _ => r.length - (intOf i).toNat)
          case atStart => exact ⟨0, by omega, rfl, by simp [wB], rfl⟩
          case round =>
            obtain ⟨j, hj, rfl, hwb, rfl⟩ := hrel
            have HWB := Lib.hid hwb
            clear hwb
            by_cases hjt : j < r.length
            · obtain ⟨b2, off2, x, rfl, hb2, hx, hcx⟩ := HRQ.out.at_ hjt
              have HX := Lib.hid hx
              have hj0 : (j : Int) < r.length := by omega
              clear hx
              by_cases g2 : -1000000 ≤ x ∧ x ≤ 1000000
              · have HF := Lib.hid (from_yes (a := x) (b := -1000000) (c := 1000000) g2.1 g2.2)
                obtain ⟨x1, x2⟩ := g2
                go_wp2_with (go_at_call 98; refine Calls.mono (HF.out _) ?_; rintro e w9 ⟨rfl, rfl⟩)
                go_roundw
                case rel => exact ⟨j + 1, by omega, by go_num, by rw [wB_step HX.out, HWB.out]; simp [x1, x2], by first | rfl | trivial⟩
                case measure => simp [intOf]; omega
              · have HF := Lib.hid (from_no (a := x) (b := -1000000) (c := 1000000) g2)
                have G2 := Lib.hid g2
                clear g2
                go_wp2_with (go_at_call 98; refine Calls.mono (HF.out _) ?_; rintro e w9 ⟨rfl, rfl⟩)
                go_ret
                exact ⟨ret_int (ctE_no (by unfold ctB; rw [rowsB_bad HR.out (n := Y.length) (by rw [wB_bad HX.out (by have := G2.out; omega)]; simp)]; simp)).symm, HBW.out.trans (HWQ.out.mono HBW.out.size)⟩
            · obtain rfl : j = r.length := by omega
              go_wp2_with fail
              go_roundw
              case rel => exact ⟨k + 1, by omega, by go_num, by have hwb := HWB.out; rw [List.take_of_length_le (by omega)] at hwb; rw [rowsB_step HR.out, HW.out, hwb, G1.out]; simp, HWQ.out⟩
              case measure => simp [intOf]; omega
        · have g1' : ((r.length : Int) != (Y.length : Int)) = true := by rw [bne_iff_ne]; omega
          have G1 := Lib.hid g1
          clear g1
          go_upto_region 6 with fail
          go_quiet (fail)
          go_wp2
          go_ret
          exact ⟨ret_int (ctE_no (by unfold ctB; rw [rowsB_bad HR.out (n := Y.length) (by simp [G1.out])]; simp)).symm, HBW.out.trans ((below_drewN HWR.out nq).mono HBW.out.size)⟩
      · obtain rfl : k = V.length := by omega
        go_wp2_with fail
        go_ret
        exact ⟨ret_int (ctE_yes (by have hw := HW.out; rw [List.take_of_length_le (by omega)] at hw; unfold ctB; simp [H1.out, H2.out, H3.out, hw])).symm, HBW.out.trans (HWR.out.mono HBW.out.size)⟩
  · rw [ctE_no (by unfold ctB; simp [h3])]
    have h3' : ((V.length : Int) != (X.length : Int)) = true := by rw [bne_iff_ne]; omega
    have H1 := Lib.hid h1
    have H2 := Lib.hid h2
    clear h1 h2 h3
    go_enter Try.func75, Try.ntmps75
    go_wp2_with (first
      | (go_at_call_of 108 (Value.slice AX X.length cx); refine Calls.mono (knots_any AX _ _ B X _ rfl hnx (by simp; omega) (h.x.below (by go_grown))) ?_; rintro e w1 ⟨rfl, hb1⟩; rw [H1.out]; obtain ⟨hc1, hf1⟩ := bcell hb1; have hB1 := hb1.size; simp at hB1; have hz1 : w.heap.size < w1.heap.size := by omega)
      | (go_at_call_of 108 (Value.slice AY Y.length cy); refine Calls.mono (knots_any AY _ _ B Y _ rfl hny (by omega) ((h.y.below (by go_grown)).below (hb1.mono (by simp; omega)))) ?_; rintro e w2 ⟨rfl, hb2⟩; rw [H2.out]; obtain ⟨hc2, hf2⟩ := bcell hb2; have hB2 := hb2.size; have hz2 : w.heap.size < w2.heap.size := by omega))
    go_ret
    exact ⟨rfl, (Below.trans (by go_grown) (hb1.mono (by simp))).trans (hb2.mono (by omega))⟩

end Go.Proofs.Ytnnmmojlgikdgaa

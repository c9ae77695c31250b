/- Contracts of the functions that the statement reaches: Bound, Great, Under, Gst, Meet, App, Chk. -/
import Derived.Test.YthhokiigdgpmcaaM1
import Derived.Deep.AppendLies
import Derived.Deep.Upon
import Derived.Maps.AppendAt
import Derived.CallsIn

/- spans.Bound. -/
namespace Go.Proofs.Ythhokiigdgpmcaa
open Go.RowKit Go.Shelf

attribute [local go_sem] Oper.semAt_some

def bndStep (s : Int × Int) (c : Cn) : Int × Int := (min s.1 (fl c.1 c.2.1), max s.2 (cl c.1 c.2.1))
def bndL (l : List Cn) : Int × Int := l.foldl bndStep (1000000, -1000000)
theorem bndL_snoc (l : List Cn) (c : Cn) : bndL (l ++ [c]) = bndStep (bndL l) c := by simp [bndL]

def bndG (l : List GC) : Int × Int := bndL (l.map (·.1))
theorem bndG_snoc (l : List GC) (c : GC) : bndG (l ++ [c]) = (min (bndG l).1 (fl c.1.1 c.1.2.1), max (bndG l).2 (cl c.1.1 c.1.2.1)) := by
  simp [bndG, bndL_snoc, bndStep]

theorem cbE_ok {X Y : List Int} {V : List (List Int)} {x1 x2 y1 y2 : Int} (h : cbE X Y V x1 x2 y1 y2 = 0) : ctB X Y V = true ∧ vS (x1, x2) = true ∧ vS (y1, y2) = true ∧ On X x1 ∧ On X x2 ∧ On Y y1 ∧ On Y y2 := by
  unfold cbE at h
  split at h
  · rename_i h1
    split at h
    · rename_i h2
      split at h
      · rename_i h3
        split at h
        · rename_i h4
          simp [onB, wB] at h3 h4
          simp at h2
          exact ⟨h1, h2.1, h2.2, ⟨h3.1.1, h3.1.2⟩, ⟨h3.2.1, h3.2.2⟩, ⟨h4.1.1, h4.1.2⟩, ⟨h4.2.1, h4.2.2⟩⟩
        · cases h
      · cases h
    · cases h
  · cases h

theorem cell_frozen {W w1 : World} (hb : Below W.heap.size W w1) {b o : Nat} {v : Value} (h : W.cell? ⟨b, o, none⟩ = some v) : w1.frozen? ⟨b, o, none⟩ = W.frozen? ⟨b, o, none⟩ :=
  hb.frozen (p := ⟨b, o, none⟩) (World.block_lt_of_cell? W _ h)
theorem KP.setCell {n m : Nat} {A : World} {p : Addr} (h1 : n ≤ p.block) (h2 : p.block < m) (u : Value) : KP n m A (A.setCell p u) :=
  ⟨(Below.refl _ _).setCell h1 u, fun k hk _ ho _ => (Below.heap_setCell A p u k (by omega)).trans ho⟩
theorem KeepsFrom.of_below {B : Nat} {A C : World} (h : Below A.heap.size A C) : KeepsFrom B A C :=
  ⟨h.size, fun k _ _ hk _ => (h.block k (Array.getElem?_eq_some_iff.1 hk).1).trans hk⟩
theorem kp_putObj {n m : Nat} {w : World} (hn : n ≤ w.heap.size) (W : World) (l : Nat) (o o' : Obj) (hl : w.heap.size ≤ l) (h : W.heap[l]? = some o) (hc : o.isCells = false) (hk : o.isWalk = false) : KP n m W (W.putObj l o') :=
  ⟨belowK_b hn W l o o' hl h hc hk, fun j _ u hu hcu => by
    rw [World.putObj_heap_other (fun e => by subst e; rw [h] at hu; cases hu; rw [hc] at hcu; cases hcu)]
    exact hu⟩

set_option maxRecDepth 100000 in
set_option maxHeartbeats 2000000 in
theorem bound_ok (AX AY AV : Option Addr) (nx cx ny cy nv cv B : Nat) (X Y : List Int) (V : List (List Int)) (x1 x2 y1 y2 : Int) (w : World) (hx : X.length = nx) (hy : Y.length = ny) (hv : V.length = nv) (hnx : nx ≤ maxLen) (hny : ny ≤ maxLen) (hnv : nv ≤ maxLen) (hnr : ∀ r ∈ V, r.length ≤ maxLen)
    (hB : B ≤ w.heap.size) (h : TB w B AX AY AV X Y V) (hcb : cbE X Y V x1 x2 y1 y2 = 0) :
    Calls Try.prog 25 #[.agg #[.slice AX nx cx, .slice AY ny cy, .slice AV nv cv], .agg #[.int .i64 x1, .int .i64 x2], .agg #[.int .i64 y1, .int .i64 y2]] w fun e w' =>
      e = .returned (.tuple #[.agg #[.int .i64 (bndL (cornersL X Y V (endsL X x1 x2) (endsL Y y1 y2))).1, .int .i64 (bndL (cornersL X Y V (endsL X x1 x2) (endsL Y y1 y2))).2], .int .i64 0]) ∧ Below w.heap.size w w' := by
  subst hx hy hv
  refine (callsIn_wide (n := 9)).1 ?_
  refine callsIn_of_wp_marks Try.func25 rfl trivial ?_ rfl
  simp only [Try.ntmps25, List.size_toArray, List.length_cons, List.length_nil, Nat.reduceAdd, Nat.reduceSub, Array.replicate_succ, Array.replicate_zero, List.push_toArray, List.append_toArray, List.nil_append, List.cons_append]
  gi_wp2_with (fail)
  refine ⟨trivial, ?_⟩
  refine CallsIn.mono (callsIn_wide.2 (checkBox_any AX AY AV _ _ _ _ _ _ B X Y V x1 x2 y1 y2 _ rfl rfl rfl hnx hny hnv hnr ?c1 (h.below ?c2))) ?_
  case c1 => simp; omega
  case c2 => go_grown
  rintro e w1 ⟨rfl, hb1⟩
  rw [hcb]
  have hz1 := hb1.size
  simp at hz1
  have hbw1 : Below w.heap.size w w1 := Below.trans (by go_grown) (hb1.mono (by simp; omega))
  have t0 : w1.cell? ⟨w.heap.size, 0, none⟩ = some (.slice AX X.length cx) := cell_keep hb1 (by go_simp)
  have t1 : w1.cell? ⟨w.heap.size, 1, none⟩ = some (.slice AY Y.length cy) := cell_keep hb1 (by go_simp)
  have t2 : w1.cell? ⟨w.heap.size, 2, none⟩ = some (.slice AV V.length cv) := cell_keep hb1 (by go_simp)
  have t3 : w1.cell? ⟨w.heap.size + 1, 0, none⟩ = some (.int .i64 x1) := cell_keep hb1 (by go_simp)
  have t4 : w1.cell? ⟨w.heap.size + 1, 1, none⟩ = some (.int .i64 x2) := cell_keep hb1 (by go_simp)
  have t5 : w1.cell? ⟨w.heap.size + 1 + 1, 0, none⟩ = some (.int .i64 y1) := cell_keep hb1 (by go_simp)
  have t6 : w1.cell? ⟨w.heap.size + 1 + 1, 1, none⟩ = some (.int .i64 y2) := cell_keep hb1 (by go_simp)
  have t7 : w1.cell? ⟨w.heap.size + 1 + 1 + 1, 0, none⟩ = some (.int .i64 0) := cell_keep hb1 (by go_simp)
  have t8 : w1.cell? ⟨w.heap.size + 1 + 1 + 1, 1, none⟩ = some (.int .i64 0) := cell_keep hb1 (by go_simp)
  have t9 : w1.frozen? ⟨w.heap.size + 1 + 1 + 1, 0, none⟩ = false := (hb1.frozen (p := ⟨w.heap.size + 1 + 1 + 1, 0, none⟩) (by simp)).trans (by go_simp)
  have t10 : w1.frozen? ⟨w.heap.size + 1 + 1 + 1, 1, none⟩ = false := (hb1.frozen (p := ⟨w.heap.size + 1 + 1 + 1, 1, none⟩) (by simp)).trans (by go_simp)
  clear hb1
  gi_wp2_with (fail)
  refine ⟨trivial, ?_⟩
  refine CallsIn.mono (callsIn_wide.2 (span_any 1000000 (-1000000) _)) ?_
  rintro e w2 ⟨rfl, hb2⟩
  have hz2 := hb2.size
  replace t0 := cell_keep hb2 t0
  replace t1 := cell_keep hb2 t1
  replace t2 := cell_keep hb2 t2
  replace t3 := cell_keep hb2 t3
  replace t4 := cell_keep hb2 t4
  replace t5 := cell_keep hb2 t5
  replace t6 := cell_keep hb2 t6
  replace t7 := cell_keep hb2 t7
  replace t8 := cell_keep hb2 t8
  replace t9 := (hb2.frozen (p := ⟨w.heap.size + 1 + 1 + 1, 0, none⟩) (by simp; omega)).trans t9
  replace t10 := (hb2.frozen (p := ⟨w.heap.size + 1 + 1 + 1, 1, none⟩) (by simp; omega)).trans t10
  have hbw2 : Below w.heap.size w w2 := hbw1.trans (hb2.mono (by omega))
  have hq : w.heap.size + 1 + 1 + 1 < w2.heap.size := by omega
  have hq2 : w.heap.size + 1 + 1 < w2.heap.size := by omega
  have hq1 : w.heap.size + 1 < w2.heap.size := by omega
  have hq0 : w.heap.size < w2.heap.size := by omega
  clear hb2 hbw1 hz1 hz2
  gi_wp2_with (fail)
  refine ⟨trivial, ?_⟩
  refine CallsIn.mono (callsIn_wide.2 (corners_any AX AY AV _ _ _ _ _ _ x1 x2 y1 y2 _)) ?_
  rintro e w3 ⟨rfl, rfl⟩
  gi_wp2_with (fail)
  obtain ⟨hct, hv1, hv2, ox1, ox2, oy1, oy2⟩ := cbE_ok hcb
  obtain ⟨W0, hW0⟩ : ∃ W0, (((w2.alloc (.cells #[.int .i64 1000000, .int .i64 (-1000000)] 34)).alloc (.cells #[.slice AX X.length cx, .slice AY Y.length cy, .slice AV V.length cv] 25)).alloc (.cells #[.int .i64 x1, .int .i64 x2] 34)).alloc (.cells #[.int .i64 y1, .int .i64 y2] 34) = W0 := ⟨_, rfl⟩
  have hs0 : W0.heap.size = w2.heap.size + 4 := by rw [← hW0]; clear hW0; simp
  have a0 : W0.cell? ⟨w2.heap.size, 0, none⟩ = some (.int .i64 1000000) := by rw [← hW0]; clear hW0; go_simp
  have a1 : W0.cell? ⟨w2.heap.size, 1, none⟩ = some (.int .i64 (-1000000)) := by rw [← hW0]; clear hW0; go_simp
  have a2 : W0.frozen? ⟨w2.heap.size, 0, none⟩ = false := by rw [← hW0]; clear hW0; go_simp
  have a3 : W0.frozen? ⟨w2.heap.size, 1, none⟩ = false := by rw [← hW0]; clear hW0; go_simp
  have b0 : W0.cell? ⟨w2.heap.size + 1, 0, none⟩ = some (.slice AX X.length cx) := by rw [← hW0]; clear hW0; go_simp
  have b1 : W0.cell? ⟨w2.heap.size + 1, 1, none⟩ = some (.slice AY Y.length cy) := by rw [← hW0]; clear hW0; go_simp
  have b2 : W0.cell? ⟨w2.heap.size + 1, 2, none⟩ = some (.slice AV V.length cv) := by rw [← hW0]; clear hW0; go_simp
  have b3 : W0.cell? ⟨w2.heap.size + 1 + 1, 0, none⟩ = some (.int .i64 x1) := by rw [← hW0]; clear hW0; go_simp
  have b4 : W0.cell? ⟨w2.heap.size + 1 + 1, 1, none⟩ = some (.int .i64 x2) := by rw [← hW0]; clear hW0; go_simp
  have b5 : W0.cell? ⟨w2.heap.size + 1 + 1 + 1, 0, none⟩ = some (.int .i64 y1) := by rw [← hW0]; clear hW0; go_simp
  have b6 : W0.cell? ⟨w2.heap.size + 1 + 1 + 1, 1, none⟩ = some (.int .i64 y2) := by rw [← hW0]; clear hW0; go_simp
  have c7 : W0.cell? ⟨w.heap.size + 1 + 1 + 1, 0, none⟩ = some (.int .i64 0) := by rw [← hW0]; clear hW0; go_simp
  have c8 : W0.cell? ⟨w.heap.size + 1 + 1 + 1, 1, none⟩ = some (.int .i64 0) := by rw [← hW0]; clear hW0; go_simp
  have c9 : W0.frozen? ⟨w.heap.size + 1 + 1 + 1, 0, none⟩ = false := by rw [← hW0]; clear hW0; go_simp
  have c10 : W0.frozen? ⟨w.heap.size + 1 + 1 + 1, 1, none⟩ = false := by rw [← hW0]; clear hW0; go_simp
  have hB0 : Below w.heap.size w W0 := by rw [← hW0]; clear hW0; go_grown
  rw [hW0]
  clear hW0 t0 t1 t2 t3 t4 t5 t6 t7 t8 t9 t10 hbw2 hcb
  have hstops := corners_stops 8 (by omega) (w2.heap.size + 1) (w2.heap.size + 1 + 1) (w2.heap.size + 1 + 1 + 1) w.heap.size (w2.heap.size + 1) B AX AY AV cx cy cv X Y V x1 x2 y1 y2 _ _ (Lib.hid rfl) (Lib.hid rfl) hct ox1 ox2 oy1 oy2 (by omega) (by omega) hB (by omega) W0 (by omega) (h.below (hB0.mono hB)) b0 b1 b2 b3 b4 b5 b6
  refine wpIn_rangeFunc_ownH rfl (by omega) (gf := 113) (lb := #[.pointer (some ⟨w2.heap.size + 1, 0, none⟩), .pointer (some ⟨w2.heap.size + 1 + 1 + 1, 0, none⟩), .pointer (some ⟨w2.heap.size + 1 + 1, 0, none⟩)]) rfl trivial (enters_of Try.func113 (by kernel_rfl) rfl)
    hstops (fun h k => KP.trans h k) (kp_putObj (by omega)) (Below.refl _ _) (fun _ => rfl)
    (fun pre W => (W.cell? ⟨w2.heap.size, 0, none⟩ = some (.int .i64 (bndG pre).1) ∧ W.cell? ⟨w2.heap.size, 1, none⟩ = some (.int .i64 (bndG pre).2) ∧ W.frozen? ⟨w2.heap.size, 0, none⟩ = false ∧ W.frozen? ⟨w2.heap.size, 1, none⟩ = false ∧
      W.cell? ⟨w.heap.size + 1 + 1 + 1, 0, none⟩ = some (.int .i64 0) ∧ W.cell? ⟨w.heap.size + 1 + 1 + 1, 1, none⟩ = some (.int .i64 0) ∧ W.frozen? ⟨w.heap.size + 1 + 1 + 1, 0, none⟩ = false ∧ W.frozen? ⟨w.heap.size + 1 + 1 + 1, 1, none⟩ = false) ∧ Below w.heap.size w W)
    (fun _ _ _ => False)
    (OwnFrom.and (Own.from (fun s A B row hs hg hr => ⟨cell_kept hs.1 hg hr, cell_kept hs.2.1 hg hr, (frozen_kept hs.1 hg hr).trans hs.2.2.1, (frozen_kept hs.2.1 hg hr).trans hs.2.2.2.1,
      cell_kept hs.2.2.2.2.1 hg hr, cell_kept hs.2.2.2.2.2.1 hg hr, (frozen_kept hs.2.2.2.2.1 hg hr).trans hs.2.2.2.2.2.2.1, (frozen_kept hs.2.2.2.2.2.1 hg hr).trans hs.2.2.2.2.2.2.2⟩) _) (ownFrom_below (Nat.le_refl _) (by omega)))
    (fun _ _ _ _ _ hs _ _ => hs)
    ⟨⟨a0, a1, a2, a3, c7, c8, c9, c10⟩, hB0⟩
    (fun x a' W => ∃ Bx : Nat, w2.heap.size < Bx ∧ Bx < W.heap.size ∧ (W.cell? ⟨Bx, 0, none⟩ = some (.int .i64 x.1.1) ∧ W.cell? ⟨Bx, 1, none⟩ = some (.int .i64 x.1.2.1)) ∧
      a' = { tmps := #[.agg #[.slice AX X.length cx, .slice AY Y.length cy, .slice AV V.length cv], .agg #[.int .i64 x1, .int .i64 x2], .agg #[.int .i64 y1, .int .i64 y2],
        .pointer (some ⟨w.heap.size, 0, none⟩), .pointer (some ⟨w.heap.size + 1, 0, none⟩), .pointer (some ⟨w.heap.size + 1 + 1, 0, none⟩), .pointer (some ⟨w.heap.size + 1 + 1 + 1, 0, none⟩), .int .i64 0, .int .i64 0,
        .pointer (some ⟨w2.heap.size, 0, none⟩), .pointer (some ⟨Bx, 0, none⟩), .agg #[.slice AX X.length cx, .slice AY Y.length cy, .slice AV V.length cv], .agg #[.int .i64 x1, .int .i64 x2], .agg #[.int .i64 y1, .int .i64 y2], .int .i64 0, .int .i64 0, .bool false, undef, undef,
        .agg #[.int .i64 1000000, .int .i64 (-1000000)], .agg #[.slice AX X.length cx, .slice AY Y.length cy, .slice AV V.length cv], .agg #[.int .i64 x1, .int .i64 x2], .agg #[.int .i64 y1, .int .i64 y2],
        .func (.func 113) #[] #[.pointer (some ⟨w2.heap.size + 1, 0, none⟩), .pointer (some ⟨w2.heap.size + 1 + 1 + 1, 0, none⟩), .pointer (some ⟨w2.heap.size + 1 + 1, 0, none⟩)],
        cnV x.1, undef, undef, undef, undef, undef, undef, undef, undef, undef, undef, undef, undef, undef, undef], defers := [] })
    (fun x a' => by
      rintro s A C row ⟨Bx, h1, h2, h3, h4⟩ hg hr
      exact ⟨Bx, h1, Nat.lt_of_lt_of_le h2 hg.size, ⟨cell_kept h3.1 hg (fun r e => (hr r e).2), cell_kept h3.2 hg (fun r e => (hr r e).2)⟩, h4⟩)
    ?assign ?body ?done ?stop
  case assign =>
    rintro l pre x W K ⟨⟨d0, d1, d2, d3, d4, d5, d6, d7⟩, hBW⟩ hK
    have hsW := hBW.size
    have l0 := World.block_lt_of_cell? W _ d0
    have l1 := World.block_lt_of_cell? W _ d4
    obtain ⟨hk0, hk1⟩ : w2.heap.size < W.heap.size ∧ w.heap.size + 1 + 1 + 1 < W.heap.size := ⟨l0, l1⟩
    dsimp only [cnV]
    gi_wp2
    exact hK _ _ ((KeepsOthers.alloc _ _).from _) (KP.of_below ((Below.refl _ _).alloc (Nat.le_refl _) _) (by omega))
      ⟨⟨by go_simp, by go_simp, by go_simp, by go_simp, by go_simp, by go_simp, by go_simp, by go_simp⟩, by go_grown⟩ ⟨W.heap.size, by omega, by simp, ⟨by go_simp, by go_simp⟩, rfl⟩
  case body =>
    rintro l pre x a' W hl hrec ⟨⟨d0, d1, d2, d3, d4, d5, d6, d7⟩, hBW⟩ ⟨Bx, hBx, hBx2, ⟨f0, f1⟩, rfl⟩ hlen
    have hsW := hBW.size
    have hk0 := World.block_lt_of_cell? W _ d0
    have hk1 := World.block_lt_of_cell? W _ d4
    obtain ⟨⟨num, den, px, py⟩, g1, g2, g3, g4⟩ := x
    simp only at g1 g2 g3 g4 f0 f1
    have hmx : Try.prog.follows .mixedOrders = true := by kernel_rfl
    gi_wp2
    have l9 : w2.heap.size < W.heap.size := hk0
    refine region_inv (by kernel_rfl) (fun i => match i with
        | 0 => .pointer (some ⟨w2.heap.size, 0, none⟩) | 1 => .int .i64 (bndG pre).1 | 2 => .pointer (some ⟨Bx, 0, none⟩) | 3 => .agg #[.int .i64 num, .int .i64 den] | 4 => .int .i64 (fl num den) | 5 => .int .i64 (min (bndG pre).1 (fl num den))
        | 6 => .pointer (some ⟨w2.heap.size, 1, none⟩) | 7 => .int .i64 (bndG pre).2 | 8 => .pointer (some ⟨Bx, 0, none⟩) | 9 => .agg #[.int .i64 num, .int .i64 den] | 10 => .int .i64 (cl num den) | 11 => .int .i64 (max (bndG pre).2 (cl num den))
        | 12 => .agg #[.int .i64 (min (bndG pre).1 (fl num den)), .int .i64 (max (bndG pre).2 (cl num den))] | _ => undef)
      (fun L x => (L.getD 13 false = false → Below W.heap.size W x) ∧ (L.getD 13 false = true → ∃ y, Below W.heap.size W y ∧ x = (y.setCell ⟨w2.heap.size, 0, none⟩ (.int .i64 (min (bndG pre).1 (fl num den)))).setCell ⟨w2.heap.size, 1, none⟩ (.int .i64 (max (bndG pre).2 (cl num den)))))
      (by kernel_rfl) rfl ⟨fun _ => (Below.refl _ _).drew, fun h => by simp at h⟩ ?hstep ?hend
    case hstep =>
      intro i o ho L b x hF hR hpre hl
      match i, ho with
      | 0, ho =>
        simp at ho
        subst ho
        refine step_plain rfl ?_
        have e9 := hF.was 9 (by kernel_rfl) rfl
        have hN := hF.later hl 13 rfl (e := ⟨0, .phase⟩) (by simp) rfl rfl
        have hM := hR.1 hN
        rw [Array.getD_eq_getD_getElem?] at hN
        clear hF hpre hl hR
        have q0 := cell_keep hM d0
        have q1 := cell_keep hM d1
        have q2 := cell_keep hM f0
        have q3 := cell_keep hM f1
        first | (go_simp; done) | (go_simp; exact hM)
      | 1, ho =>
        simp at ho
        subst ho
        refine step_plain rfl ?_
        have e25 := hF.gave 0 rfl (hpre ⟨0, .data⟩ (by simp) rfl) rfl
        have hN := hF.later hl 13 rfl (e := ⟨1, .phase⟩) (by simp) rfl rfl
        have hM := hR.1 hN
        rw [Array.getD_eq_getD_getElem?] at hN
        clear hF hpre hl hR
        have q0 := cell_keep hM d0
        have q1 := cell_keep hM d1
        have q2 := cell_keep hM f0
        have q3 := cell_keep hM f1
        first | (go_simp; done) | (go_simp; exact hM)
      | 2, ho =>
        simp at ho
        subst ho
        refine step_plain rfl ?_
        have e10 := hF.was 10 (by kernel_rfl) rfl
        have hN := hF.later hl 13 rfl (e := ⟨2, .phase⟩) (by simp) rfl rfl
        have hM := hR.1 hN
        rw [Array.getD_eq_getD_getElem?] at hN
        clear hF hpre hl hR
        have q0 := cell_keep hM d0
        have q1 := cell_keep hM d1
        have q2 := cell_keep hM f0
        have q3 := cell_keep hM f1
        first | (go_simp; done) | (go_simp; exact hM)
      | 3, ho =>
        simp at ho
        subst ho
        refine step_plain rfl ?_
        have e27 := hF.gave 2 rfl (hpre ⟨2, .data⟩ (by simp) rfl) rfl
        have hN := hF.later hl 13 rfl (e := ⟨3, .phase⟩) (by simp) rfl rfl
        have hM := hR.1 hN
        rw [Array.getD_eq_getD_getElem?] at hN
        clear hF hpre hl hR
        have q0 := cell_keep hM d0
        have q1 := cell_keep hM d1
        have q2 := cell_keep hM f0
        have q3 := cell_keep hM f1
        first | (go_simp; done) | (go_simp; exact hM)
      | 4, ho =>
        simp at ho
        subst ho
        refine step_plain rfl ?_
        have e28 := hF.gave 3 rfl (hpre ⟨3, .data⟩ (by simp) rfl) rfl
        have hN := hF.later hl 13 rfl (e := ⟨4, .phase⟩) (by simp) rfl rfl
        have hM := hR.1 hN
        rw [Array.getD_eq_getD_getElem?] at hN
        clear hF hpre hl hR
        have q0 := cell_keep hM d0
        have q1 := cell_keep hM d1
        have q2 := cell_keep hM f0
        have q3 := cell_keep hM f1
        go_simp
        refine ⟨trivial, ?_⟩
        refine CallsIn.mono (CallsIn.inRound l (callsIn_wide.2 (vfloor_any num den _ (by omega) (by omega) (by omega) (by omega)))) ?_
        rintro e y ⟨rfl, hy⟩
        have hs := hM.size
        exact ⟨rfl, hM.trans (hy.mono hs)⟩
      | 5, ho =>
        simp at ho
        subst ho
        refine step_plain rfl ?_
        have e26 := hF.gave 1 rfl (hpre ⟨1, .data⟩ (by simp) rfl) rfl
        have e29 := hF.gave 4 rfl (hpre ⟨4, .data⟩ (by simp) rfl) rfl
        have hN := hF.later hl 13 rfl (e := ⟨5, .phase⟩) (by simp) rfl rfl
        have hM := hR.1 hN
        rw [Array.getD_eq_getD_getElem?] at hN
        clear hF hpre hl hR
        have q0 := cell_keep hM d0
        have q1 := cell_keep hM d1
        have q2 := cell_keep hM f0
        have q3 := cell_keep hM f1
        first | (go_simp; done) | (go_simp; exact hM)
      | 6, ho =>
        simp at ho
        subst ho
        refine step_plain rfl ?_
        have e9 := hF.was 9 (by kernel_rfl) rfl
        have hN := hF.later hl 13 rfl (e := ⟨6, .phase⟩) (by simp) rfl rfl
        have hM := hR.1 hN
        rw [Array.getD_eq_getD_getElem?] at hN
        clear hF hpre hl hR
        have q0 := cell_keep hM d0
        have q1 := cell_keep hM d1
        have q2 := cell_keep hM f0
        have q3 := cell_keep hM f1
        first | (go_simp; done) | (go_simp; exact hM)
      | 7, ho =>
        simp at ho
        subst ho
        refine step_plain rfl ?_
        have e31 := hF.gave 6 rfl (hpre ⟨6, .data⟩ (by simp) rfl) rfl
        have hN := hF.later hl 13 rfl (e := ⟨7, .phase⟩) (by simp) rfl rfl
        have hM := hR.1 hN
        rw [Array.getD_eq_getD_getElem?] at hN
        clear hF hpre hl hR
        have q0 := cell_keep hM d0
        have q1 := cell_keep hM d1
        have q2 := cell_keep hM f0
        have q3 := cell_keep hM f1
        first | (go_simp; done) | (go_simp; exact hM)
      | 8, ho =>
        simp at ho
        subst ho
        refine step_plain rfl ?_
        have e10 := hF.was 10 (by kernel_rfl) rfl
        have hN := hF.later hl 13 rfl (e := ⟨8, .phase⟩) (by simp) rfl rfl
        have hM := hR.1 hN
        rw [Array.getD_eq_getD_getElem?] at hN
        clear hF hpre hl hR
        have q0 := cell_keep hM d0
        have q1 := cell_keep hM d1
        have q2 := cell_keep hM f0
        have q3 := cell_keep hM f1
        first | (go_simp; done) | (go_simp; exact hM)
      | 9, ho =>
        simp at ho
        subst ho
        refine step_plain rfl ?_
        have e33 := hF.gave 8 rfl (hpre ⟨8, .data⟩ (by simp) rfl) rfl
        have hN := hF.later hl 13 rfl (e := ⟨9, .phase⟩) (by simp) rfl rfl
        have hM := hR.1 hN
        rw [Array.getD_eq_getD_getElem?] at hN
        clear hF hpre hl hR
        have q0 := cell_keep hM d0
        have q1 := cell_keep hM d1
        have q2 := cell_keep hM f0
        have q3 := cell_keep hM f1
        first | (go_simp; done) | (go_simp; exact hM)
      | 10, ho =>
        simp at ho
        subst ho
        refine step_plain rfl ?_
        have e34 := hF.gave 9 rfl (hpre ⟨9, .data⟩ (by simp) rfl) rfl
        have hN := hF.later hl 13 rfl (e := ⟨10, .phase⟩) (by simp) rfl rfl
        have hM := hR.1 hN
        rw [Array.getD_eq_getD_getElem?] at hN
        clear hF hpre hl hR
        have q0 := cell_keep hM d0
        have q1 := cell_keep hM d1
        have q2 := cell_keep hM f0
        have q3 := cell_keep hM f1
        go_simp
        refine ⟨trivial, ?_⟩
        refine CallsIn.mono (CallsIn.inRound l (callsIn_wide.2 (vceil_any num den _ (by omega) (by omega) (by omega) (by omega)))) ?_
        rintro e y ⟨rfl, hy⟩
        have hs := hM.size
        exact ⟨rfl, hM.trans (hy.mono hs)⟩
      | 11, ho =>
        simp at ho
        subst ho
        refine step_plain rfl ?_
        have e32 := hF.gave 7 rfl (hpre ⟨7, .data⟩ (by simp) rfl) rfl
        have e35 := hF.gave 10 rfl (hpre ⟨10, .data⟩ (by simp) rfl) rfl
        have hN := hF.later hl 13 rfl (e := ⟨11, .phase⟩) (by simp) rfl rfl
        have hM := hR.1 hN
        rw [Array.getD_eq_getD_getElem?] at hN
        clear hF hpre hl hR
        have q0 := cell_keep hM d0
        have q1 := cell_keep hM d1
        have q2 := cell_keep hM f0
        have q3 := cell_keep hM f1
        first | (go_simp; done) | (go_simp; exact hM)
      | 12, ho =>
        simp at ho
        subst ho
        refine step_plain rfl ?_
        have e30 := hF.gave 5 rfl (hpre ⟨5, .data⟩ (by simp) rfl) rfl
        have e36 := hF.gave 11 rfl (hpre ⟨11, .data⟩ (by simp) rfl) rfl
        have hN := hF.later hl 13 rfl (e := ⟨12, .phase⟩) (by simp) rfl rfl
        have hM := hR.1 hN
        rw [Array.getD_eq_getD_getElem?] at hN
        clear hF hpre hl hR
        have q0 := cell_keep hM d0
        have q1 := cell_keep hM d1
        have q2 := cell_keep hM f0
        have q3 := cell_keep hM f1
        go_simp
        refine ⟨trivial, ?_⟩
        refine CallsIn.mono (CallsIn.inRound l (callsIn_wide.2 (span_any _ _ _))) ?_
        rintro e y ⟨rfl, hy⟩
        have hs := hM.size
        exact ⟨rfl, hM.trans (hy.mono hs)⟩
      | 13, ho =>
        simp at ho
        subst ho
        refine step_plain rfl ?_
        have e9 := hF.was 9 (by kernel_rfl) rfl
        have e37 := hF.gave 12 rfl (hpre ⟨12, .data⟩ (by simp) rfl) rfl
        have hls := hF.lsize
        have hls' : 13 < L.size := by rw [hls]; decide
        have hM := hR.1 (by rw [← getD_same hls']; exact hl)
        clear hF hpre hl hR hls
        have q0 := cell_keep hM d0
        have q1 := cell_keep hM d1
        have q4 := (cell_frozen hM d0).trans d2
        have q5 := (cell_frozen hM d1).trans d3
        go_simp
        exact ⟨x, hM, rfl⟩
      | i + 14, ho => simp at ho
    case hend =>
      intro L b x hF hall hR
      obtain ⟨y, hy, rfl⟩ := hR.2 (hall 13 (by decide))
      have hys := hy.size
      have q0 := cell_keep hy d0
      have q1 := cell_keep hy d1
      have q2 := (cell_frozen hy d0).trans d2
      have q3 := (cell_frozen hy d1).trans d3
      have q4 := cell_keep hy d4
      have q5 := cell_keep hy d5
      have q6 := (cell_frozen hy d4).trans d6
      have q7 := (cell_frozen hy d5).trans d7
      have hne : w.heap.size + 1 + 1 + 1 ≠ w2.heap.size := by omega
      have hst : ∀ (x : GC), bndG (pre ++ [x]) = (min (bndG pre).1 (fl x.1.1 x.1.2.1), max (bndG pre).2 (cl x.1.1 x.1.2.1)) := bndG_snoc pre
      refine ⟨((KeepsFrom.of_below hy).trans ((KeepsOthers.setCell _ _ _).from _)).trans ((KeepsOthers.setCell _ _ _).from _), ((KP.of_below hy (by omega)).trans (KP.setCell (by simp; omega) (by simp) _)).trans (KP.setCell (by simp; omega) (by simp) _), ⟨?_, ?_, ?_, ?_, ?_, ?_, ?_, ?_⟩, ((hBW.trans (hy.mono hsW)).setCell (by simp; omega) _).setCell (by simp; omega) _⟩
      · rw [hst, World.cell?_setCell_other _ _ _ _ (by simp)]
        exact World.cell?_setCell_same' _ _ _ (by rw [q0]; rfl)
      · rw [hst]
        exact World.cell?_setCell_same' _ _ _ (by rw [World.cell?_setCell_other _ _ _ _ (by simp), q1]; rfl)
      · rw [World.frozen?_setCell, World.frozen?_setCell]; exact q2
      · rw [World.frozen?_setCell, World.frozen?_setCell]; exact q3
      · rw [World.cell?_setCell_other _ _ _ _ (by simp), World.cell?_setCell_other _ _ _ _ (by simp)]; exact q4
      · rw [World.cell?_setCell_other _ _ _ _ (by simp), World.cell?_setCell_other _ _ _ _ (by simp)]; exact q5
      · rw [World.frozen?_setCell, World.frozen?_setCell]; exact q6
      · rw [World.frozen?_setCell, World.frozen?_setCell]; exact q7
  case done =>
    rintro D ys W hD hys ⟨⟨d0, d1, d2, d3, d4, d5, d6, d7⟩, hBW⟩ hK
    gi_wp2
    have e0 : bndG ys = bndL (cornersL X Y V (endsL X x1 x2) (endsL Y y1 y2)) := by unfold bndG; rw [hys]
    have hK1 := (KeepsOthers.setCell W ⟨w.heap.size + 1 + 1 + 1, 0, none⟩ (.int .i64 (bndG ys).1)).same D _ hK rfl
    have hK2 := (KeepsOthers.setCell (W.setCell ⟨w.heap.size + 1 + 1 + 1, 0, none⟩ (.int .i64 (bndG ys).1)) ⟨w.heap.size + 1 + 1 + 1, 1, none⟩ (.int .i64 (bndG ys).2)).same D _ hK1 rfl
    have z1 := World.cell?_setCell_same' W ⟨w.heap.size + 1 + 1 + 1, 0, none⟩ (.int .i64 (bndG ys).1) (by rw [d4]; rfl)
    have z2 : ((W.setCell ⟨w.heap.size + 1 + 1 + 1, 0, none⟩ (.int .i64 (bndG ys).1)).setCell ⟨w.heap.size + 1 + 1 + 1, 1, none⟩ (.int .i64 (bndG ys).2)).cell? ⟨w.heap.size + 1 + 1 + 1, 0, none⟩ = some (.int .i64 (bndG ys).1) := by
      rw [World.cell?_setCell_other _ _ _ _ (by simp)]; exact z1
    have z3 := World.cell?_setCell_same' (W.setCell ⟨w.heap.size + 1 + 1 + 1, 0, none⟩ (.int .i64 (bndG ys).1)) ⟨w.heap.size + 1 + 1 + 1, 1, none⟩ (.int .i64 (bndG ys).2) (by rw [World.cell?_setCell_other _ _ _ _ (by simp), d5]; rfl)
    refine ⟨by simp, .inl ⟨_, _, rfl, run_takeDeferred hK2, ?_⟩⟩
    have z4 := cell_kept z2 (grownBy_putObj' _ D (.deferred none)) (fun r e => by cases e; exact ⟨_, hK2, rfl⟩)
    have z5 := cell_kept z3 (grownBy_putObj' _ D (.deferred none)) (fun r e => by cases e; exact ⟨_, hK2, rfl⟩)
    have hb9 : Below w.heap.size w ((W.setCell ⟨w.heap.size + 1 + 1 + 1, 0, none⟩ (.int .i64 (bndG ys).1)).setCell ⟨w.heap.size + 1 + 1 + 1, 1, none⟩ (.int .i64 (bndG ys).2)) := (hBW.setCell (by simp; omega) _).setCell (by simp; omega) _
    refine ⟨.tuple #[.agg #[.int .i64 (bndG ys).1, .int .i64 (bndG ys).2], .int .i64 0], ?_, by rw [e0], hb9.trans (belowK_b (w := w) (Nat.le_refl _) _ D _ _ (by omega) hK2 rfl rfl)⟩
    simp [results, Try.f25, go_sem, z4, z5]
  case stop =>
    rintro D c pre W _ _ h _
    exact h.elim

end Go.Proofs.Ythhokiigdgpmcaa

/- spans.notAbove, under. -/
namespace Go.Proofs.Ythhokiigdgpmcaa
open Go.RowKit

def naS (size p q : Int) : Int × Int :=
  if p < q then (0, min size (fl (-size * p) (q - p))) else if q < p then (max 0 (cl (size * p) (p - q)), size) else if p ≤ 0 then (0, size) else (1, 0)

theorem mul_bd2 {a p A M : Int} (h0 : 0 ≤ a) (hA : a ≤ A) (h1 : -M ≤ p) (h2 : p ≤ M) (hM : 0 ≤ M) : -(A * M) ≤ a * p ∧ a * p ≤ A * M ∧ -(A * M) ≤ -a * p ∧ -a * p ≤ A * M := by
  have := mul_bd h0 hA h1 h2 hM
  have e : -a * p = -(a * p) := by grind
  omega

end Go.Proofs.Ythhokiigdgpmcaa

/- spans.under. -/
namespace Go.Proofs.Ythhokiigdgpmcaa
open Go.RowKit

def unP (Y : List Int) (V : List (List Int)) (i : Nat) (limit k : Int) : Int := kNum Y V i k - limit * kDen Y k
def unStep (size : Int) (Y : List Int) (V : List (List Int)) (i : Nat) (limit : Int) (s : Int × Int) (k : Int) : Int × Int :=
  (max s.1 (naS size (unP Y V i limit k) (unP Y V (i + 1) limit k)).1, min s.2 (naS size (unP Y V i limit k) (unP Y V (i + 1) limit k)).2)
def unL (size : Int) (Y : List Int) (V : List (List Int)) (i : Nat) (limit : Int) (l : List Int) : Int × Int := l.foldl (unStep size Y V i limit) (0, size)
theorem unL_step {size : Int} {Y : List Int} {V : List (List Int)} {i : Nat} {limit : Int} {l : List Int} {a : Nat} {x : Int} (h : l[a]? = some x) :
    unL size Y V i limit (l.take (a + 1)) = unStep size Y V i limit (unL size Y V i limit (l.take a)) x := by
  unfold unL
  rw [List.take_add_one, h]
  simp

theorem unP_bd {X Y : List Int} {V : List (List Int)} {i : Nat} {limit k : Int} (h : ctB X Y V = true) (hi : i < X.length) (hk : On Y k) (h1 : -1000001 ≤ limit) (h2 : limit ≤ 1000001) :
    -100000000000 ≤ unP Y V i limit k ∧ unP Y V i limit k ≤ 100000000000 ∧ -10000010000 ≤ limit * kDen Y k ∧ limit * kDen Y k ≤ 10000010000 ∧ -10000000000 ≤ kNum Y V i k ∧ kNum Y V i k ≤ 10000000000 := by
  obtain ⟨_, b, _, _⟩ := ctB_get h
  obtain ⟨d1, d2⟩ := kDen_bd b hk
  obtain ⟨n1, n2⟩ := kNum_bd h hi hk
  have m := mul_bd (a := kDen Y k) (u := limit) (A := 10000) (M := 1000001) (by omega) d2 h1 h2 (by omega)
  have e : limit * kDen Y k = kDen Y k * limit := Int.mul_comm _ _
  unfold unP
  omega

end Go.Proofs.Ythhokiigdgpmcaa

/- spans.Greatest. -/
namespace Go.Proofs.Ythhokiigdgpmcaa
open Go.RowKit

theorem unL_bd (size : Int) (Y : List Int) (V : List (List Int)) (i : Nat) (limit : Int) (l : List Int) : 0 ≤ (unL size Y V i limit l).1 ∧ (unL size Y V i limit l).2 ≤ size := by
  have key : ∀ (l : List Int) (s : Int × Int), 0 ≤ s.1 → s.2 ≤ size → 0 ≤ (l.foldl (unStep size Y V i limit) s).1 ∧ (l.foldl (unStep size Y V i limit) s).2 ≤ size := by
    intro l
    induction l with
    | nil => intro s h1 h2; exact ⟨h1, h2⟩
    | cons x l ih => intro s h1 h2; exact ih _ (by unfold unStep; simp only; omega) (by unfold unStep; simp only; omega)
  exact key l _ (Int.le_refl _) (Int.le_refl _)

def grSpan (X Y : List Int) (V : List (List Int)) (y1 y2 lim : Int) (i : Nat) : Int × Int := unL (gz X (i + 1) - gz X i) Y V i lim (endsL Y y1 y2)
def grGo (X Y : List Int) (V : List (List Int)) (y1 y2 lim : Int) : Nat → Int × Int
  | 0 => (0, 3)
  | m + 1 => if (grSpan X Y V y1 y2 lim m).1 ≤ (grSpan X Y V y1 y2 lim m).2 then (gz X m + (grSpan X Y V y1 y2 lim m).2, 0) else grGo X Y V y1 y2 lim m
def grS (X Y : List Int) (V : List (List Int)) (y1 y2 limit : Int) : Int × Int :=
  if ctB X Y V then (if [(y1, y2)].all vS then (if onB Y [y1, y2] then grGo X Y V y1 y2 (min (max limit (-1000001)) 1000000) (X.length - 1) else (0, 1)) else (0, 10)) else (0, 11)

end Go.Proofs.Ythhokiigdgpmcaa

/- Meet and Hull, of both sides. -/
namespace Go.Proofs.Ythhokiigdgpmcaa
open Go.RowKit

def vI (a b : Int) : Bool := decide (-1000000 ≤ a) && decide (a ≤ 1000000) && (decide (a ≤ b) && decide (b ≤ 1000000))
theorem vS_vI (a b : Int) : vS (a, b) = vI a b := by
  rw [Bool.eq_iff_iff]
  simp [vS, vI, wB]
  omega
def twoE (a b c d : Int) : Int := if vI a b && vI c d then 0 else 10
def meetS (a b c d : Int) : (Int × Int) × Int := if vI a b && vI c d then (if min b d < max a c then ((0, 0), 3) else ((max a c, min b d), 0)) else ((0, 0), 10)
def hullS (a b c d : Int) : (Int × Int) × Int := if vI a b && vI c d then ((min a c, max b d), 0) else ((0, 0), 10)

theorem from_any (a b c : Int) (w : World) : Calls Try.prog 103 #[.int .i64 a, .int .i64 b, .int .i64 c] w fun e w' => e = .returned (.bool (decide (b ≤ a) && decide (a ≤ c))) ∧ w = w' := by
  by_cases h1 : b ≤ a <;> by_cases h2 : a ≤ c
  all_goals
    go_enter Try.func103, Try.ntmps103
    go_wp2
    go_ret
    exact ⟨ret_bool (by simp; omega), rfl⟩

theorem rvalid_any (a b : Int) (w : World) : Calls Try.prog 43 #[.agg #[.int .i64 a, .int .i64 b]] w fun e w' => e = .returned (.bool (vI a b)) ∧ Below w.heap.size w w' := by
  by_cases h1 : (decide (-1000000 ≤ a) && decide (a ≤ 1000000)) = true
  · go_enter Try.func43, Try.ntmps43
    go_wp2_with (go_at_call 103; refine Calls.mono (from_any _ _ _ _) ?_; rintro e w1 ⟨rfl, rfl⟩)
    go_ret
    exact ⟨ret_bool (by unfold vI; rw [h1]; rfl), by go_grown⟩
  · have h2 : (decide (-1000000 ≤ a) && decide (a ≤ 1000000)) = false := by simpa using h1
    have H2 := Lib.hid h2
    clear h1 h2
    go_enter Try.func43, Try.ntmps43
    go_wp2_with (go_at_call 103; refine Calls.mono (from_any _ _ _ _) ?_; rintro e w1 ⟨rfl, rfl⟩; rw [H2.out])
    go_ret
    exact ⟨ret_bool (by unfold vI; rw [H2.out]; rfl), by go_grown⟩

theorem two_any (a b c d : Int) (w : World) : Calls Try.prog 130 #[.agg #[.int .i64 a, .int .i64 b], .agg #[.int .i64 c, .int .i64 d]] w fun e w' => e = .returned (.int .i64 (twoE a b c d)) ∧ Below w.heap.size w w' := by
  cases h1 : vI a b with
  | false =>
    have e0 : twoE a b c d = 10 := by unfold twoE; rw [h1]; rfl
    rw [e0]
    clear e0
    have H1 := Lib.hid h1
    clear h1
    go_enter Try.func130, Try.ntmps130
    go_wp2_with (go_at_call 43; refine Calls.mono (rvalid_any _ _ _) ?_; rintro e w1 ⟨rfl, hb1⟩; rw [H1.out])
    go_ret
    exact ⟨rfl, Below.trans (by go_grown) (hb1.mono (by simp; omega))⟩
  | true =>
    cases h2 : vI c d with
    | false =>
      have e0 : twoE a b c d = 10 := by unfold twoE; rw [h1, h2]; rfl
      rw [e0]
      clear e0
      have H1 := Lib.hid h1
      have H2 := Lib.hid h2
      clear h1 h2
      go_enter Try.func130, Try.ntmps130
      go_wp2_with (first
        | (go_at_call_of 43 (Value.agg #[.int .i64 a, .int .i64 b]); refine Calls.mono (rvalid_any a b _) ?_; rintro e w1 ⟨rfl, hb1⟩; rw [H1.out]; obtain ⟨hc1, hf1⟩ := bcell hb1; have hz1 := hb1.size; simp at hz1; have hz2 : w.heap.size + 1 < w1.heap.size := (by omega); have hbb1 : Below w.heap.size w w1 := (Below.trans (by go_grown) (hb1.mono (by simp; omega))))
        | (go_at_call 43; refine Calls.mono (rvalid_any c d _) ?_; rintro e w2 ⟨rfl, hb2⟩; rw [H2.out]))
      go_ret
      exact ⟨rfl, hbb1.trans (hb2.mono (by omega))⟩
    | true =>
      have e0 : twoE a b c d = 0 := by unfold twoE; rw [h1, h2]; rfl
      rw [e0]
      clear e0
      have H1 := Lib.hid h1
      have H2 := Lib.hid h2
      clear h1 h2
      go_enter Try.func130, Try.ntmps130
      go_wp2_with (first
        | (go_at_call_of 43 (Value.agg #[.int .i64 a, .int .i64 b]); refine Calls.mono (rvalid_any a b _) ?_; rintro e w1 ⟨rfl, hb1⟩; rw [H1.out]; obtain ⟨hc1, hf1⟩ := bcell hb1; have hz1 := hb1.size; simp at hz1; have hz2 : w.heap.size + 1 < w1.heap.size := (by omega); have hbb1 : Below w.heap.size w w1 := (Below.trans (by go_grown) (hb1.mono (by simp; omega))))
        | (go_at_call 43; refine Calls.mono (rvalid_any c d _) ?_; rintro e w2 ⟨rfl, hb2⟩; rw [H2.out]))
      go_ret
      exact ⟨rfl, hbb1.trans (hb2.mono (by omega))⟩

end Go.Proofs.Ythhokiigdgpmcaa

/- append(s, x...) with x whatever slice, an empty one too: at the operation. -/
namespace Go.Proofs.Ythhokiigdgpmcaa
open Go.RowKit

/-- The slice's cells, where it has any. -/
def Cells (w : World) (A : Option Addr) (news : List Value) : Prop := 0 < news.length → ∃ ad, A = some ad ∧ ∀ j u, news[j]? = some u → w.cell? (ad.add j) = some u

theorem run_append_none {P : Program} (w : World) (t ty e : TypeId) (i : TypeInfo) (ht : P.underlying t = some (.slice e)) (hi : P.info? e = some i) (v : Value) (base n size : Nat) (xs : List Value) (hown : w.ownsRow base e size v n xs) (A : Option Addr) (c : Nat) :
    (Builtin.append_ #[t, t] ty #[v, .slice A 0 c]).run P w = .ok v w := by
  have hf : ∀ k, (Builtin.firstCells k 0 (.slice A 0 c)).run P w = .ok #[] w := fun k => by
    cases A <;> simp [Builtin.firstCells, loadCells, loadCellsFrom]
  rcases hown.2 with ⟨rfl, rfl⟩ | ⟨g, cap, cur, rfl, _, _, hnc, _⟩
  · simp [Builtin.append_, run_underlying ht, sizeOf, typeInfo, hi, Builtin.lenOf, hf]
  · simp [Builtin.append_, run_underlying ht, sizeOf, typeInfo, hi, Builtin.lenOf, hf, hnc, storeCells]

theorem run_append_all {P : Program} (w : World) (t ty : TypeId) (base : Nat) (e : TypeId) (i : TypeInfo) (z : Value) (size bytes : Nat) (ht : P.underlying t = some (.slice e)) (hi : P.info? e = some i) (hz : i.zero = some z)
    (hsize : i.size = size) (hby : i.bytes = bytes) (hzs : z.cells.size = size) (hsz : 0 < size)
    (v : Value) (n : Nat) (xs : List Value) (hown : w.ownsRow base e size v n xs)
    (A : Option Addr) (m c : Nat) (news : List Value) (hl : news.length = m * size) (hnews : Cells w A news) (h1 : ∀ u ∈ news, u.oneCell' = true)
    (h63 : n + m ≤ maxLen) (hbytes : (n + m) * bytes ≤ 140737488355328) (hbase : base ≤ w.heap.size) (H : Nat) (hH : w.heap.size = H) :
    ∃ v' w', (Builtin.append_ #[t, t] ty #[v, .slice A m c]).run P w = .ok v' w' ∧ w'.ownsRow base e size v' (n + m) (xs ++ news) ∧ w.grownBy w' v.ownBlock ∧ (v'.ownBlock = v.ownBlock ∨ v'.ownBlock = some H) ∧ (v ≠ .slice none 0 0 → v' ≠ .slice none 0 0) := by
  by_cases hm : 0 < m
  · have hp : 0 < news.length := by rw [hl]; exact Nat.mul_pos hm hsz
    obtain ⟨ad, rfl, hc⟩ := hnews hp
    obtain ⟨g, cap, w', hr, h2, h3, h4, h5⟩ := run_append_lies (P := P) w t ty base e i z size bytes ht hi hz hsize hby hzs hsz v n xs hown ad m c news hl hc h1 hm h63 hbytes hbase H hH
    refine ⟨_, w', hr, h2, h3, ?_, fun _ => by simp⟩
    rcases h4 with h4 | h4
    · exact .inl (by rw [h4]; rfl)
    · exact .inr (by rw [← h4]; rfl)
  · obtain rfl : m = 0 := by omega
    have hn : news = [] := by simpa using hl
    subst hn
    exact ⟨v, w, run_append_none w t ty e i ht hi v base n size xs hown A c, by simpa using hown, World.grownBy.refl _ _, .inl rfl, id⟩

theorem wp_append_all {P : Program} (w : World) {o : Oper} {a : Act} {K : Act → World → Prop} {Q : Exit → Act → World → Prop} (s x : Operand) (t : TypeId)
    (ho : o.op = .call { callee := .builtin .append, args := #[s, x], argTypes := #[t, t] })
    (base : Nat) (e : TypeId) (i : TypeInfo) (z : Value) (size bytes : Nat) (ht : P.underlying t = some (.slice e)) (hi : P.info? e = some i) (hz : i.zero = some z)
    (hsize : i.size = size) (hby : i.bytes = bytes) (hzs : z.cells.size = size) (hsz : 0 < size)
    (v : Value) (n : Nat) (xs : List Value) (hs : a.eval s = v) (hown : w.ownsRow base e size v n xs)
    (A : Option Addr) (m c : Nat) (news : List Value) (hx : a.eval x = .slice A m c) (hl : news.length = m * size) (hnews : Cells w A news) (h1 : ∀ u ∈ news, u.oneCell' = true)
    (h63 : n + m ≤ maxLen) (hbytes : (n + m) * bytes ≤ 140737488355328) (hbase : base ≤ w.heap.size) (H : Nat) (hH : w.heap.size = H)
    (h : ∀ v' w', w'.ownsRow base e size v' (n + m) (xs ++ news) → w.grownBy w' v.ownBlock → (v'.ownBlock = v.ownBlock ∨ v'.ownBlock = some H) → (v ≠ .slice none 0 0 → v' ≠ .slice none 0 0) → K (a.put o.dst v') w') : o.wp P a w K Q := by
  obtain ⟨v', w', hr, h2, h3, h4, h5⟩ := run_append_all (P := P) w t o.type base e i z size bytes ht hi hz hsize hby hzs hsz v n xs hown A m c news hl hnews h1 h63 hbytes hbase H hH
  unfold Oper.wp execOp
  simp only [ho, resolve, invoke, builtin, Sem.run_bind, Sem.run_pure, Result.andThen_ok, List.map_toArray, List.map_cons, List.map_nil, hs, hx, hr]
  exact h v' w' h2 h3 h4 h5

/-- .. at a step of region_inv. -/
theorem wpIn_append_all {P : Program} (w : World) {k : Nat} {o : Oper} {a : Act} {K : Act → World → Prop} {Q : Exit → Act → World → Prop} (s x : Operand) (t : TypeId)
    (ho : o.op = .call { callee := .builtin .append, args := #[s, x], argTypes := #[t, t] })
    (base : Nat) (e : TypeId) (i : TypeInfo) (z : Value) (size bytes : Nat) (ht : P.underlying t = some (.slice e)) (hi : P.info? e = some i) (hz : i.zero = some z)
    (hsize : i.size = size) (hby : i.bytes = bytes) (hzs : z.cells.size = size) (hsz : 0 < size)
    (v : Value) (n : Nat) (xs : List Value) (hs : a.eval s = v) (hown : w.ownsRow base e size v n xs)
    (A : Option Addr) (m c : Nat) (news : List Value) (hx : a.eval x = .slice A m c) (hl : news.length = m * size) (hnews : Cells w A news) (h1 : ∀ u ∈ news, u.oneCell' = true)
    (h63 : n + m ≤ maxLen) (hbytes : (n + m) * bytes ≤ 140737488355328) (hbase : base ≤ w.heap.size) (H : Nat) (hH : w.heap.size = H)
    (h : ∀ v' w', w'.ownsRow base e size v' (n + m) (xs ++ news) → w.grownBy w' v.ownBlock → (v'.ownBlock = v.ownBlock ∨ v'.ownBlock = some H) → (v ≠ .slice none 0 0 → v' ≠ .slice none 0 0) → K (a.put o.dst v') w') : Oper.wpIn Fence.wide k P o a w K Q := by
  obtain ⟨v', w', hr, h2, h3, h4, h5⟩ := run_append_all (P := P) w t o.type base e i z size bytes ht hi hz hsize hby hzs hsz v n xs hown A m c news hl hnews h1 h63 hbytes hbase H hH
  refine ⟨fun _ _ => trivial, ?_⟩
  rw [Oper.semAt_eq _ _ _ (by simp [ho])]
  unfold Oper.uponIn execOp
  simp only [ho, resolve, invoke, builtin, Sem.run_bind, Sem.run_pure, Result.andThen_ok, List.map_toArray, List.map_cons, List.map_nil, hs, hx, hr]
  exact h v' w' h2 h3 h4 h5

theorem wpList_append_all {P : Program} (w : World) {ops : Array Oper} {rest : List Oper} {o : Oper} {a : Act} {Q : Exit → Act → World → Prop} (hgd : o.guard = none) (s x : Operand) (t : TypeId)
    (ho : o.op = .call { callee := .builtin .append, args := #[s, x], argTypes := #[t, t] })
    (base : Nat) (e : TypeId) (i : TypeInfo) (z : Value) (size bytes : Nat) (ht : P.underlying t = some (.slice e)) (hi : P.info? e = some i) (hz : i.zero = some z)
    (hsize : i.size = size) (hby : i.bytes = bytes) (hzs : z.cells.size = size) (hsz : 0 < size)
    (v : Value) (n : Nat) (xs : List Value) (hs : a.eval s = v) (hown : w.ownsRow base e size v n xs)
    (A : Option Addr) (m c : Nat) (news : List Value) (hx : a.eval x = .slice A m c) (hl : news.length = m * size) (hnews : Cells w A news) (h1 : ∀ u ∈ news, u.oneCell' = true)
    (h63 : n + m ≤ maxLen) (hbytes : (n + m) * bytes ≤ 140737488355328) (hbase : base ≤ w.heap.size) (H : Nat) (hH : w.heap.size = H)
    (h : ∀ v' w', w'.ownsRow base e size v' (n + m) (xs ++ news) → w.grownBy w' v.ownBlock → (v'.ownBlock = v.ownBlock ∨ v'.ownBlock = some H) → (v ≠ .slice none 0 0 → v' ≠ .slice none 0 0) → wpList P ops Q rest (a.put o.dst v') w') : wpList P ops Q (o :: rest) a w :=
  wpList_plain hgd fun _ hK => wp_append_all w s x t ho base e i z size bytes ht hi hz hsize hby hzs hsz v n xs hs hown A m c news hx hl hnews h1 h63 hbytes hbase H hH fun v' w' h2 h3 h4 h5 => hK _ _ (h v' w' h2 h3 h4 h5)

end Go.Proofs.Ythhokiigdgpmcaa

/- Far, Check of both sides, box. -/
namespace Go.Proofs.Ythhokiigdgpmcaa
open Go.RowKit

/-- What a law does not look at. -/
def farB (X Y : List Int) (V : List (List Int)) : Bool := decide (15 < X.length) || (decide (15 < Y.length) || (decide (15 < V.length) || V.any fun r => decide (15 < r.length)))
theorem farB_no {X Y : List Int} {V : List (List Int)} (h : farB X Y V = false) : X.length ≤ 15 ∧ Y.length ≤ 15 ∧ V.length ≤ 15 ∧ ∀ r ∈ V, r.length ≤ 15 := by
  unfold farB at h
  simp at h
  exact ⟨h.1, h.2.1, h.2.2.1, h.2.2.2⟩

theorem any_hit {V : List (List Int)} {k : Nat} {r : List Int} (hr : V[k]? = some r) (h : 15 < r.length) : (V.any fun r => decide (15 < r.length)) = true := by
  rw [List.any_eq_true]
  obtain ⟨hk, rfl⟩ := List.getElem?_eq_some_iff.1 hr
  exact ⟨_, List.getElem_mem hk, by simpa using h⟩
theorem any_step {V : List (List Int)} {k : Nat} {r : List Int} (hr : V[k]? = some r) : ((V.take (k + 1)).any fun r => decide (15 < r.length)) = (((V.take k).any fun r => decide (15 < r.length)) || decide (15 < r.length)) := by
  rw [List.take_add_one, hr]
  simp

set_option maxRecDepth 100000 in
theorem far_any (AX AY AV : Option Addr) (nx cx ny cy nv cv B : Nat) (X Y : List Int) (V : List (List Int)) (w : World) (hx : X.length = nx) (hy : Y.length = ny) (hv : V.length = nv) (hnx : nx ≤ maxLen) (hny : ny ≤ maxLen) (hnv : nv ≤ maxLen)
    (hB : B ≤ w.heap.size) (h : TB w B AX AY AV X Y V) :
    Calls Try.prog 49 #[.agg #[.slice AX nx cx, .slice AY ny cy, .slice AV nv cv]] w fun e w' => e = .returned (.bool (farB X Y V)) ∧ Below w.heap.size w w' := by
  subst hx hy hv
  unfold maxLen at hnx hny hnv
  by_cases h1 : 15 < X.length
  · have e1 : farB X Y V = true := by unfold farB; simp [h1]
    rw [e1]
    clear e1
    have g1 : (15 : Int) < X.length := by omega
    go_enter Try.func49, Try.ntmps49
    go_wp2
    go_ret
    exact ⟨rfl, by go_grown⟩
  have g1 : (X.length : Int) ≤ 15 := by omega
  by_cases h2 : 15 < Y.length
  · have e1 : farB X Y V = true := by unfold farB; simp [h2]
    rw [e1]
    clear e1 h1
    have g2 : (15 : Int) < Y.length := by omega
    go_enter Try.func49, Try.ntmps49
    go_wp2
    go_ret
    exact ⟨rfl, by go_grown⟩
  have g2 : (Y.length : Int) ≤ 15 := by omega
  by_cases h3 : 15 < V.length
  · have e1 : farB X Y V = true := by unfold farB; simp [h3]
    rw [e1]
    clear e1 h1 h2
    have g3 : (15 : Int) < V.length := by omega
    go_enter Try.func49, Try.ntmps49
    go_wp2
    go_ret
    exact ⟨rfl, by go_grown⟩
  have g3 : (V.length : Int) ≤ 15 := by omega
  have HL := Lib.hid (And.intro h1 (And.intro h2 h3))
  have HV := Lib.hid h.v
  clear h1 h2 h3 h
  go_enter Try.func49, Try.ntmps49
  go_wp2
  go_loopw [3] (fun i wr => ∃ k : Nat, k ≤ V.length ∧ i = .int .i64 k ∧ ((V.take k).any fun r => decide (15 < r.length)) = false ∧ wr.cell? ⟨w.heap.size, 2, none⟩ = some (.slice AV V.length cv) ∧ Below w.heap.size w wr) (fun i _ => V.length - (intOf i).toNat)
  case atStart => exact ⟨0, by omega, rfl, by simp, by go_simp, by go_grown⟩
  case round =>
    obtain ⟨k, hk, rfl, hw, hc2, hbw⟩ := hrel
    have HW := Lib.hid hw
    clear hw
    by_cases hlt : k < V.length
    · obtain ⟨b, off, r, A', c', rfl, hb, hr, hc, hri⟩ := ((HV.out.more hB).below hbw).at_ hlt
      have HR := Lib.hid hr
      clear hr hri
      by_cases g4 : 15 < r.length
      · have g4' : (15 : Int) < r.length := by omega
        go_wp2
        go_ret
        exact ⟨ret_bool (by unfold farB; rw [any_hit HR.out g4]; simp), hbw⟩
      · have g4' : (r.length : Int) ≤ 15 := by omega
        go_wp2
        go_roundw
        case rel => exact ⟨k + 1, by omega, by go_num, by rw [any_step HR.out, HW.out]; simp; omega, hc2, hbw⟩
        case measure => simp [intOf]; omega
    · go_wp2
      go_ret
      obtain ⟨l1, l2, l3⟩ := HL.out
      exact ⟨ret_bool (by have hw := HW.out; rw [List.take_of_length_le (by omega)] at hw; unfold farB; rw [hw]; simp; omega), hbw⟩

def chkB (l : List (Int × Int)) : Bool := decide (1 ≤ l.length) && decide (l.length ≤ 3) && l.all vS
def chkE (l : List (Int × Int)) : Int := if chkB l then 0 else 10
theorem chkE_no {l : List (Int × Int)} (h : chkB l = false) : chkE l = 10 := by unfold chkE; rw [h]; rfl
theorem chkE_yes {l : List (Int × Int)} (h : chkB l = true) : chkE l = 0 := by unfold chkE; rw [h]; rfl

theorem check_any (A : Option Addr) (n c B : Nat) (l : List (Int × Int)) (w : World) (hx : l.length = n) (hn : n ≤ maxLen) (hB : B ≤ w.heap.size) (h : RS w B A l) :
    Calls Try.prog 122 #[.slice A n c] w fun e w' => e = .returned (.int .i64 (chkE l)) ∧ Below w.heap.size w w' := by
  subst hx
  have hn' := hn
  unfold maxLen at hn'
  by_cases h1 : 1 ≤ l.length ∧ l.length ≤ 3
  · obtain ⟨h1, h2⟩ := h1
    have g1 : (1 : Int) ≤ l.length := by omega
    have g2 : (l.length : Int) ≤ 3 := by omega
    cases hv : l.all vS with
    | false =>
      rw [chkE_no (by unfold chkB; rw [hv]; simp)]
      have HV := Lib.hid hv
      clear hv h1 h2
      go_enter Try.func122, Try.ntmps122
      go_wp2_with (go_at_call 82; refine Calls.mono (valid_any A _ c B l _ rfl hn hB h) ?_; rintro e w1 ⟨rfl, hb1⟩; rw [HV.out])
      go_ret
      exact ⟨rfl, hb1⟩
    | true =>
      rw [chkE_yes (by unfold chkB; rw [hv]; simp [h1, h2])]
      have HV := Lib.hid hv
      clear hv h1 h2
      go_enter Try.func122, Try.ntmps122
      go_wp2_with (go_at_call 82; refine Calls.mono (valid_any A _ c B l _ rfl hn hB h) ?_; rintro e w1 ⟨rfl, hb1⟩; rw [HV.out])
      go_ret
      exact ⟨rfl, hb1⟩
  · rw [chkE_no (by unfold chkB; simp; omega)]
    have g1 : (l.length : Int) < 1 ∨ (3 : Int) < l.length := by omega
    clear h1
    rcases g1 with g1 | g1
    all_goals
      go_enter Try.func122, Try.ntmps122
      go_wp2
      go_ret
      exact ⟨rfl, by go_grown⟩

/-- The cells of a list of spans. -/
def spanCells (l : List (Int × Int)) : List Value := l.flatMap fun p => [.int .i64 p.1, .int .i64 p.2]
theorem spanCells_len (l : List (Int × Int)) : (spanCells l).length = l.length * 2 := by
  induction l with
  | nil => rfl
  | cons p l ih => show ([_, _] ++ spanCells l).length = _; simp [ih]; omega
theorem spanCells_get (l : List (Int × Int)) (j : Nat) {p : Int × Int} (h : l[j]? = some p) : (spanCells l)[j * 2]? = some (.int .i64 p.1) ∧ (spanCells l)[j * 2 + 1]? = some (.int .i64 p.2) := by
  induction l generalizing j with
  | nil => simp at h
  | cons q l ih =>
    have e : spanCells (q :: l) = .int .i64 q.1 :: .int .i64 q.2 :: spanCells l := rfl
    rw [e]
    cases j with
    | zero =>
      simp at h
      subst h
      simp
    | succ j =>
      simp at h
      have := ih j h
      have e1 : (j + 1) * 2 = j * 2 + 1 + 1 := by omega
      have e2 : (j + 1) * 2 + 1 = j * 2 + 1 + 1 + 1 := by omega
      rw [e1]
      simp only [List.getElem?_cons_succ]
      exact this
theorem spanCells_one (l : List (Int × Int)) : ∀ u ∈ spanCells l, u.oneCell' = true := by
  intro u hu
  obtain ⟨p, _, h⟩ := List.mem_flatMap.1 hu
  simp at h
  rcases h with rfl | rfl <;> rfl
theorem RS.cells {w : World} {B : Nat} {A : Option Addr} {l : List (Int × Int)} (h : RS w B A l) : Cells w A (spanCells l) := fun hp => by
  rw [spanCells_len] at hp
  obtain ⟨b, off, rfl, hb, hc⟩ := h (by omega)
  refine ⟨_, rfl, fun j u hu => ?_⟩
  have hj : j < l.length * 2 := by rw [← spanCells_len]; exact (List.getElem?_eq_some_iff.1 hu).1
  have hq : j / 2 < l.length := by omega
  obtain ⟨h0, h1⟩ := hc (j / 2) _ (List.getElem?_eq_getElem hq)
  obtain ⟨g0, g1⟩ := spanCells_get l (j / 2) (List.getElem?_eq_getElem hq)
  rw [Go.WideShapes.add_plain]
  rcases Nat.mod_two_eq_zero_or_one j with e | e
  · have e' : j / 2 * 2 = j := by omega
    rw [e'] at h0 g0
    rw [h0, ← hu, g0]
  · have e' : j / 2 * 2 + 1 = j := by omega
    have e2 : off + j / 2 * 2 + 1 = off + j := by omega
    rw [e'] at g1
    rw [e2] at h1
    rw [h1, ← hu, g1]
theorem RS.of_own {w : World} {base n : Nat} {v : Value} {E : TypeId} {l : List (Int × Int)} (h : w.ownsRow base E 2 v n (spanCells l)) (hl : l.length = n) (hv : v ≠ .slice none 0 0) :
    ∃ g c, v = .slice (some ⟨g, 0, none⟩) n c ∧ base ≤ g ∧ RS w w.heap.size (some ⟨g, 0, none⟩) l := by
  rcases h.2 with ⟨e, _⟩ | ⟨g, cap, cur, rfl, hg, hcur, hn, hm, hs, ht⟩
  · exact absurd e hv
  refine ⟨g, cap, rfl, hg, fun hp => ⟨g, 0, rfl, (h.lt g rfl).2, fun j p hj => ?_⟩⟩
  obtain ⟨g0, g1⟩ := spanCells_get l j hj
  have hjl := (List.getElem?_eq_some_iff.1 hj).1
  rw [Nat.zero_add]
  exact ⟨by rw [h.cellAt (j * 2) (by omega), g0], by rw [h.cellAt (j * 2 + 1) (by omega), g1]⟩

theorem info_span : (Try.prog.info? 34).map (fun i => (i.zero, i.size, i.bytes)) = some (some (.agg #[.int .i64 0, .int .i64 0]), 2, 16) := by kernel_rfl

/-- What is returned is a box of the call's own. -/
def GivesSpans (w : World) (l : List (Int × Int)) (e : Ending) (w' : World) : Prop :=
  ∃ g c, e = .returned (.slice (some ⟨g, 0, none⟩) l.length c) ∧ w.heap.size ≤ g ∧ RS w' w'.heap.size (some ⟨g, 0, none⟩) l ∧ Below w.heap.size w w'

end Go.Proofs.Ythhokiigdgpmcaa

/- spans.Bound. -/
import Derived.Test.YtjdahphnmeaolaaCorn
import Derived.Test.YtjdahphnmeaolaaInv
namespace Go.Proofs.Ytjdahphnmeaolaa
open Go.RowKit Go.Shelf

attribute [local go_sem] Oper.semAt_some

def bndStep (s : Int × Int) (c : Cn) : Int × Int := (min s.1 (fl c.1 c.2.1), max s.2 (cl c.1 c.2.1))
def bndL (l : List Cn) : Int × Int := l.foldl bndStep (1000000, -1000000)
theorem bndL_snoc (l : List Cn) (c : Cn) : bndL (l ++ [c]) = bndStep (bndL l) c := by simp [bndL]

def bndG (l : List GC) : Int × Int := bndL (l.map (·.1))
theorem bndG_snoc (l : List GC) (c : GC) : bndG (l ++ [c]) = (min (bndG l).1 (fl c.1.1 c.1.2.1), max (bndG l).2 (cl c.1.1 c.1.2.1)) := by
  simp [bndG, bndL_snoc, bndStep]

theorem cbE_ok {X Y : List Int} {V : List (List Int)} {x1 x2 y1 y2 : Int} (h : cbE X Y V x1 x2 y1 y2 = 0) : ctB X Y V = true ∧ vS (x1, x2) = true ∧ vS (y1, y2) = true ∧ On X x1 ∧ On X x2 ∧ On Y y1 ∧ On Y y2 := by
  unfold cbE at h
  split at h
  · rename_i h1
    split at h
    · rename_i h2
      split at h
      · rename_i h3
        split at h
        · rename_i h4
          simp [onB, wB] at h3 h4
          simp at h2
          exact ⟨h1, h2.1, h2.2, ⟨h3.1.1, h3.1.2⟩, ⟨h3.2.1, h3.2.2⟩, ⟨h4.1.1, h4.1.2⟩, ⟨h4.2.1, h4.2.2⟩⟩
        · cases h
      · cases h
    · cases h
  · cases h

theorem cell_frozen {W w1 : World} (hb : Below W.heap.size W w1) {b o : Nat} {v : Value} (h : W.cell? ⟨b, o, none⟩ = some v) : w1.frozen? ⟨b, o, none⟩ = W.frozen? ⟨b, o, none⟩ :=
  hb.frozen (p := ⟨b, o, none⟩) (World.block_lt_of_cell? W _ h)
theorem KP.setCell {n m : Nat} {A : World} {p : Addr} (h1 : n ≤ p.block) (h2 : p.block < m) (u : Value) : KP n m A (A.setCell p u) :=
  ⟨(Below.refl _ _).setCell h1 u, fun k hk _ ho _ => (Below.heap_setCell A p u k (by omega)).trans ho⟩
theorem KeepsFrom.of_below {B : Nat} {A C : World} (h : Below A.heap.size A C) : KeepsFrom B A C :=
  ⟨h.size, fun k _ _ hk _ => (h.block k (Array.getElem?_eq_some_iff.1 hk).1).trans hk⟩
theorem kp_putObj {n m : Nat} {w : World} (hn : n ≤ w.heap.size) (W : World) (l : Nat) (o o' : Obj) (hl : w.heap.size ≤ l) (h : W.heap[l]? = some o) (hc : o.isCells = false) (hk : o.isWalk = false) : KP n m W (W.putObj l o') :=
  ⟨belowK_b hn W l o o' hl h hc hk, fun j _ u hu hcu => by
    rw [World.putObj_heap_other (fun e => by subst e; rw [h] at hu; cases hu; rw [hc] at hcu; cases hcu)]
    exact hu⟩

set_option maxRecDepth 100000 in
set_option maxHeartbeats 2000000 in
theorem bound_ok (AX AY AV : Option Addr) (nx cx ny cy nv cv B : Nat) (X Y : List Int) (V : List (List Int)) (x1 x2 y1 y2 : Int) (w : World) (hx : X.length = nx) (hy : Y.length = ny) (hv : V.length = nv) (hnx : nx ≤ maxLen) (hny : ny ≤ maxLen) (hnv : nv ≤ maxLen) (hnr : ∀ r ∈ V, r.length ≤ maxLen)
    (hB : B ≤ w.heap.size) (h : TB w B AX AY AV X Y V) (hcb : cbE X Y V x1 x2 y1 y2 = 0) :
    Calls Try.prog 49 #[.agg #[.slice AX nx cx, .slice AY ny cy, .slice AV nv cv], .agg #[.int .i64 x1, .int .i64 x2], .agg #[.int .i64 y1, .int .i64 y2]] w fun e w' =>
      e = .returned (.tuple #[.agg #[.int .i64 (bndL (cornersL X Y V (endsL X x1 x2) (endsL Y y1 y2))).1, .int .i64 (bndL (cornersL X Y V (endsL X x1 x2) (endsL Y y1 y2))).2], .int .i64 0]) ∧ Below w.heap.size w w' := by
  subst hx hy hv
  refine (callsIn_wide (n := 9)).1 ?_
  refine callsIn_of_wp_marks Try.func49 rfl trivial ?_ rfl
  simp only [Try.ntmps49, List.size_toArray, List.length_cons, List.length_nil, Nat.reduceAdd, Nat.reduceSub, Array.replicate_succ, Array.replicate_zero, List.push_toArray, List.append_toArray, List.nil_append, List.cons_append]
  gi_wp2_with (fail)
  refine ⟨trivial, ?_⟩
  refine CallsIn.mono (callsIn_wide.2 (checkBox_any AX AY AV _ _ _ _ _ _ B X Y V x1 x2 y1 y2 _ rfl rfl rfl hnx hny hnv hnr ?c1 (h.below ?c2))) ?_
  case c1 => simp; omega
  case c2 => go_grown
  rintro e w1 ⟨rfl, hb1⟩
  rw [hcb]
  have hz1 := hb1.size
  simp at hz1
  have hbw1 : Below w.heap.size w w1 := Below.trans (by go_grown) (hb1.mono (by simp; omega))
  have t0 : w1.cell? ⟨w.heap.size, 0, none⟩ = some (.slice AX X.length cx) := cell_keep hb1 (by go_simp)
  have t1 : w1.cell? ⟨w.heap.size, 1, none⟩ = some (.slice AY Y.length cy) := cell_keep hb1 (by go_simp)
  have t2 : w1.cell? ⟨w.heap.size, 2, none⟩ = some (.slice AV V.length cv) := cell_keep hb1 (by go_simp)
  have t3 : w1.cell? ⟨w.heap.size + 1, 0, none⟩ = some (.int .i64 x1) := cell_keep hb1 (by go_simp)
  have t4 : w1.cell? ⟨w.heap.size + 1, 1, none⟩ = some (.int .i64 x2) := cell_keep hb1 (by go_simp)
  have t5 : w1.cell? ⟨w.heap.size + 1 + 1, 0, none⟩ = some (.int .i64 y1) := cell_keep hb1 (by go_simp)
  have t6 : w1.cell? ⟨w.heap.size + 1 + 1, 1, none⟩ = some (.int .i64 y2) := cell_keep hb1 (by go_simp)
  have t7 : w1.cell? ⟨w.heap.size + 1 + 1 + 1, 0, none⟩ = some (.int .i64 0) := cell_keep hb1 (by go_simp)
  have t8 : w1.cell? ⟨w.heap.size + 1 + 1 + 1, 1, none⟩ = some (.int .i64 0) := cell_keep hb1 (by go_simp)
  have t9 : w1.frozen? ⟨w.heap.size + 1 + 1 + 1, 0, none⟩ = false := (hb1.frozen (p := ⟨w.heap.size + 1 + 1 + 1, 0, none⟩) (by simp)).trans (by go_simp)
  have t10 : w1.frozen? ⟨w.heap.size + 1 + 1 + 1, 1, none⟩ = false := (hb1.frozen (p := ⟨w.heap.size + 1 + 1 + 1, 1, none⟩) (by simp)).trans (by go_simp)
  clear hb1
  gi_wp2_with (fail)
  refine ⟨trivial, ?_⟩
  refine CallsIn.mono (callsIn_wide.2 (span_any 1000000 (-1000000) _)) ?_
  rintro e w2 ⟨rfl, hb2⟩
  have hz2 := hb2.size
  replace t0 := cell_keep hb2 t0
  replace t1 := cell_keep hb2 t1
  replace t2 := cell_keep hb2 t2
  replace t3 := cell_keep hb2 t3
  replace t4 := cell_keep hb2 t4
  replace t5 := cell_keep hb2 t5
  replace t6 := cell_keep hb2 t6
  replace t7 := cell_keep hb2 t7
  replace t8 := cell_keep hb2 t8
  replace t9 := (hb2.frozen (p := ⟨w.heap.size + 1 + 1 + 1, 0, none⟩) (by simp; omega)).trans t9
  replace t10 := (hb2.frozen (p := ⟨w.heap.size + 1 + 1 + 1, 1, none⟩) (by simp; omega)).trans t10
  have hbw2 : Below w.heap.size w w2 := hbw1.trans (hb2.mono (by omega))
  have hq : w.heap.size + 1 + 1 + 1 < w2.heap.size := by omega
  have hq2 : w.heap.size + 1 + 1 < w2.heap.size := by omega
  have hq1 : w.heap.size + 1 < w2.heap.size := by omega
  have hq0 : w.heap.size < w2.heap.size := by omega
  clear hb2 hbw1 hz1 hz2
  gi_wp2_with (fail)
  refine ⟨trivial, ?_⟩
  refine CallsIn.mono (callsIn_wide.2 (corners_any AX AY AV _ _ _ _ _ _ x1 x2 y1 y2 _)) ?_
  rintro e w3 ⟨rfl, rfl⟩
  gi_wp2_with (fail)
  obtain ⟨hct, hv1, hv2, ox1, ox2, oy1, oy2⟩ := cbE_ok hcb
  obtain ⟨W0, hW0⟩ : ∃ W0, (((w2.alloc (.cells #[.int .i64 1000000, .int .i64 (-1000000)] 37)).alloc (.cells #[.slice AX X.length cx, .slice AY Y.length cy, .slice AV V.length cv] 27)).alloc (.cells #[.int .i64 x1, .int .i64 x2] 37)).alloc (.cells #[.int .i64 y1, .int .i64 y2] 37) = W0 := ⟨_, rfl⟩
  have hs0 : W0.heap.size = w2.heap.size + 4 := by rw [← hW0]; clear hW0; simp
  have a0 : W0.cell? ⟨w2.heap.size, 0, none⟩ = some (.int .i64 1000000) := by rw [← hW0]; clear hW0; go_simp
  have a1 : W0.cell? ⟨w2.heap.size, 1, none⟩ = some (.int .i64 (-1000000)) := by rw [← hW0]; clear hW0; go_simp
  have a2 : W0.frozen? ⟨w2.heap.size, 0, none⟩ = false := by rw [← hW0]; clear hW0; go_simp
  have a3 : W0.frozen? ⟨w2.heap.size, 1, none⟩ = false := by rw [← hW0]; clear hW0; go_simp
  have b0 : W0.cell? ⟨w2.heap.size + 1, 0, none⟩ = some (.slice AX X.length cx) := by rw [← hW0]; clear hW0; go_simp
  have b1 : W0.cell? ⟨w2.heap.size + 1, 1, none⟩ = some (.slice AY Y.length cy) := by rw [← hW0]; clear hW0; go_simp
  have b2 : W0.cell? ⟨w2.heap.size + 1, 2, none⟩ = some (.slice AV V.length cv) := by rw [← hW0]; clear hW0; go_simp
  have b3 : W0.cell? ⟨w2.heap.size + 1 + 1, 0, none⟩ = some (.int .i64 x1) := by rw [← hW0]; clear hW0; go_simp
  have b4 : W0.cell? ⟨w2.heap.size + 1 + 1, 1, none⟩ = some (.int .i64 x2) := by rw [← hW0]; clear hW0; go_simp
  have b5 : W0.cell? ⟨w2.heap.size + 1 + 1 + 1, 0, none⟩ = some (.int .i64 y1) := by rw [← hW0]; clear hW0; go_simp
  have b6 : W0.cell? ⟨w2.heap.size + 1 + 1 + 1, 1, none⟩ = some (.int .i64 y2) := by rw [← hW0]; clear hW0; go_simp
  have c7 : W0.cell? ⟨w.heap.size + 1 + 1 + 1, 0, none⟩ = some (.int .i64 0) := by rw [← hW0]; clear hW0; go_simp
  have c8 : W0.cell? ⟨w.heap.size + 1 + 1 + 1, 1, none⟩ = some (.int .i64 0) := by rw [← hW0]; clear hW0; go_simp
  have c9 : W0.frozen? ⟨w.heap.size + 1 + 1 + 1, 0, none⟩ = false := by rw [← hW0]; clear hW0; go_simp
  have c10 : W0.frozen? ⟨w.heap.size + 1 + 1 + 1, 1, none⟩ = false := by rw [← hW0]; clear hW0; go_simp
  have hB0 : Below w.heap.size w W0 := by rw [← hW0]; clear hW0; go_grown
  rw [hW0]
  clear hW0 t0 t1 t2 t3 t4 t5 t6 t7 t8 t9 t10 hbw2 hcb
  have hstops := corners_stops 8 (by omega) (w2.heap.size + 1) (w2.heap.size + 1 + 1) (w2.heap.size + 1 + 1 + 1) w.heap.size (w2.heap.size + 1) B AX AY AV cx cy cv X Y V x1 x2 y1 y2 _ _ (Lib.hid rfl) (Lib.hid rfl) hct ox1 ox2 oy1 oy2 (by omega) (by omega) hB (by omega) W0 (by omega) (h.below (hB0.mono hB)) b0 b1 b2 b3 b4 b5 b6
  refine wpIn_rangeFunc_ownH rfl (by omega) (gf := 111) (lb := #[.pointer (some ⟨w2.heap.size + 1, 0, none⟩), .pointer (some ⟨w2.heap.size + 1 + 1 + 1, 0, none⟩), .pointer (some ⟨w2.heap.size + 1 + 1, 0, none⟩)]) rfl trivial (enters_of Try.func111 (by kernel_rfl) rfl)
    hstops (fun h k => KP.trans h k) (kp_putObj (by omega)) (Below.refl _ _) (fun _ => rfl)
    (fun pre W => (W.cell? ⟨w2.heap.size, 0, none⟩ = some (.int .i64 (bndG pre).1) ∧ W.cell? ⟨w2.heap.size, 1, none⟩ = some (.int .i64 (bndG pre).2) ∧ W.frozen? ⟨w2.heap.size, 0, none⟩ = false ∧ W.frozen? ⟨w2.heap.size, 1, none⟩ = false ∧
      W.cell? ⟨w.heap.size + 1 + 1 + 1, 0, none⟩ = some (.int .i64 0) ∧ W.cell? ⟨w.heap.size + 1 + 1 + 1, 1, none⟩ = some (.int .i64 0) ∧ W.frozen? ⟨w.heap.size + 1 + 1 + 1, 0, none⟩ = false ∧ W.frozen? ⟨w.heap.size + 1 + 1 + 1, 1, none⟩ = false) ∧ Below w.heap.size w W)
    (fun _ _ _ => False)
    (OwnFrom.and (Own.from (fun s A B row hs hg hr => ⟨cell_kept hs.1 hg hr, cell_kept hs.2.1 hg hr, (frozen_kept hs.1 hg hr).trans hs.2.2.1, (frozen_kept hs.2.1 hg hr).trans hs.2.2.2.1,
      cell_kept hs.2.2.2.2.1 hg hr, cell_kept hs.2.2.2.2.2.1 hg hr, (frozen_kept hs.2.2.2.2.1 hg hr).trans hs.2.2.2.2.2.2.1, (frozen_kept hs.2.2.2.2.2.1 hg hr).trans hs.2.2.2.2.2.2.2⟩) _) (ownFrom_below (Nat.le_refl _) (by omega)))
    (fun _ _ _ _ _ hs _ _ => hs)
    ⟨⟨a0, a1, a2, a3, c7, c8, c9, c10⟩, hB0⟩
    (fun x a' W => ∃ Bx : Nat, w2.heap.size < Bx ∧ Bx < W.heap.size ∧ (W.cell? ⟨Bx, 0, none⟩ = some (.int .i64 x.1.1) ∧ W.cell? ⟨Bx, 1, none⟩ = some (.int .i64 x.1.2.1)) ∧
      a' = { tmps := #[.agg #[.slice AX X.length cx, .slice AY Y.length cy, .slice AV V.length cv], .agg #[.int .i64 x1, .int .i64 x2], .agg #[.int .i64 y1, .int .i64 y2],
        .pointer (some ⟨w.heap.size, 0, none⟩), .pointer (some ⟨w.heap.size + 1, 0, none⟩), .pointer (some ⟨w.heap.size + 1 + 1, 0, none⟩), .pointer (some ⟨w.heap.size + 1 + 1 + 1, 0, none⟩), .int .i64 0, .int .i64 0,
        .pointer (some ⟨w2.heap.size, 0, none⟩), .pointer (some ⟨Bx, 0, none⟩), .agg #[.slice AX X.length cx, .slice AY Y.length cy, .slice AV V.length cv], .agg #[.int .i64 x1, .int .i64 x2], .agg #[.int .i64 y1, .int .i64 y2], .int .i64 0, .int .i64 0, .bool false, undef, undef,
        .agg #[.int .i64 1000000, .int .i64 (-1000000)], .agg #[.slice AX X.length cx, .slice AY Y.length cy, .slice AV V.length cv], .agg #[.int .i64 x1, .int .i64 x2], .agg #[.int .i64 y1, .int .i64 y2],
        .func (.func 111) #[] #[.pointer (some ⟨w2.heap.size + 1, 0, none⟩), .pointer (some ⟨w2.heap.size + 1 + 1 + 1, 0, none⟩), .pointer (some ⟨w2.heap.size + 1 + 1, 0, none⟩)],
        cnV x.1, undef, undef, undef, undef, undef, undef, undef, undef, undef, undef, undef, undef, undef, undef], defers := [] })
    (fun x a' => by
      rintro s A C row ⟨Bx, h1, h2, h3, h4⟩ hg hr
      exact ⟨Bx, h1, Nat.lt_of_lt_of_le h2 hg.size, ⟨cell_kept h3.1 hg (fun r e => (hr r e).2), cell_kept h3.2 hg (fun r e => (hr r e).2)⟩, h4⟩)
    ?assign ?body ?done ?stop
  case assign =>
    rintro l pre x W K ⟨⟨d0, d1, d2, d3, d4, d5, d6, d7⟩, hBW⟩ hK
    have hsW := hBW.size
    have l0 := World.block_lt_of_cell? W _ d0
    have l1 := World.block_lt_of_cell? W _ d4
    obtain ⟨hk0, hk1⟩ : w2.heap.size < W.heap.size ∧ w.heap.size + 1 + 1 + 1 < W.heap.size := ⟨l0, l1⟩
    dsimp only [cnV]
    gi_wp2
    exact hK _ _ ((KeepsOthers.alloc _ _).from _) (KP.of_below ((Below.refl _ _).alloc (Nat.le_refl _) _) (by omega))
      ⟨⟨by go_simp, by go_simp, by go_simp, by go_simp, by go_simp, by go_simp, by go_simp, by go_simp⟩, by go_grown⟩ ⟨W.heap.size, by omega, by simp, ⟨by go_simp, by go_simp⟩, rfl⟩
  case body =>
    rintro l pre x a' W hl hrec ⟨⟨d0, d1, d2, d3, d4, d5, d6, d7⟩, hBW⟩ ⟨Bx, hBx, hBx2, ⟨f0, f1⟩, rfl⟩ hlen
    have hsW := hBW.size
    have hk0 := World.block_lt_of_cell? W _ d0
    have hk1 := World.block_lt_of_cell? W _ d4
    obtain ⟨⟨num, den, px, py⟩, g1, g2, g3, g4⟩ := x
    simp only at g1 g2 g3 g4 f0 f1
    have hmx : Try.prog.follows .mixedOrders = true := by kernel_rfl
    gi_wp2
    have l9 : w2.heap.size < W.heap.size := hk0
    refine region_inv (by kernel_rfl) (fun i => match i with
        | 0 => .pointer (some ⟨w2.heap.size, 0, none⟩) | 1 => .int .i64 (bndG pre).1 | 2 => .pointer (some ⟨Bx, 0, none⟩) | 3 => .agg #[.int .i64 num, .int .i64 den] | 4 => .int .i64 (fl num den) | 5 => .int .i64 (min (bndG pre).1 (fl num den))
        | 6 => .pointer (some ⟨w2.heap.size, 1, none⟩) | 7 => .int .i64 (bndG pre).2 | 8 => .pointer (some ⟨Bx, 0, none⟩) | 9 => .agg #[.int .i64 num, .int .i64 den] | 10 => .int .i64 (cl num den) | 11 => .int .i64 (max (bndG pre).2 (cl num den))
        | 12 => .agg #[.int .i64 (min (bndG pre).1 (fl num den)), .int .i64 (max (bndG pre).2 (cl num den))] | _ => undef)
      (fun L x => (L.getD 13 false = false → Below W.heap.size W x) ∧ (L.getD 13 false = true → ∃ y, Below W.heap.size W y ∧ x = (y.setCell ⟨w2.heap.size, 0, none⟩ (.int .i64 (min (bndG pre).1 (fl num den)))).setCell ⟨w2.heap.size, 1, none⟩ (.int .i64 (max (bndG pre).2 (cl num den)))))
      (by kernel_rfl) rfl ⟨fun _ => (Below.refl _ _).drew, fun h => by simp at h⟩ ?hstep ?hend
    case hstep =>
      intro i o ho L b x hF hR hpre hl
      match i, ho with
      | 0, ho =>
        simp at ho
        subst ho
        refine step_plain rfl ?_
        have e9 := hF.was 9 (by kernel_rfl) rfl
        have hN := hF.later hl 13 rfl (e := ⟨0, .phase⟩) (by simp) rfl rfl
        have hM := hR.1 hN
        rw [Array.getD_eq_getD_getElem?] at hN
        clear hF hpre hl hR
        have q0 := cell_keep hM d0
        have q1 := cell_keep hM d1
        have q2 := cell_keep hM f0
        have q3 := cell_keep hM f1
        first | (go_simp; done) | (go_simp; exact hM)
      | 1, ho =>
        simp at ho
        subst ho
        refine step_plain rfl ?_
        have e25 := hF.gave 0 rfl (hpre ⟨0, .data⟩ (by simp) rfl) rfl
        have hN := hF.later hl 13 rfl (e := ⟨1, .phase⟩) (by simp) rfl rfl
        have hM := hR.1 hN
        rw [Array.getD_eq_getD_getElem?] at hN
        clear hF hpre hl hR
        have q0 := cell_keep hM d0
        have q1 := cell_keep hM d1
        have q2 := cell_keep hM f0
        have q3 := cell_keep hM f1
        first | (go_simp; done) | (go_simp; exact hM)
      | 2, ho =>
        simp at ho
        subst ho
        refine step_plain rfl ?_
        have e10 := hF.was 10 (by kernel_rfl) rfl
        have hN := hF.later hl 13 rfl (e := ⟨2, .phase⟩) (by simp) rfl rfl
        have hM := hR.1 hN
        rw [Array.getD_eq_getD_getElem?] at hN
        clear hF hpre hl hR
        have q0 := cell_keep hM d0
        have q1 := cell_keep hM d1
        have q2 := cell_keep hM f0
        have q3 := cell_keep hM f1
        first | (go_simp; done) | (go_simp; exact hM)
      | 3, ho =>
        simp at ho
        subst ho
        refine step_plain rfl ?_
        have e27 := hF.gave 2 rfl (hpre ⟨2, .data⟩ (by simp) rfl) rfl
        have hN := hF.later hl 13 rfl (e := ⟨3, .phase⟩) (by simp) rfl rfl
        have hM := hR.1 hN
        rw [Array.getD_eq_getD_getElem?] at hN
        clear hF hpre hl hR
        have q0 := cell_keep hM d0
        have q1 := cell_keep hM d1
        have q2 := cell_keep hM f0
        have q3 := cell_keep hM f1
        first | (go_simp; done) | (go_simp; exact hM)
      | 4, ho =>
        simp at ho
        subst ho
        refine step_plain rfl ?_
        have e28 := hF.gave 3 rfl (hpre ⟨3, .data⟩ (by simp) rfl) rfl
        have hN := hF.later hl 13 rfl (e := ⟨4, .phase⟩) (by simp) rfl rfl
        have hM := hR.1 hN
        rw [Array.getD_eq_getD_getElem?] at hN
        clear hF hpre hl hR
        have q0 := cell_keep hM d0
        have q1 := cell_keep hM d1
        have q2 := cell_keep hM f0
        have q3 := cell_keep hM f1
        go_simp
        refine ⟨trivial, ?_⟩
        refine CallsIn.mono (CallsIn.inRound l (callsIn_wide.2 (vfloor_any num den _ (by omega) (by omega) (by omega) (by omega)))) ?_
        rintro e y ⟨rfl, hy⟩
        have hs := hM.size
        exact ⟨rfl, hM.trans (hy.mono hs)⟩
      | 5, ho =>
        simp at ho
        subst ho
        refine step_plain rfl ?_
        have e26 := hF.gave 1 rfl (hpre ⟨1, .data⟩ (by simp) rfl) rfl
        have e29 := hF.gave 4 rfl (hpre ⟨4, .data⟩ (by simp) rfl) rfl
        have hN := hF.later hl 13 rfl (e := ⟨5, .phase⟩) (by simp) rfl rfl
        have hM := hR.1 hN
        rw [Array.getD_eq_getD_getElem?] at hN
        clear hF hpre hl hR
        have q0 := cell_keep hM d0
        have q1 := cell_keep hM d1
        have q2 := cell_keep hM f0
        have q3 := cell_keep hM f1
        first | (go_simp; done) | (go_simp; exact hM)
      | 6, ho =>
        simp at ho
        subst ho
        refine step_plain rfl ?_
        have e9 := hF.was 9 (by kernel_rfl) rfl
        have hN := hF.later hl 13 rfl (e := ⟨6, .phase⟩) (by simp) rfl rfl
        have hM := hR.1 hN
        rw [Array.getD_eq_getD_getElem?] at hN
        clear hF hpre hl hR
        have q0 := cell_keep hM d0
        have q1 := cell_keep hM d1
        have q2 := cell_keep hM f0
        have q3 := cell_keep hM f1
        first | (go_simp; done) | (go_simp; exact hM)
      | 7, ho =>
        simp at ho
        subst ho
        refine step_plain rfl ?_
        have e31 := hF.gave 6 rfl (hpre ⟨6, .data⟩ (by simp) rfl) rfl
        have hN := hF.later hl 13 rfl (e := ⟨7, .phase⟩) (by simp) rfl rfl
        have hM := hR.1 hN
        rw [Array.getD_eq_getD_getElem?] at hN
        clear hF hpre hl hR
        have q0 := cell_keep hM d0
        have q1 := cell_keep hM d1
        have q2 := cell_keep hM f0
        have q3 := cell_keep hM f1
        first | (go_simp; done) | (go_simp; exact hM)
      | 8, ho =>
        simp at ho
        subst ho
        refine step_plain rfl ?_
        have e10 := hF.was 10 (by kernel_rfl) rfl
        have hN := hF.later hl 13 rfl (e := ⟨8, .phase⟩) (by simp) rfl rfl
        have hM := hR.1 hN
        rw [Array.getD_eq_getD_getElem?] at hN
        clear hF hpre hl hR
        have q0 := cell_keep hM d0
        have q1 := cell_keep hM d1
        have q2 := cell_keep hM f0
        have q3 := cell_keep hM f1
        first | (go_simp; done) | (go_simp; exact hM)
      | 9, ho =>
        simp at ho
        subst ho
        refine step_plain rfl ?_
        have e33 := hF.gave 8 rfl (hpre ⟨8, .data⟩ (by simp) rfl) rfl
        have hN := hF.later hl 13 rfl (e := ⟨9, .phase⟩) (by simp) rfl rfl
        have hM := hR.1 hN
        rw [Array.getD_eq_getD_getElem?] at hN
        clear hF hpre hl hR
        have q0 := cell_keep hM d0
        have q1 := cell_keep hM d1
        have q2 := cell_keep hM f0
        have q3 := cell_keep hM f1
        first | (go_simp; done) | (go_simp; exact hM)
      | 10, ho =>
        simp at ho
        subst ho
        refine step_plain rfl ?_
        have e34 := hF.gave 9 rfl (hpre ⟨9, .data⟩ (by simp) rfl) rfl
        have hN := hF.later hl 13 rfl (e := ⟨10, .phase⟩) (by simp) rfl rfl
        have hM := hR.1 hN
        rw [Array.getD_eq_getD_getElem?] at hN
        clear hF hpre hl hR
        have q0 := cell_keep hM d0
        have q1 := cell_keep hM d1
        have q2 := cell_keep hM f0
        have q3 := cell_keep hM f1
        go_simp
        refine ⟨trivial, ?_⟩
        refine CallsIn.mono (CallsIn.inRound l (callsIn_wide.2 (vceil_any num den _ (by omega) (by omega) (by omega) (by omega)))) ?_
        rintro e y ⟨rfl, hy⟩
        have hs := hM.size
        exact ⟨rfl, hM.trans (hy.mono hs)⟩
      | 11, ho =>
        simp at ho
        subst ho
        refine step_plain rfl ?_
        have e32 := hF.gave 7 rfl (hpre ⟨7, .data⟩ (by simp) rfl) rfl
        have e35 := hF.gave 10 rfl (hpre ⟨10, .data⟩ (by simp) rfl) rfl
        have hN := hF.later hl 13 rfl (e := ⟨11, .phase⟩) (by simp) rfl rfl
        have hM := hR.1 hN
        rw [Array.getD_eq_getD_getElem?] at hN
        clear hF hpre hl hR
        have q0 := cell_keep hM d0
        have q1 := cell_keep hM d1
        have q2 := cell_keep hM f0
        have q3 := cell_keep hM f1
        first | (go_simp; done) | (go_simp; exact hM)
      | 12, ho =>
        simp at ho
        subst ho
        refine step_plain rfl ?_
        have e30 := hF.gave 5 rfl (hpre ⟨5, .data⟩ (by simp) rfl) rfl
        have e36 := hF.gave 11 rfl (hpre ⟨11, .data⟩ (by simp) rfl) rfl
        have hN := hF.later hl 13 rfl (e := ⟨12, .phase⟩) (by simp) rfl rfl
        have hM := hR.1 hN
        rw [Array.getD_eq_getD_getElem?] at hN
        clear hF hpre hl hR
        have q0 := cell_keep hM d0
        have q1 := cell_keep hM d1
        have q2 := cell_keep hM f0
        have q3 := cell_keep hM f1
        go_simp
        refine ⟨trivial, ?_⟩
        refine CallsIn.mono (CallsIn.inRound l (callsIn_wide.2 (span_any _ _ _))) ?_
        rintro e y ⟨rfl, hy⟩
        have hs := hM.size
        exact ⟨rfl, hM.trans (hy.mono hs)⟩
      | 13, ho =>
        simp at ho
        subst ho
        refine step_plain rfl ?_
        have e9 := hF.was 9 (by kernel_rfl) rfl
        have e37 := hF.gave 12 rfl (hpre ⟨12, .data⟩ (by simp) rfl) rfl
        have hls := hF.lsize
        have hls' : 13 < L.size := by rw [hls]; decide
        have hM := hR.1 (by rw [← getD_same hls']; exact hl)
        clear hF hpre hl hR hls
        have q0 := cell_keep hM d0
        have q1 := cell_keep hM d1
        have q4 := (cell_frozen hM d0).trans d2
        have q5 := (cell_frozen hM d1).trans d3
        go_simp
        exact ⟨x, hM, rfl⟩
      | i + 14, ho => simp at ho
    case hend =>
      intro L b x hF hall hR
      obtain ⟨y, hy, rfl⟩ := hR.2 (hall 13 (by decide))
      have hys := hy.size
      have q0 := cell_keep hy d0
      have q1 := cell_keep hy d1
      have q2 := (cell_frozen hy d0).trans d2
      have q3 := (cell_frozen hy d1).trans d3
      have q4 := cell_keep hy d4
      have q5 := cell_keep hy d5
      have q6 := (cell_frozen hy d4).trans d6
      have q7 := (cell_frozen hy d5).trans d7
      have hne : w.heap.size + 1 + 1 + 1 ≠ w2.heap.size := by omega
      have hst : ∀ (x : GC), bndG (pre ++ [x]) = (min (bndG pre).1 (fl x.1.1 x.1.2.1), max (bndG pre).2 (cl x.1.1 x.1.2.1)) := bndG_snoc pre
      refine ⟨((KeepsFrom.of_below hy).trans ((KeepsOthers.setCell _ _ _).from _)).trans ((KeepsOthers.setCell _ _ _).from _), ((KP.of_below hy (by omega)).trans (KP.setCell (by simp; omega) (by simp) _)).trans (KP.setCell (by simp; omega) (by simp) _), ⟨?_, ?_, ?_, ?_, ?_, ?_, ?_, ?_⟩, ((hBW.trans (hy.mono hsW)).setCell (by simp; omega) _).setCell (by simp; omega) _⟩
      · rw [hst, World.cell?_setCell_other _ _ _ _ (by simp)]
        exact World.cell?_setCell_same' _ _ _ (by rw [q0]; rfl)
      · rw [hst]
        exact World.cell?_setCell_same' _ _ _ (by rw [World.cell?_setCell_other _ _ _ _ (by simp), q1]; rfl)
      · rw [World.frozen?_setCell, World.frozen?_setCell]; exact q2
      · rw [World.frozen?_setCell, World.frozen?_setCell]; exact q3
      · rw [World.cell?_setCell_other _ _ _ _ (by simp), World.cell?_setCell_other _ _ _ _ (by simp)]; exact q4
      · rw [World.cell?_setCell_other _ _ _ _ (by simp), World.cell?_setCell_other _ _ _ _ (by simp)]; exact q5
      · rw [World.frozen?_setCell, World.frozen?_setCell]; exact q6
      · rw [World.frozen?_setCell, World.frozen?_setCell]; exact q7
  case done =>
    rintro D ys W hD hys ⟨⟨d0, d1, d2, d3, d4, d5, d6, d7⟩, hBW⟩ hK
    gi_wp2
    have e0 : bndG ys = bndL (cornersL X Y V (endsL X x1 x2) (endsL Y y1 y2)) := by unfold bndG; rw [hys]
    have hK1 := (KeepsOthers.setCell W ⟨w.heap.size + 1 + 1 + 1, 0, none⟩ (.int .i64 (bndG ys).1)).same D _ hK rfl
    have hK2 := (KeepsOthers.setCell (W.setCell ⟨w.heap.size + 1 + 1 + 1, 0, none⟩ (.int .i64 (bndG ys).1)) ⟨w.heap.size + 1 + 1 + 1, 1, none⟩ (.int .i64 (bndG ys).2)).same D _ hK1 rfl
    have z1 := World.cell?_setCell_same' W ⟨w.heap.size + 1 + 1 + 1, 0, none⟩ (.int .i64 (bndG ys).1) (by rw [d4]; rfl)
    have z2 : ((W.setCell ⟨w.heap.size + 1 + 1 + 1, 0, none⟩ (.int .i64 (bndG ys).1)).setCell ⟨w.heap.size + 1 + 1 + 1, 1, none⟩ (.int .i64 (bndG ys).2)).cell? ⟨w.heap.size + 1 + 1 + 1, 0, none⟩ = some (.int .i64 (bndG ys).1) := by
      rw [World.cell?_setCell_other _ _ _ _ (by simp)]; exact z1
    have z3 := World.cell?_setCell_same' (W.setCell ⟨w.heap.size + 1 + 1 + 1, 0, none⟩ (.int .i64 (bndG ys).1)) ⟨w.heap.size + 1 + 1 + 1, 1, none⟩ (.int .i64 (bndG ys).2) (by rw [World.cell?_setCell_other _ _ _ _ (by simp), d5]; rfl)
    refine ⟨by simp, .inl ⟨_, _, rfl, run_takeDeferred hK2, ?_⟩⟩
    have z4 := cell_kept z2 (grownBy_putObj' _ D (.deferred none)) (fun r e => by cases e; exact ⟨_, hK2, rfl⟩)
    have z5 := cell_kept z3 (grownBy_putObj' _ D (.deferred none)) (fun r e => by cases e; exact ⟨_, hK2, rfl⟩)
    have hb9 : Below w.heap.size w ((W.setCell ⟨w.heap.size + 1 + 1 + 1, 0, none⟩ (.int .i64 (bndG ys).1)).setCell ⟨w.heap.size + 1 + 1 + 1, 1, none⟩ (.int .i64 (bndG ys).2)) := (hBW.setCell (by simp; omega) _).setCell (by simp; omega) _
    refine ⟨.tuple #[.agg #[.int .i64 (bndG ys).1, .int .i64 (bndG ys).2], .int .i64 0], ?_, by rw [e0], hb9.trans (belowK_b (w := w) (Nat.le_refl _) _ D _ _ (by omega) hK2 rfl rfl)⟩
    simp [results, Try.f49, go_sem, z4, z5]
  case stop =>
    rintro D c pre W _ _ h _
    exact h.elim

end Go.Proofs.Ytjdahphnmeaolaa

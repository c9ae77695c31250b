/- spans.Worst. -/
import Derived.Test.YtjdahphnmeaolaaRwst
import Derived.Sort.BigQuietIn
namespace Go.Proofs.Ytjdahphnmeaolaa
open Go.RowKit Go.Shelf

attribute [local go_sem] Oper.semAt_some

def wstG (l : List GC) : Cn := wstL (l.map (·.1))
theorem wstG_snoc (l : List GC) (c : GC) : wstG (l ++ [c]) = wstStep (wstG l) c.1 := by simp [wstG, wstL_snoc]
theorem wstG_gd (l : List GC) : Gd (wstG l).1 (wstG l).2.1 := by
  have key : ∀ (l : List GC) (s : Cn), Gd s.1 s.2.1 → Gd ((l.map (·.1)).foldl wstStep s).1 ((l.map (·.1)).foldl wstStep s).2.1 := by
    intro l
    induction l with
    | nil => intro s h; exact h
    | cons x l ih => intro s h; exact ih _ (wst_good h x.2)
  exact key l _ ⟨by decide, by decide, by decide, by decide⟩

set_option maxRecDepth 100000 in
set_option maxHeartbeats 4000000 in
theorem worst_ok (AX AY AV : Option Addr) (nx cx ny cy nv cv B : Nat) (X Y : List Int) (V : List (List Int)) (x1 x2 y1 y2 : Int) (w : World) (hx : X.length = nx) (hy : Y.length = ny) (hv : V.length = nv) (hnx : nx ≤ maxLen) (hny : ny ≤ maxLen) (hnv : nv ≤ maxLen) (hnr : ∀ r ∈ V, r.length ≤ maxLen)
    (hB : B ≤ w.heap.size) (h : TB w B AX AY AV X Y V) (hcb : cbE X Y V x1 x2 y1 y2 = 0) :
    Calls Try.prog 51 #[.agg #[.slice AX nx cx, .slice AY ny cy, .slice AV nv cv], .agg #[.int .i64 x1, .int .i64 x2], .agg #[.int .i64 y1, .int .i64 y2]] w fun e w' =>
      e = .returned (.tuple #[.int .i64 (wstL (cornersL X Y V (endsL X x1 x2) (endsL Y y1 y2))).2.2.1, .int .i64 (wstL (cornersL X Y V (endsL X x1 x2) (endsL Y y1 y2))).2.2.2, .int .i64 0]) ∧ Below w.heap.size w w' := by
  subst hx hy hv
  refine (callsIn_wide (n := 9)).1 ?_
  refine callsIn_of_wp_marks Try.func51 rfl trivial ?_ rfl
  simp only [Try.ntmps51, List.size_toArray, List.length_cons, List.length_nil, Nat.reduceAdd, Nat.reduceSub, Array.replicate_succ, Array.replicate_zero, List.push_toArray, List.append_toArray, List.nil_append, List.cons_append]
  gi_wp2_with (fail)
  refine ⟨trivial, ?_⟩
  refine CallsIn.mono (callsIn_wide.2 (checkBox_any AX AY AV _ _ _ _ _ _ B X Y V x1 x2 y1 y2 _ rfl rfl rfl hnx hny hnv hnr ?c1 (h.below ?c2))) ?_
  case c1 => simp; omega
  case c2 => go_grown
  rintro e w1 ⟨rfl, hb1⟩
  rw [hcb]
  have hz1 := hb1.size
  simp at hz1
  have hbw1 : Below w.heap.size w w1 := Below.trans (by go_grown) (hb1.mono (by simp; omega))
  have t0 : w1.cell? ⟨w.heap.size, 0, none⟩ = some (.slice AX X.length cx) := cell_keep hb1 (by go_simp)
  have t1 : w1.cell? ⟨w.heap.size, 1, none⟩ = some (.slice AY Y.length cy) := cell_keep hb1 (by go_simp)
  have t2 : w1.cell? ⟨w.heap.size, 2, none⟩ = some (.slice AV V.length cv) := cell_keep hb1 (by go_simp)
  have t3 : w1.cell? ⟨w.heap.size + 1, 0, none⟩ = some (.int .i64 x1) := cell_keep hb1 (by go_simp)
  have t4 : w1.cell? ⟨w.heap.size + 1, 1, none⟩ = some (.int .i64 x2) := cell_keep hb1 (by go_simp)
  have t5 : w1.cell? ⟨w.heap.size + 1 + 1, 0, none⟩ = some (.int .i64 y1) := cell_keep hb1 (by go_simp)
  have t6 : w1.cell? ⟨w.heap.size + 1 + 1, 1, none⟩ = some (.int .i64 y2) := cell_keep hb1 (by go_simp)
  have hq2 : w.heap.size + 1 + 1 < w1.heap.size := by omega
  have hq1 : w.heap.size + 1 < w1.heap.size := by omega
  have hq0 : w.heap.size < w1.heap.size := by omega
  clear hb1 hz1
  gi_wp2_with (fail)
  refine ⟨trivial, ?_⟩
  refine CallsIn.mono (callsIn_wide.2 (corners_any AX AY AV _ _ _ _ _ _ x1 x2 y1 y2 _)) ?_
  rintro e w3 ⟨rfl, rfl⟩
  gi_wp2_with (fail)
  obtain ⟨hct, hv1, hv2, ox1, ox2, oy1, oy2⟩ := cbE_ok hcb
  obtain ⟨W0, hW0⟩ : ∃ W0, (((w1.alloc (.cells #[.int .i64 (-1000001), .int .i64 1, .int .i64 0, .int .i64 0] 118)).alloc (.cells #[.slice AX X.length cx, .slice AY Y.length cy, .slice AV V.length cv] 27)).alloc (.cells #[.int .i64 x1, .int .i64 x2] 37)).alloc (.cells #[.int .i64 y1, .int .i64 y2] 37) = W0 := ⟨_, rfl⟩
  have hs0 : W0.heap.size = w1.heap.size + 4 := by rw [← hW0]; clear hW0; simp
  have a0 : W0.cell? ⟨w1.heap.size, 0, none⟩ = some (.int .i64 (-1000001)) := by rw [← hW0]; clear hW0; go_simp
  have a1 : W0.cell? ⟨w1.heap.size, 1, none⟩ = some (.int .i64 1) := by rw [← hW0]; clear hW0; go_simp
  have a2 : W0.cell? ⟨w1.heap.size, 2, none⟩ = some (.int .i64 0) := by rw [← hW0]; clear hW0; go_simp
  have a3 : W0.cell? ⟨w1.heap.size, 3, none⟩ = some (.int .i64 0) := by rw [← hW0]; clear hW0; go_simp
  have g0 : W0.frozen? ⟨w1.heap.size, 0, none⟩ = false := by rw [← hW0]; clear hW0; go_simp
  have g1 : W0.frozen? ⟨w1.heap.size, 1, none⟩ = false := by rw [← hW0]; clear hW0; go_simp
  have g2 : W0.frozen? ⟨w1.heap.size, 2, none⟩ = false := by rw [← hW0]; clear hW0; go_simp
  have g3 : W0.frozen? ⟨w1.heap.size, 3, none⟩ = false := by rw [← hW0]; clear hW0; go_simp
  have b0 : W0.cell? ⟨w1.heap.size + 1, 0, none⟩ = some (.slice AX X.length cx) := by rw [← hW0]; clear hW0; go_simp
  have b1 : W0.cell? ⟨w1.heap.size + 1, 1, none⟩ = some (.slice AY Y.length cy) := by rw [← hW0]; clear hW0; go_simp
  have b2 : W0.cell? ⟨w1.heap.size + 1, 2, none⟩ = some (.slice AV V.length cv) := by rw [← hW0]; clear hW0; go_simp
  have b3 : W0.cell? ⟨w1.heap.size + 1 + 1, 0, none⟩ = some (.int .i64 x1) := by rw [← hW0]; clear hW0; go_simp
  have b4 : W0.cell? ⟨w1.heap.size + 1 + 1, 1, none⟩ = some (.int .i64 x2) := by rw [← hW0]; clear hW0; go_simp
  have b5 : W0.cell? ⟨w1.heap.size + 1 + 1 + 1, 0, none⟩ = some (.int .i64 y1) := by rw [← hW0]; clear hW0; go_simp
  have b6 : W0.cell? ⟨w1.heap.size + 1 + 1 + 1, 1, none⟩ = some (.int .i64 y2) := by rw [← hW0]; clear hW0; go_simp
  have hB0 : Below w.heap.size w W0 := by rw [← hW0]; clear hW0; go_grown
  rw [hW0]
  clear hW0 t0 t1 t2 t3 t4 t5 t6 hbw1 hcb
  have hstops := corners_stops 8 (by omega) (w1.heap.size + 1) (w1.heap.size + 1 + 1) (w1.heap.size + 1 + 1 + 1) w.heap.size (w1.heap.size + 1) B AX AY AV cx cy cv X Y V x1 x2 y1 y2 _ _ (Lib.hid rfl) (Lib.hid rfl) hct ox1 ox2 oy1 oy2 (by omega) (by omega) hB (by omega) W0 (by omega) (h.below (hB0.mono hB)) b0 b1 b2 b3 b4 b5 b6
  refine wpIn_rangeFunc_ownH rfl (by omega) (gf := 111) (lb := #[.pointer (some ⟨w1.heap.size + 1, 0, none⟩), .pointer (some ⟨w1.heap.size + 1 + 1 + 1, 0, none⟩), .pointer (some ⟨w1.heap.size + 1 + 1, 0, none⟩)]) rfl trivial (enters_of Try.func111 (by kernel_rfl) rfl)
    hstops (fun h k => KP.trans h k) (kp_putObj (by omega)) (Below.refl _ _) (fun _ => rfl)
    (fun pre W => (W.cell? ⟨w1.heap.size, 0, none⟩ = some (.int .i64 (wstG pre).1) ∧ W.cell? ⟨w1.heap.size, 1, none⟩ = some (.int .i64 (wstG pre).2.1) ∧ W.cell? ⟨w1.heap.size, 2, none⟩ = some (.int .i64 (wstG pre).2.2.1) ∧ W.cell? ⟨w1.heap.size, 3, none⟩ = some (.int .i64 (wstG pre).2.2.2) ∧ W.frozen? ⟨w1.heap.size, 0, none⟩ = false ∧ W.frozen? ⟨w1.heap.size, 1, none⟩ = false ∧ W.frozen? ⟨w1.heap.size, 2, none⟩ = false ∧ W.frozen? ⟨w1.heap.size, 3, none⟩ = false) ∧ Below w.heap.size w W)
    (fun _ _ _ => False)
    (OwnFrom.and (Own.from (fun s A B row hs hg hr => ⟨cell_kept hs.1 hg hr, cell_kept hs.2.1 hg hr, cell_kept hs.2.2.1 hg hr, cell_kept hs.2.2.2.1 hg hr, (frozen_kept hs.1 hg hr).trans hs.2.2.2.2.1, (frozen_kept hs.2.1 hg hr).trans hs.2.2.2.2.2.1, (frozen_kept hs.2.2.1 hg hr).trans hs.2.2.2.2.2.2.1, (frozen_kept hs.2.2.2.1 hg hr).trans hs.2.2.2.2.2.2.2⟩) _) (ownFrom_below (Nat.le_refl _) (by omega)))
    (fun _ _ _ _ _ hs _ _ => hs)
    ⟨⟨a0, a1, a2, a3, g0, g1, g2, g3⟩, hB0⟩
    (fun x a' W => ∃ Bx : Nat, w1.heap.size < Bx ∧ Bx < W.heap.size ∧ (W.cell? ⟨Bx, 0, none⟩ = some (.int .i64 x.1.1) ∧ W.cell? ⟨Bx, 1, none⟩ = some (.int .i64 x.1.2.1) ∧ W.cell? ⟨Bx, 2, none⟩ = some (.int .i64 x.1.2.2.1) ∧ W.cell? ⟨Bx, 3, none⟩ = some (.int .i64 x.1.2.2.2)) ∧
      a' = { tmps := #[.agg #[.slice AX X.length cx, .slice AY Y.length cy, .slice AV V.length cv], .agg #[.int .i64 x1, .int .i64 x2], .agg #[.int .i64 y1, .int .i64 y2],
        .pointer (some ⟨w.heap.size, 0, none⟩), .pointer (some ⟨w.heap.size + 1, 0, none⟩), .pointer (some ⟨w.heap.size + 1 + 1, 0, none⟩), .int .i64 0, .int .i64 0, .int .i64 0, .int .i64 0,
        .pointer (some ⟨w1.heap.size, 0, none⟩), .pointer (some ⟨Bx, 0, none⟩), .agg #[.slice AX X.length cx, .slice AY Y.length cy, .slice AV V.length cv], .agg #[.int .i64 x1, .int .i64 x2], .agg #[.int .i64 y1, .int .i64 y2], .int .i64 0, .int .i64 0, .bool false, undef,
        .agg #[.int .i64 (-1000001), .int .i64 1], .agg #[.int .i64 (-1000001), .int .i64 1, .int .i64 0, .int .i64 0], .agg #[.slice AX X.length cx, .slice AY Y.length cy, .slice AV V.length cv], .agg #[.int .i64 x1, .int .i64 x2], .agg #[.int .i64 y1, .int .i64 y2],
        .func (.func 111) #[] #[.pointer (some ⟨w1.heap.size + 1, 0, none⟩), .pointer (some ⟨w1.heap.size + 1 + 1 + 1, 0, none⟩), .pointer (some ⟨w1.heap.size + 1 + 1, 0, none⟩)],
        cnV x.1, undef, undef, undef, undef, undef, undef, undef, undef, undef, undef, undef], defers := [] })
    (fun x a' => by
      rintro s A C row ⟨Bx, h1, h2, h3, h4⟩ hg hr
      exact ⟨Bx, h1, Nat.lt_of_lt_of_le h2 hg.size, ⟨cell_kept h3.1 hg (fun r e => (hr r e).2), cell_kept h3.2.1 hg (fun r e => (hr r e).2), cell_kept h3.2.2.1 hg (fun r e => (hr r e).2), cell_kept h3.2.2.2 hg (fun r e => (hr r e).2)⟩, h4⟩)
    ?assign ?body ?done ?stop
  case assign =>
    rintro l pre x W K ⟨⟨d0, d1, d2, d3, d4, d5, d6, d7⟩, hBW⟩ hK
    have hsW := hBW.size
    have l0 := World.block_lt_of_cell? W _ d0
    have hk0 : w1.heap.size < W.heap.size := l0
    dsimp only [cnV]
    gi_wp2
    exact hK _ _ ((KeepsOthers.alloc _ _).from _) (KP.of_below ((Below.refl _ _).alloc (Nat.le_refl _) _) (by omega))
      ⟨⟨by go_simp, by go_simp, by go_simp, by go_simp, by go_simp, by go_simp, by go_simp, by go_simp⟩, by go_grown⟩ ⟨W.heap.size, by omega, by simp, ⟨by go_simp, by go_simp, by go_simp, by go_simp⟩, rfl⟩
  case body =>
    rintro l pre x a' W hl hrec ⟨⟨d0, d1, d2, d3, d4, d5, d6, d7⟩, hBW⟩ ⟨Bx, hBx, hBx2, ⟨f0, f1, f2, f3⟩, rfl⟩ hlen
    have hsW := hBW.size
    have hk0 := World.block_lt_of_cell? W _ d0
    have l9 : w1.heap.size < W.heap.size := hk0
    have hgx : Gd x.1.1 x.1.2.1 := x.2.gd
    have hgs := wstG_gd pre
    have hst := wstG_snoc pre x
    obtain ⟨⟨num, den, px, py⟩, hgood⟩ := x
    simp only at f0 f1 f2 f3 hgx hst
    generalize wstG pre = s at *
    obtain ⟨s0, s1, s2, s3⟩ := s
    simp only at d0 d1 d2 d3 hgs hst
    have hmx : Try.prog.follows .mixedOrders = true := by kernel_rfl
    have HGX := Lib.hid hgx
    have HGS := Lib.hid hgs
    have HST := Lib.hid hst
    clear hgx hgs hst
    gi_wp2_with (fail)
    refine ⟨trivial, ?_⟩
    refine CallsIn.mono (CallsIn.inRound l (callsIn_wide.2 (compare_any num den s0 s1 _ HGX.out HGS.out))) ?_
    rintro e y ⟨⟨c, rfl, hc⟩, hy⟩
    have hys := hy.size
    have q0 := cell_keep hy d0
    have q1 := cell_keep hy d1
    have q2 := cell_keep hy d2
    have q3 := cell_keep hy d3
    have q4 := (cell_frozen hy d0).trans d4
    have q5 := (cell_frozen hy d1).trans d5
    have q6 := (cell_frozen hy d2).trans d6
    have q7 := (cell_frozen hy d3).trans d7
    have m0 := cell_keep hy f0
    have m1 := cell_keep hy f1
    have m2 := cell_keep hy f2
    have m3 := cell_keep hy f3
    have hly : w1.heap.size < y.heap.size := by omega
    have hlb : Bx < y.heap.size := by omega
    have HBY := Lib.hid (hBW.trans (hy.mono hsW))
    have HY := Lib.hid hy
    clear d0 d1 d2 d3 d4 d5 d6 d7 f0 f1 f2 f3 hy
    cases hlt : ltF s0 s1 num den with
    | true =>
      have hc' : (0 : Int) < c := by rw [hlt] at hc; simpa using hc
      have hst : wstG (pre ++ [⟨(num, den, px, py), hgood⟩]) = (num, den, px, py) := by rw [HST.out]; unfold wstStep; simp only; rw [hlt, if_pos rfl]
      clear hc hlt
      have HSS := Lib.hid hst
      clear hst
      gi_wp2
      refine ⟨((((KeepsFrom.of_below HY.out).trans ((KeepsOthers.setCell _ _ _).from _)).trans ((KeepsOthers.setCell _ _ _).from _)).trans ((KeepsOthers.setCell _ _ _).from _)).trans ((KeepsOthers.setCell _ _ _).from _),
        ((((KP.of_below HY.out (by omega)).trans (KP.setCell (by simp; omega) (by simp) _)).trans (KP.setCell (by simp; omega) (by simp) _)).trans (KP.setCell (by simp; omega) (by simp) _)).trans (KP.setCell (by simp; omega) (by simp) _),
        ⟨?_, ?_, ?_, ?_, ?_, ?_, ?_, ?_⟩, (((HBY.out.setCell (by simp; omega) _).setCell (by simp; omega) _).setCell (by simp; omega) _).setCell (by simp; omega) _⟩
      · rw [HSS.out, World.cell?_setCell_other _ _ _ _ (by simp), World.cell?_setCell_other _ _ _ _ (by simp), World.cell?_setCell_other _ _ _ _ (by simp)]
        exact World.cell?_setCell_same' _ _ _ (by rw [q0]; rfl)
      · rw [HSS.out, World.cell?_setCell_other _ _ _ _ (by simp), World.cell?_setCell_other _ _ _ _ (by simp)]
        exact World.cell?_setCell_same' _ _ _ (by rw [World.cell?_setCell_other _ _ _ _ (by simp), q1]; rfl)
      · rw [HSS.out, World.cell?_setCell_other _ _ _ _ (by simp)]
        exact World.cell?_setCell_same' _ _ _ (by rw [World.cell?_setCell_other _ _ _ _ (by simp), World.cell?_setCell_other _ _ _ _ (by simp), q2]; rfl)
      · rw [HSS.out]
        exact World.cell?_setCell_same' _ _ _ (by rw [World.cell?_setCell_other _ _ _ _ (by simp), World.cell?_setCell_other _ _ _ _ (by simp), World.cell?_setCell_other _ _ _ _ (by simp), q3]; rfl)
      · simp only [World.frozen?_setCell]; exact q4
      · simp only [World.frozen?_setCell]; exact q5
      · simp only [World.frozen?_setCell]; exact q6
      · simp only [World.frozen?_setCell]; exact q7
    | false =>
      have hc' : ¬ (0 : Int) < c := by rw [hlt] at hc; simpa using hc
      have hst : wstG (pre ++ [⟨(num, den, px, py), hgood⟩]) = (s0, s1, s2, s3) := by rw [HST.out]; unfold wstStep; simp only; rw [hlt, if_neg (by simp)]
      clear hc hlt
      have HSS := Lib.hid hst
      clear hst
      gi_wp2
      exact ⟨KeepsFrom.of_below HY.out, KP.of_below HY.out (by omega), by rw [HSS.out]; exact ⟨q0, q1, q2, q3, q4, q5, q6, q7⟩, HBY.out⟩
  case done =>
    rintro D ys W hD hys ⟨⟨d0, d1, d2, d3, d4, d5, d6, d7⟩, hBW⟩ hK
    have hmx : Try.prog.follows .mixedOrders = true := by kernel_rfl
    have l9 : w1.heap.size < W.heap.size := World.block_lt_of_cell? W _ d0
    have e0 : wstG ys = wstL (cornersL X Y V (endsL X x1 x2) (endsL Y y1 y2)) := by unfold wstG; rw [hys]
    gi_wp2
    gi_big_quiet_th (fail)
    gi_wp2
    have hK2 := (show (W.drewN nq).heap[D]? = W.heap[D]? by rw [World.heap_drewN]).trans hK
    refine ⟨by simp, .inl ⟨_, _, rfl, run_takeDeferred hK2, ?_⟩⟩
    have hb9 : Below w.heap.size w (W.drewN nq) := below_drewN hBW nq
    refine ⟨.tuple #[.int .i64 (wstL (cornersL X Y V (endsL X x1 x2) (endsL Y y1 y2))).2.2.1, .int .i64 (wstL (cornersL X Y V (endsL X x1 x2) (endsL Y y1 y2))).2.2.2, .int .i64 0], ?_, rfl, hb9.trans (belowK_b (w := w) (Nat.le_refl _) _ D _ _ (by omega) hK2 rfl rfl)⟩
    simp [results, Try.f51, go_sem]
  case stop =>
    rintro D c pre W _ _ h _
    exact h.elim

end Go.Proofs.Ytjdahphnmeaolaa

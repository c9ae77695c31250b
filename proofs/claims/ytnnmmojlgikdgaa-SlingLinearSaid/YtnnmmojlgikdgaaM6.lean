/- Contracts of the functions that the statement reaches: JSw, JSw2, JSw3, Rap, JSw4, JWorks, Open2, JKit. -/
import Derived.Test.YtnnmmojlgikdgaaM5
import Derived.Test.YtnnmmojlgikdgaaM4
import Derived.Laws.IdiomArrays
import Derived.Deep.Strs

/- Slings: Check, starts, hang, a tick. -/
namespace Go.Proofs.Ytnnmmojlgikdgaa
open Go.RowKit

theorem slE_no {N D d : Int} (h : slB N D d = false) : slE N D d = 70 := by unfold slE; rw [h]; rfl
theorem slE_yes {N D d : Int} (h : slB N D d = true) : slE N D d = 0 := by unfold slE; rw [h]; rfl

set_option maxRecDepth 100000 in
theorem slcheck_any (N D d : Int) (w : World) : Calls Try.prog 15 #[.agg #[.int .i64 N, .int .i64 D, .int .i64 d]] w fun e w' => e = .returned (.int .i64 (slE N D d)) ∧ Below w.heap.size w w' := by
  by_cases g1 : 1 ≤ d ∧ d ≤ 4
  · have G1 := Lib.hid (show wB 1 4 [d] = true by rw [wB_one]; simp [g1])
    obtain ⟨d1, d2⟩ := g1
    by_cases g2 : 0 ≤ N ∧ N ≤ 2 * d
    · have G2 := Lib.hid (show wB 0 (2 * d) [N] = true by rw [wB_one]; simp [g2])
      by_cases g3 : 0 ≤ D ∧ D ≤ d
      · have G3 := Lib.hid (show wB 0 d [D] = true by rw [wB_one]; simp [g3])
        rw [slE_yes (by unfold slB; simp [d1, d2, g2, g3])]
        clear g2 g3
        go_enter Try.func15, Try.ntmps15
        go_wp2_with (first
          | (go_at_call_of 49 (Value.int .i64 1); refine (within_any 1 4 _ 1 _ _ [d] _ rfl (le_maxLen (by omega)) (RI.new1 (by simp))).mono ?_; rintro e w2 ⟨rfl, rfl⟩; rw [G1.out])
          | (go_at_call_of 49 (Value.int .i64 d); refine (within_any 0 d _ 1 _ _ [D] _ rfl (le_maxLen (by omega)) (RI.new1 (by simp))).mono ?_; rintro e w2 ⟨rfl, rfl⟩; rw [G3.out])
          | (go_at_call 49; refine (within_any 0 (2 * d) _ 1 _ _ [N] _ rfl (le_maxLen (by omega)) (RI.new1 (by simp))).mono ?_; rintro e w2 ⟨rfl, rfl⟩; rw [G2.out]))
        go_ret
        exact ⟨rfl, by go_grown⟩
      · have G3 := Lib.hid (show wB 0 d [D] = false by rw [wB_one]; simpa using g3)
        rw [slE_no (by unfold slB; simp; intro _ _ _ _ h; omega)]
        clear g2 g3
        go_enter Try.func15, Try.ntmps15
        go_wp2_with (first
          | (go_at_call_of 49 (Value.int .i64 1); refine (within_any 1 4 _ 1 _ _ [d] _ rfl (le_maxLen (by omega)) (RI.new1 (by simp))).mono ?_; rintro e w2 ⟨rfl, rfl⟩; rw [G1.out])
          | (go_at_call_of 49 (Value.int .i64 d); refine (within_any 0 d _ 1 _ _ [D] _ rfl (le_maxLen (by omega)) (RI.new1 (by simp))).mono ?_; rintro e w2 ⟨rfl, rfl⟩; rw [G3.out])
          | (go_at_call 49; refine (within_any 0 (2 * d) _ 1 _ _ [N] _ rfl (le_maxLen (by omega)) (RI.new1 (by simp))).mono ?_; rintro e w2 ⟨rfl, rfl⟩; rw [G2.out]))
        go_ret
        exact ⟨rfl, by go_grown⟩
    · have G2 := Lib.hid (show wB 0 (2 * d) [N] = false by rw [wB_one]; simpa using g2)
      rw [slE_no (by unfold slB; simp; intro _ _ h; omega)]
      clear g2
      go_enter Try.func15, Try.ntmps15
      go_wp2_with (first
        | (go_at_call_of 49 (Value.int .i64 1); refine (within_any 1 4 _ 1 _ _ [d] _ rfl (le_maxLen (by omega)) (RI.new1 (by simp))).mono ?_; rintro e w2 ⟨rfl, rfl⟩; rw [G1.out])
        | (go_at_call 49; refine (within_any 0 (2 * d) _ 1 _ _ [N] _ rfl (le_maxLen (by omega)) (RI.new1 (by simp))).mono ?_; rintro e w2 ⟨rfl, rfl⟩; rw [G2.out]))
      go_ret
      exact ⟨rfl, by go_grown⟩
  · have G1 := Lib.hid (show wB 1 4 [d] = false by rw [wB_one]; simpa using g1)
    rw [slE_no (by unfold slB; simp; intro h; omega)]
    clear g1
    go_enter Try.func15, Try.ntmps15
    go_wp2_with (go_at_call 49; refine (within_any 1 4 _ 1 _ _ [d] _ rfl (le_maxLen (by omega)) (RI.new1 (by simp))).mono ?_; rintro e w2 ⟨rfl, rfl⟩; rw [G1.out])
    go_ret
    exact ⟨rfl, by go_grown⟩

set_option maxRecDepth 100000 in
theorem rslcheck_any (N D d : Int) (w : World) : Calls Try.prog 16 #[.agg #[.int .i64 N, .int .i64 D, .int .i64 d]] w fun e w' => e = .returned (.int .i64 (slE N D d)) ∧ Below w.heap.size w w' := by
  by_cases g1 : 1 ≤ d ∧ d ≤ 4
  · have G1 := Lib.hid (w7_yes g1.1 g1.2)
    obtain ⟨d1, d2⟩ := g1
    have G2 := Lib.hid (w7_any N 0 (2 * d))
    have G3 := Lib.hid (w7_any D 0 d)
    have HS := Lib.hid (show slB N D d = (decide (0 ≤ N ∧ N ≤ 2 * d) && decide (0 ≤ D ∧ D ≤ d)) by unfold slB; simp [d1, d2])
    generalize decide (0 ≤ N ∧ N ≤ 2 * d) = b2 at *
    generalize decide (0 ≤ D ∧ D ≤ d) = b3 at *
    cases b2 with
    | false =>
      rw [slE_no (by rw [HS.out]; rfl)]
      go_enter Try.func16, Try.ntmps16
      go_wp2_with (first
        | (go_at_call 50; with_reducible refine Calls.mono (G1.out _) ?_; rintro e w4 ⟨rfl, rfl⟩)
        | (go_at_call 50; with_reducible refine Calls.mono (G2.out _) ?_; rintro e w4 ⟨rfl, rfl⟩))
      go_ret
      exact ⟨rfl, by go_grown⟩
    | true =>
      rw [show slE N D d = if b3 then 0 else 70 by unfold slE; rw [HS.out]; rfl]
      cases b3 <;>
      · go_enter Try.func16, Try.ntmps16
        go_wp2_with (first
          | (go_at_call 50; with_reducible refine Calls.mono (G1.out _) ?_; rintro e w4 ⟨rfl, rfl⟩)
          | (go_at_call 50; with_reducible refine Calls.mono (G2.out _) ?_; rintro e w4 ⟨rfl, rfl⟩)
          | (go_at_call 50; with_reducible refine Calls.mono (G3.out _) ?_; rintro e w4 ⟨rfl, rfl⟩))
        go_ret
        exact ⟨rfl, by go_grown⟩
  · have G1 := Lib.hid (w7_no g1)
    rw [slE_no (by unfold slB; simp; intro h; omega)]
    clear g1
    go_enter Try.func16, Try.ntmps16
    go_wp2_with (go_at_call 50; with_reducible refine Calls.mono (G1.out _) ?_; rintro e w4 ⟨rfl, rfl⟩)
    go_ret
    exact ⟨rfl, by go_grown⟩

theorem isStart_any (a v : Int) (w : World) : Calls Try.prog 51 #[.agg #[.int .i64 a, .int .i64 v]] w fun e w' => e = .returned (.bool (staB a v)) ∧ Below w.heap.size w w' := by
  have HS := Lib.hid (show staB a v = wB (-1000) 1000 [a, v] from rfl)
  generalize staB a v = sb at *
  go_enter Try.func51, Try.ntmps51
  go_wp2_with (go_at_call 49; refine (within_any (-1000) 1000 _ 2 _ _ [a, v] _ rfl (le_maxLen (by omega)) (RI.new2 (by simp))).mono ?_; rintro e w2 ⟨rfl, rfl⟩; rw [← HS.out])
  go_ret
  exact ⟨rfl, by go_grown⟩

theorem started_any (a v : Int) (w : World) : Calls Try.prog 55 #[.agg #[.int .i64 a, .int .i64 v]] w fun e w' => e = .returned (.bool (staB a v)) ∧ Below w.heap.size w w' := by
  have HS := Lib.hid (show staB a v = (decide (-1000 ≤ a ∧ a ≤ 1000) && decide (-1000 ≤ v ∧ v ≤ 1000)) by unfold staB wB; simp)
  have G1 := Lib.hid (w7_any a (-1000) 1000)
  have G2 := Lib.hid (w7_any v (-1000) 1000)
  generalize staB a v = sb at *
  generalize decide (-1000 ≤ a ∧ a ≤ 1000) = b1 at *
  generalize decide (-1000 ≤ v ∧ v ≤ 1000) = b2 at *
  cases b1 <;>
  · go_enter Try.func55, Try.ntmps55
    go_wp2_with (first
      | (go_at_call 50; with_reducible refine Calls.mono (G1.out _) ?_; rintro e w4 ⟨rfl, rfl⟩)
      | (go_at_call 50; with_reducible refine Calls.mono (G2.out _) ?_; rintro e w4 ⟨rfl, rfl⟩))
    go_ret
    exact ⟨ret_bool (by rw [HS.out]; rfl), by go_grown⟩

theorem hang_any (N D d a v : Int) (w : World) : Calls Try.prog 52 #[.agg #[.int .i64 N, .int .i64 D, .int .i64 d], .agg #[.int .i64 a, .int .i64 v]] w fun e w' => e = .returned (.agg #[.int .i64 N, .int .i64 D, .int .i64 d, .int .i64 a, .int .i64 v, .int .i64 1]) ∧ Below w.heap.size w w' := by
  go_enter Try.func52, Try.ntmps52
  go_wp2
  go_returns
  exact ⟨rfl, by go_grown⟩

/-- A load in a box. -/
def WL (W : World) (g : Nat) (N D d : Int) (s : Int × Int × Int) : Prop := W.heap[g]? = some (.cells #[.int .i64 N, .int .i64 D, .int .i64 d, .int .i64 s.1, .int .i64 s.2.1, .int .i64 s.2.2] 89 (0, 0))
theorem WL.lt {W : World} {g : Nat} {N D d : Int} {s : Int × Int × Int} (h : WL W g N D d s) : g < W.heap.size := lt_of_block h
theorem WL.stay {W W' : World} {g : Nat} {N D d : Int} {s : Int × Int × Int} (h : WL W g N D d s) (hb : Below W.heap.size W W') : WL W' g N D d s := (hb.block g h.lt).trans h
theorem grown_set {w : World} {g k : Nat} {v : Value} : w.grownBy (w.setCell ⟨g, k, none⟩ v) (some g) :=
  ⟨rfl, rfl, rfl, by simp, fun i _ hne => Below.heap_setCell _ _ _ _ (fun e => hne (by rw [e]))⟩
theorem grown_drew {w w' : World} {r : Option Nat} (h : w.grownBy w' r) : w.grownBy w'.drew r := ⟨h.os, h.tape, h.output, h.size, h.block⟩
theorem grown_trans {w w' w'' : World} {r : Option Nat} (h : w.grownBy w' r) (k : w'.grownBy w'' r) : w.grownBy w'' r :=
  ⟨k.os.trans h.os, k.tape.trans h.tape, k.output.trans h.output, Nat.le_trans h.size k.size, fun i hi hne => (k.block i (Nat.lt_of_lt_of_le hi h.size) hne).trans (h.block i hi hne)⟩

set_option maxRecDepth 100000 in
set_option maxHeartbeats 1000000 in
theorem swing_any (g : Nat) (N D d a v e gust : Int) (w : World) (hs : slB N D d = true) (ha : -1125899906842624 ≤ a ∧ a ≤ 1125899906842624) (hv : -1125899906842624 ≤ v ∧ v ≤ 1125899906842624) (he : 1 ≤ e ∧ e ≤ 4294967296) (hg : -100 ≤ gust ∧ gust ≤ 100) (h : WL w g N D d (a, v, e)) :
    Calls Try.prog 53 #[.pointer (some ⟨g, 0, none⟩), .int .i64 gust] w fun en w' => en = .returned (.tuple #[]) ∧ WL w' g N D d (swS N D d (a, v, e) gust) ∧ w.grownBy w' (some g) := by
  obtain ⟨⟨d1, d2⟩, ⟨n1, n2⟩, ⟨D1, D2⟩⟩ := slB_get hs
  obtain ⟨a1, a2⟩ := ha
  obtain ⟨v1, v2⟩ := hv
  obtain ⟨e1, e2⟩ := he
  obtain ⟨g1, g2⟩ := hg
  clear hs
  obtain ⟨ed, hed⟩ : ∃ x, e * d = x := ⟨_, rfl⟩
  have b0 : 0 ≤ e * d ∧ e * d ≤ 4294967296 * 4 := ⟨Int.mul_nonneg (by omega) (by omega), Int.mul_le_mul e2 d2 (by omega) (by omega)⟩
  rw [hed] at b0
  obtain ⟨dv, hdv⟩ : ∃ x, (d - D) * v = x := ⟨_, rfl⟩
  have b1 := mul_bd (a := d - D) (A := 4) (u := v) (by omega) (by omega) v1 v2 (by omega)
  rw [hdv] at b1
  obtain ⟨na, hna⟩ : ∃ x, N * a = x := ⟨_, rfl⟩
  have b2 := mul_bd (a := N) (A := 8) (u := a) (by omega) (by omega) a1 a2 (by omega)
  rw [hna] at b2
  obtain ⟨ge, hge⟩ : ∃ x, gust * ed = x := ⟨_, rfl⟩
  have b3 := mul_bd (a := ed) (A := 17179869184) (u := gust) (by omega) (by omega) g1 g2 (by omega)
  rw [show ed * gust = ge by rw [Int.mul_comm]; exact hge] at b3
  obtain ⟨da, hda⟩ : ∃ x, d * a = x := ⟨_, rfl⟩
  have b4 := mul_bd (a := d) (A := 4) (u := a) (by omega) (by omega) a1 a2 (by omega)
  rw [hda] at b4
  have HW : Hid (swS N D d (a, v, e) gust = (da + (dv - na + ge), dv - na + ge, ed)) := by
    refine Lib.hid ?_
    unfold swS
    dsimp only
    rw [hed, hdv, hna, hge, hda]
  generalize swS N D d (a, v, e) gust = s' at *
  obtain ⟨b01, b02⟩ := b0
  obtain ⟨b11, b12⟩ := b1
  obtain ⟨b21, b22⟩ := b2
  obtain ⟨b31, b32⟩ := b3
  obtain ⟨b41, b42⟩ := b4
  have i1 : IntKind.i64.wrap (e * d) = ed := by rw [hed]; exact IntWalk.i64_in _ (by omega)
  have i2 : IntKind.i64.wrap (d - D) = d - D := IntWalk.i64_in _ (by omega)
  have i3 : IntKind.i64.wrap ((d - D) * v) = dv := by rw [hdv]; exact IntWalk.i64_in _ (by omega)
  have i4 : IntKind.i64.wrap (N * a) = na := by rw [hna]; exact IntWalk.i64_in _ (by omega)
  have i5 : IntKind.i64.wrap (dv - na) = dv - na := IntWalk.i64_in _ (by omega)
  have i6 : IntKind.i64.wrap (gust * ed) = ge := by rw [hge]; exact IntWalk.i64_in _ (by omega)
  have i7 : IntKind.i64.wrap (dv - na + ge) = dv - na + ge := IntWalk.i64_in _ (by omega)
  have i8 : IntKind.i64.wrap (d * a) = da := by rw [hda]; exact IntWalk.i64_in _ (by omega)
  have i9 : IntKind.i64.wrap (da + (dv - na + ge)) = da + (dv - na + ge) := IntWalk.i64_in _ (by omega)
  clear hed hdv hna hge hda a1 a2 v1 v2 e1 e2 g1 g2 b01 b02 b11 b12 b21 b22 b31 b32 b41 b42 d1 d2 n1 n2 D1 D2
  have c0 := cellOf (o := 0) h rfl
  have c1 := cellOf (o := 1) h rfl
  have c2 := cellOf (o := 2) h rfl
  have c3 := cellOf (o := 3) h rfl
  have c4 := cellOf (o := 4) h rfl
  have c5 := cellOf (o := 5) h rfl
  have f5 := freeOf (o := 5) h
  have hlt := h.lt
  have HL := Lib.hid h
  clear h
  go_enter Try.func53, Try.ntmps53
  go_upto_region 0 with fail
  refine region_tail 12 (by kernel_rfl) (by kernel_rfl) ?_
  simp only [List.take_succ_cons, List.take_zero, List.drop_succ_cons, List.drop_zero]
  repeat still_step
  refine wpStill_nil ?_
  go_upto_region 1 with fail
  have h1 : WL (w.setCell ⟨g, 5, none⟩ (.int .i64 ed)).drew g N D d (a, v, ed) := (block_setCell (o := 5) (.int .i64 ed) HL.out).trans rfl
  have HG1 := Lib.hid (show w.grownBy (w.setCell ⟨g, 5, none⟩ (.int .i64 ed)).drew (some g) from grown_drew grown_set)
  clear c0 c1 c2 c3 c4 c5 f5 hlt HL
  generalize (w.setCell _ _).drew = wa at *
  have c0 := cellOf (o := 0) h1 rfl
  have c1 := cellOf (o := 1) h1 rfl
  have c2 := cellOf (o := 2) h1 rfl
  have c3 := cellOf (o := 3) h1 rfl
  have c4 := cellOf (o := 4) h1 rfl
  have c5 := cellOf (o := 5) h1 rfl
  have f4 := freeOf (o := 4) h1
  have hlt := h1.lt
  have HL := Lib.hid h1
  clear h1
  refine region_tail 37 (by kernel_rfl) (by kernel_rfl) ?_
  simp only [List.take_succ_cons, List.take_zero, List.drop_succ_cons, List.drop_zero]
  repeat still_step
  refine wpStill_nil ?_
  go_upto_region 2 with fail
  have h2 : WL (wa.setCell ⟨g, 4, none⟩ (.int .i64 (dv - na + ge))).drew g N D d (a, dv - na + ge, ed) := (block_setCell (o := 4) (.int .i64 (dv - na + ge)) HL.out).trans rfl
  have HG2 := Lib.hid (grown_trans HG1.out (show wa.grownBy (wa.setCell ⟨g, 4, none⟩ (.int .i64 (dv - na + ge))).drew (some g) from grown_drew grown_set))
  clear c0 c1 c2 c3 c4 c5 f4 hlt HL HG1
  generalize (wa.setCell _ _).drew = wb at *
  have c2 := cellOf (o := 2) h2 rfl
  have c3 := cellOf (o := 3) h2 rfl
  have c4 := cellOf (o := 4) h2 rfl
  have f3 := freeOf (o := 3) h2
  have hlt := h2.lt
  have HL := Lib.hid h2
  clear h2
  refine region_tail 18 (by kernel_rfl) (by kernel_rfl) ?_
  simp only [List.take_succ_cons, List.take_zero, List.drop_succ_cons, List.drop_zero]
  repeat still_step
  refine wpStill_nil ?_
  have h3 : WL (wb.setCell ⟨g, 3, none⟩ (.int .i64 (da + (dv - na + ge)))).drew g N D d (da + (dv - na + ge), dv - na + ge, ed) := (block_setCell (o := 3) (.int .i64 (da + (dv - na + ge))) HL.out).trans rfl
  have HG3 := Lib.hid (grown_trans HG2.out (show wb.grownBy (wb.setCell ⟨g, 3, none⟩ (.int .i64 (da + (dv - na + ge)))).drew (some g) from grown_drew grown_set))
  have H3 := Lib.hid h3
  clear h3
  go_wp2
  go_end0
  exact ⟨rfl, by rw [HW.out]; exact H3.out, HG3.out⟩

/-! ### Fractions -/
theorem fraction_any (num den : Int) (w : World) (h1 : -4611686018427387904 ≤ num) (h2 : num ≤ 4611686018427387904) (h3 : 1 ≤ den) (h4 : den ≤ 4611686018427387904) :
    Calls Try.prog 64 #[.int .i64 num, .int .i64 den] w fun e w' => e = .returned (.agg #[.int .i64 (lowN num den).1, .int .i64 (lowN num den).2]) ∧ Below w.heap.size w w' := by
  have HL := Lib.hid (fun W => lowest_any num den W h1 h2 h3 h4)
  generalize lowN num den = l at *
  obtain ⟨p, q⟩ := l
  dsimp only at HL ⊢
  go_enter Try.func64, Try.ntmps64
  have s0 : (w.alloc (.cells #[.int .i64 0, .int .i64 0] 24)).heap[w.heap.size]? = some (.cells #[.int .i64 0, .int .i64 0] 24 (0, 0)) := by show (w.heap.push _)[w.heap.size]? = _; simp
  have HS := Lib.hid s0
  clear s0
  go_wp2_with (go_at_call 99; refine Calls.mono (HL.out _) ?_; rintro e w3 ⟨rfl, hb3⟩; have z := (hb3.block _ (lt_of_block HS.out)).trans HS.out; have z0 := cellOf (o := 0) z rfl; have z1 := cellOf (o := 1) z rfl; have f0 := freeOf (o := 0) z; have f1 := freeOf (o := 1) z; have HZ := Lib.hid z; have HB3 := Lib.hid (Below.trans (show Below w.heap.size w _ by go_grown) (hb3.mono (by simp <;> omega))); clear hb3 z)
  have y0 : ((w3.setCell ⟨w.heap.size, 0, none⟩ (.int .i64 p)).setCell ⟨w.heap.size, 1, none⟩ (.int .i64 q)).cell? ⟨w.heap.size, 0, none⟩ = some (.int .i64 p) := cellOf (o := 0) ((block_setCell (o := 1) (.int .i64 q) (block_setCell (o := 0) (.int .i64 p) HZ.out))) rfl
  have y1 : ((w3.setCell ⟨w.heap.size, 0, none⟩ (.int .i64 p)).setCell ⟨w.heap.size, 1, none⟩ (.int .i64 q)).cell? ⟨w.heap.size, 1, none⟩ = some (.int .i64 q) := cellOf (o := 1) ((block_setCell (o := 1) (.int .i64 q) (block_setCell (o := 0) (.int .i64 p) HZ.out))) rfl
  have HB4 := Lib.hid ((HB3.out.setCell (p := ⟨w.heap.size, 0, none⟩) (Nat.le_refl _) (.int .i64 p)).setCell (p := ⟨w.heap.size, 1, none⟩) (Nat.le_refl _) (.int .i64 q))
  generalize (w3.setCell _ _).setCell _ _ = w4 at *
  exact bodyPost_ret (v := .agg #[.int .i64 p, .int .i64 q]) (by simp [results, Try.results64, go_sem, y0, y1]) rfl ⟨rfl, HB4.out⟩

/-- The displacement of a load. -/
theorem displacement_any (g : Nat) (N D d : Int) (s : Int × Int × Int) (w : World) (h1 : -4611686018427387904 ≤ s.1) (h2 : s.1 ≤ 4611686018427387904) (h3 : 1 ≤ s.2.2) (h4 : s.2.2 ≤ 4611686018427387904) (h : WL w g N D d s) :
    Calls Try.prog 54 #[.pointer (some ⟨g, 0, none⟩)] w fun e w' => e = .returned (.agg #[.int .i64 (lowN s.1 s.2.2).1, .int .i64 (lowN s.1 s.2.2).2]) ∧ Below w.heap.size w w' := by
  have HL := Lib.hid (fun W => fraction_any s.1 s.2.2 W h1 h2 h3 h4)
  obtain ⟨a, v, e⟩ := s
  dsimp only at HL ⊢
  generalize lowN a e = l at *
  obtain ⟨p, q⟩ := l
  dsimp only at HL ⊢
  clear h1 h2 h3 h4
  have hq := h.lt
  have c3 := cell_keep ((Below.refl _ _).alloc (Nat.le_refl _) (.cells #[.int .i64 0, .int .i64 0] 24)) (cellOf (o := 3) h rfl)
  have c5 := cell_keep ((Below.refl _ _).alloc (Nat.le_refl _) (.cells #[.int .i64 0, .int .i64 0] 24)) (cellOf (o := 5) h rfl)
  have bk0 : (w.alloc (.cells #[.int .i64 0, .int .i64 0] 24)).heap[w.heap.size]? = some (.cells #[.int .i64 0, .int .i64 0] 24 (0, 0)) := by show (w.heap.push _)[w.heap.size]? = _; simp
  have HB0 := Lib.hid ((Below.refl w.heap.size w).alloc (Nat.le_refl _) (.cells #[.int .i64 0, .int .i64 0] 24))
  clear h
  go_enter Try.func54, Try.ntmps54
  go_upto_region 1 with fail
  generalize w.alloc _ = w0 at *
  obtain ⟨Q, hQ⟩ : ∃ q9 : Nat → Value → World → Prop, q9 = QG [some (.pointer (some ⟨g, 0, none⟩)), some (.pointer (some ⟨g, 0, none⟩)), some (.pointer (some ⟨g, 3, none⟩)), some (.int .i64 a), some (.pointer (some ⟨g, 0, none⟩)), some (.pointer (some ⟨g, 0, none⟩)), some (.pointer (some ⟨g, 5, none⟩)), some (.int .i64 e), some (.agg #[.int .i64 p, .int .i64 q]), none] (fun _ _ _ => True) := ⟨_, rfl⟩
  have hst : Stays Q := by rw [hQ]; exact QG.stays (fun _ _ _ _ _ _ => trivial)
  have HQ := Lib.hid hQ
  clear hQ
  obtain ⟨fX, hfX⟩ : ∃ f9 : World → World, f9 = (fun y => ((y.setCell ⟨w.heap.size, 0, none⟩ (.int .i64 p)).setCell ⟨w.heap.size, 1, none⟩ (.int .i64 q))) := ⟨_, rfl⟩
  have HfX := Lib.hid hfX
  clear hfX
  refine wpIn_wide.1 (region_inv2 (n := 9) (by kernel_rfl) (RT Q w0 9 fX) (by kernel_rfl) rfl (RT.start _ _ _ _ _) ?hstep ?hend)
  case hstep =>
    intro i' o ho val L b' x hF hR hpre hl
    match i', ho with
    | 0, ho =>
      simp at ho; subst ho; refine step_plain rfl ?_; have hN := hF.later hl 9 rfl (e := ⟨0, .phase⟩) (by simp) rfl rfl
      have hR := hR.1 hN
      have e0 := hF.was 0 (by kernel_rfl) rfl; have hgoal := RT.go (f := fX) hR hst HQ 0 rfl (by decide) hN; clear hF hpre hl hR hN; go_simp; exact ⟨_, rfl, hgoal _ _ (Below.refl _ _) rfl⟩
    | 1, ho =>
      simp at ho; subst ho; refine step_plain rfl ?_; have hN := hF.later hl 9 rfl (e := ⟨1, .phase⟩) (by simp) rfl rfl
      have hR := hR.1 hN
      have e3 := hF.gv hR.2 HQ 0 rfl (hpre ⟨0, .data⟩ (by simp) rfl) rfl; have hgoal := RT.go (f := fX) hR hst HQ 1 rfl (by decide) hN; clear hF hpre hl hR hN; go_simp; exact ⟨_, rfl, hgoal _ _ (Below.refl _ _) rfl⟩
    | 2, ho =>
      simp at ho; subst ho; refine step_plain rfl ?_; have hN := hF.later hl 9 rfl (e := ⟨2, .phase⟩) (by simp) rfl rfl
      have hR := hR.1 hN
      have e4 := hF.gv hR.2 HQ 1 rfl (hpre ⟨1, .data⟩ (by simp) rfl) rfl; have hgoal := RT.go (f := fX) hR hst HQ 2 rfl (by decide) hN; clear hF hpre hl hR hN; go_simp; exact ⟨_, rfl, hgoal _ _ (Below.refl _ _) rfl⟩
    | 3, ho =>
      simp at ho; subst ho; refine step_plain rfl ?_; have hN := hF.later hl 9 rfl (e := ⟨3, .phase⟩) (by simp) rfl rfl
      have hR := hR.1 hN
      have e5 := hF.gv hR.2 HQ 2 rfl (hpre ⟨2, .data⟩ (by simp) rfl) rfl; have hgoal := RT.go (f := fX) hR hst HQ 3 rfl (by decide) hN; have q0 := cell_keep hR.1 c3; clear hF hpre hl hR hN; go_simp; exact ⟨_, rfl, hgoal _ _ (Below.refl _ _) rfl⟩
    | 4, ho =>
      simp at ho; subst ho; refine step_plain rfl ?_; have hN := hF.later hl 9 rfl (e := ⟨4, .phase⟩) (by simp) rfl rfl
      have hR := hR.1 hN
      have e0 := hF.was 0 (by kernel_rfl) rfl; have hgoal := RT.go (f := fX) hR hst HQ 4 rfl (by decide) hN; clear hF hpre hl hR hN; go_simp; exact ⟨_, rfl, hgoal _ _ (Below.refl _ _) rfl⟩
    | 5, ho =>
      simp at ho; subst ho; refine step_plain rfl ?_; have hN := hF.later hl 9 rfl (e := ⟨5, .phase⟩) (by simp) rfl rfl
      have hR := hR.1 hN
      have e7 := hF.gv hR.2 HQ 4 rfl (hpre ⟨4, .data⟩ (by simp) rfl) rfl; have hgoal := RT.go (f := fX) hR hst HQ 5 rfl (by decide) hN; clear hF hpre hl hR hN; go_simp; exact ⟨_, rfl, hgoal _ _ (Below.refl _ _) rfl⟩
    | 6, ho =>
      simp at ho; subst ho; refine step_plain rfl ?_; have hN := hF.later hl 9 rfl (e := ⟨6, .phase⟩) (by simp) rfl rfl
      have hR := hR.1 hN
      have e8 := hF.gv hR.2 HQ 5 rfl (hpre ⟨5, .data⟩ (by simp) rfl) rfl; have hgoal := RT.go (f := fX) hR hst HQ 6 rfl (by decide) hN; clear hF hpre hl hR hN; go_simp; exact ⟨_, rfl, hgoal _ _ (Below.refl _ _) rfl⟩
    | 7, ho =>
      simp at ho; subst ho; refine step_plain rfl ?_; have hN := hF.later hl 9 rfl (e := ⟨7, .phase⟩) (by simp) rfl rfl
      have hR := hR.1 hN
      have e9 := hF.gv hR.2 HQ 6 rfl (hpre ⟨6, .data⟩ (by simp) rfl) rfl; have hgoal := RT.go (f := fX) hR hst HQ 7 rfl (by decide) hN; have q0 := cell_keep hR.1 c5; clear hF hpre hl hR hN; go_simp; exact ⟨_, rfl, hgoal _ _ (Below.refl _ _) rfl⟩
    | 8, ho =>
      simp at ho; subst ho; refine step_plain rfl ?_; have hN := hF.later hl 9 rfl (e := ⟨8, .data⟩) (by simp) rfl rfl
      have hR := hR.1 hN
      have e6 := hF.gv hR.2 HQ 3 rfl (hpre ⟨3, .data⟩ (by simp) rfl) rfl; have e10 := hF.gv hR.2 HQ 7 rfl (hpre ⟨7, .data⟩ (by simp) rfl) rfl; have hgoal := RT.go (f := fX) hR hst HQ 8 rfl (by decide) hN
      have hM := Lib.hid hR.1
      clear hF hpre hl hR hN; go_simp
      refine ⟨trivial, ?_⟩
      refine CallsIn.mono (callsIn_wide.2 (HL.out _)) ?_
      rintro e w9 ⟨rfl, hb9⟩
      exact ⟨_, rfl, hgoal _ _ hb9 rfl⟩
    | 9, ho =>
      simp at ho; subst ho; refine step_plain rfl ?_; have hN := hF.none2 hl (by decide)
      have hls : 9 < L.size := by rw [hF.lsize]; decide
      have hR := hR.1 hN
      have e2 := hF.was 2 (by kernel_rfl) rfl; have e11 := hF.gv hR.2 HQ 8 rfl (hpre ⟨8, .data⟩ (by simp) rfl) rfl
      have qb := (hR.1.block w.heap.size (lt_of_block bk0)).trans bk0
      have g0 := cellOf (o := 0) qb rfl; have f0 := freeOf (o := 0) qb; have g1 := cellOf (o := 1) qb rfl; have f1 := freeOf (o := 1) qb; have hgoal := RT.store (f := fX) (v := undef) hR hls
      have hq := lt_of_block qb
      have HG := Lib.hid hgoal
      clear hF hpre hl hR hls hN qb hgoal; go_simp
      exact ⟨undef, by have h9 := HG.out; rw [HfX.out] at h9 ⊢; exact h9⟩
    | i + 10, ho => simp at ho
  case hend =>
    intro val L b' x hF hall hR
    have e := hF.all (by kernel_rfl) hall
    obtain ⟨y, hy, ey, hq⟩ := hR.done (hall 9 (by decide))
    rw [HfX.out] at ey; dsimp only at ey
    have bk := (block_setCell (o := 1) (.int .i64 q) (block_setCell (o := 0) (.int .i64 p) ((hy.block w.heap.size (lt_of_block bk0)).trans bk0)))
    rw [← ey] at bk
    have hX := Lib.hid (fun n9 w9 (h9 : Below n9 w9 w0) (hn9 : n9 ≤ w.heap.size) => show Below n9 w9 x by rw [ey]; exact (((h9.trans (hy.mono (by have := lt_of_block bk0; omega))).setCell (p := ⟨w.heap.size, 0, none⟩) hn9 (.int .i64 p)).setCell (p := ⟨w.heap.size, 1, none⟩) hn9 (.int .i64 q)))
    clear hF hall hR hst HfX hq hy ey HQ 
    subst e
    simp [final, dstOf, List.range, List.range.loop]
    have y0 := cellOf (o := 0) bk rfl
    have y1 := cellOf (o := 1) bk rfl
    have HB4 := Lib.hid (hX.out _ _ HB0.out (Nat.le_refl _))
    clear bk hX
    go_wp2
    exact bodyPost_ret (v := .agg #[.int .i64 p, .int .i64 q]) (by simp [results, Try.results54, go_sem, y0, y1]) rfl ⟨rfl, HB4.out⟩
end Go.Proofs.Ytnnmmojlgikdgaa

/- Swings of the reference: lowest, power, swung; sameFractions. -/
namespace Go.Proofs.Ytnnmmojlgikdgaa
open Go.RowKit

set_option maxRecDepth 100000 in
theorem rlowest7_any (num den : Int) (w : World) (h1 : -4611686018427387904 ≤ num) (h2 : num ≤ 4611686018427387904) (h3 : 1 ≤ den) (h4 : den ≤ 4611686018427387904) :
    Calls Try.prog 57 #[.int .i64 num, .int .i64 den] w fun e w' => e = .returned (.agg #[.int .i64 (lowN num den).1, .int .i64 (lowN num den).2]) ∧ Below w.heap.size w w' := by
  have hg := gcI_pos (a := num) h3
  have HA := Lib.hid (gcI_abs num den)
  have bk0 : (w.alloc (.cells #[.int .i64 0, .int .i64 0] 24)).heap[w.heap.size]? = some (.cells #[.int .i64 0, .int .i64 0] 24 (0, 0)) := by show (w.heap.push _)[w.heap.size]? = _; simp
  have HBK := Lib.hid bk0
  have HB0 := Lib.hid ((Below.refl w.heap.size w).alloc (Nat.le_refl _) (.cells #[.int .i64 0, .int .i64 0] 24))
  clear bk0
  go_enter Try.func57, Try.ntmps57
  go_wp2
  generalize w.alloc _ = w0 at *
  go_loop [5, 6] (fun a b => ∃ x y : Int, a = .int .i64 x ∧ b = .int .i64 y ∧ 0 ≤ x ∧ x ≤ 4611686018427387904 ∧ 0 ≤ y ∧ y ≤ 4611686018427387904 ∧ gcI x y = gcI num den) (fun _ b => (intOf b).toNat)
  case atStart => exact ⟨max num (-num), den, by go_num, rfl, by omega, by omega, by omega, by omega, HA.out⟩
  case round =>
    obtain ⟨x, y, rfl, rfl, hx0, hx1, hy0, hy1, hgc⟩ := hrel
    have HG := Lib.hid hgc
    clear hgc
    by_cases hy : y = 0
    · subst hy
      have e := HG.out
      rw [gcI_zero hx0] at e
      subst e
      have HT := Lib.hid (tdiv_bd (b := gcI num den) (show -4611686018427387904 ≤ num by omega) (show num ≤ 4611686018427387904 by omega))
      have j1 := HT.out.1
      have j2 := HT.out.2
      have j3 : IntKind.i64.wrap (num.tdiv (gcI num den)) = num.tdiv (gcI num den) := IntWalk.i64_in _ (by omega)
      have j4 : ((gcI num den : Int) == 0) = false := by simp; omega
      have j5 := Int.ediv_nonneg (show 0 ≤ den by omega) (show 0 ≤ gcI num den by omega)
      have j6 := Int.ediv_le_self (gcI num den) (show 0 ≤ den by omega)
      have j7 : ¬ gcI num den = 0 := by omega
      have j8 : IntKind.i64.wrap (den.tdiv (gcI num den)) = den / gcI num den := by rw [Int.tdiv_eq_ediv_of_nonneg (by omega)]; exact IntWalk.i64_in _ (by omega)
      have c0 := cellOf (o := 0) HBK.out rfl
      have c1 := cellOf (o := 1) HBK.out rfl
      have f0 := freeOf (o := 0) HBK.out
      have f1 := freeOf (o := 1) HBK.out
      have hlt := lt_of_block HBK.out
      go_upto_region 6 with fail
      refine region_tail 7 (by kernel_rfl) (by kernel_rfl) ?_
      simp only [List.take_succ_cons, List.take_zero, List.drop_succ_cons, List.drop_zero]
      repeat still_step
      refine wpStill_nil ?_
      have HL := Lib.hid (show lowN num den = (num.tdiv (gcI num den), den / gcI num den) from rfl)
      have HBS := Lib.hid (block_setCell (o := 1) (.int .i64 (den / gcI num den)) (block_setCell (o := 0) (.int .i64 (num.tdiv (gcI num den))) HBK.out))
      have HBB := Lib.hid ((HB0.out.setCell (p := ⟨w.heap.size, 0, none⟩) (Nat.le_refl _) (.int .i64 (num.tdiv (gcI num den)))).setCell (p := ⟨w.heap.size, 1, none⟩) (Nat.le_refl _) (.int .i64 (den / gcI num den)))
      go_wp2
      clear c0 c1 f0 f1 hlt
      have y0 := cellOf (o := 0) HBS.out rfl
      have y1 := cellOf (o := 1) HBS.out rfl
      generalize num.tdiv (gcI num den) = p at *
      generalize den / gcI num den = q at *
      generalize (w0.setCell _ _).setCell _ _ = wz at *
      have z0 : wz.drew.cell? ⟨w.heap.size, 0, none⟩ = some (.int .i64 p) := y0
      have z1 : wz.drew.cell? ⟨w.heap.size, 1, none⟩ = some (.int .i64 q) := y1
      rw [HL.out]
      exact bodyPost_ret (v := .agg #[.int .i64 p, .int .i64 q]) (by simp [results, Try.results57, go_sem, z0, z1]) rfl ⟨rfl, HBB.out.drew⟩
    · have j2 := Int.emod_nonneg x hy
      have j3 := Int.emod_lt_of_pos x (show 0 < y by omega)
      have j4 : ((y : Int) == 0) = false := by simpa using hy
      have j7 : 0 < y := by omega
      go_wp2
      go_round
      case rel => exact ⟨y, x % y, rfl, rfl, by omega, by omega, by omega, by omega, by rw [gcI_step]; exact HG.out⟩
      case measure => simp [intOf]; omega

theorem power_any (d : Int) (n : Nat) (w : World) (h1 : 1 ≤ d) (h2 : d ≤ 4) (hn : n ≤ 16) : Calls Try.prog 58 #[.int .i64 d, .int .i64 n] w fun e w' => e = .returned (.int .i64 (powI d n)) ∧ w = w' := by
  go_enter Try.func58, Try.ntmps58
  go_wp2
  go_loop [5, 6] (fun o i => ∃ k : Nat, k ≤ n ∧ i = .int .i64 k ∧ o = .int .i64 (powI d k)) (fun _ i => n - (intOf i).toNat)
  case atStart => exact ⟨0, Nat.zero_le _, rfl, rfl⟩
  case round =>
    obtain ⟨k, hk, rfl, rfl⟩ := hrel
    by_cases hlt : k < n
    · have p1 := powI_bd h1 h2 k
      have p2 := p1.2 (by omega)
      have p3 := powI_4 (show k ≤ 16 by omega)
      have p4 := (powI_bd h1 h2 (k + 1))
      have p5 := p4.2 (by omega)
      have p6 := powI_4 (show k + 1 ≤ 16 by omega)
      have HS := Lib.hid (show powI d k * d = powI d (k + 1) from rfl)
      have q1 := p1.1
      have q2 := p4.1
      clear p1 p4
      obtain ⟨y, hy⟩ : ∃ y, powI d (k + 1) = y := ⟨_, rfl⟩
      rw [hy] at p5 q2 HS
      have HY := Lib.hid hy
      clear hy
      generalize powI d k = x at *
      have j1 : IntKind.i64.wrap (x * d) = y := by rw [HS.out]; exact IntWalk.i64_in _ (by omega)
      have j2 : x * d = y := HS.out
      go_wp2
      go_round
      case rel => exact ⟨k + 1, by omega, by go_num, by rw [HY.out]⟩
      case measure => simp [intOf]; omega
    · obtain rfl : k = n := by omega
      go_wp2
      go_ret
      exact ⟨rfl, rfl⟩

/-- The displacements from the start on, not reduced. -/
def swList (N D d a v : Int) (G : List Int) (k : Nat) : List Int := (List.range (k + 1)).map fun j => (swK N D d a v G j).1
theorem swList_succ (N D d a v : Int) (G : List Int) (k : Nat) : swList N D d a v G (k + 1) = swList N D d a v G k ++ [(swK N D d a v G (k + 1)).1] := by
  unfold swList
  rw [List.range_succ]
  simp
theorem swList_len (N D d a v : Int) (G : List Int) (k : Nat) : (swList N D d a v G k).length = k + 1 := by simp [swList]

set_option maxRecDepth 100000 in
set_option maxHeartbeats 1000000 in
theorem swung_any (N D d a v : Int) (A : Option Addr) (n c B : Nat) (G : List Int) (w : World) (hs : slB N D d = true) (hl : G.length = n) (h16 : n ≤ 16) (hG : wB (-100) 100 G = true) (hsw : SwB N D d a v G) (hB : B ≤ w.heap.size) (hr : RI w B A G) :
    Calls Try.prog 56 #[.agg #[.int .i64 N, .int .i64 D, .int .i64 d], .int .i64 a, .int .i64 v, .slice A n c] w fun e w' => ∃ u, e = .returned u ∧ QI (swList N D d a v G n) u w' ∧ Below w.heap.size w w' := by
  obtain ⟨⟨d1, d2⟩, ⟨n1, n2⟩, ⟨D1, D2⟩⟩ := slB_get hs
  subst hl
  have HSW := Lib.hid hsw
  have HGB := Lib.hid hG
  have HR := Lib.hid hr
  clear hs hsw hG hr
  have s0 : (w.alloc (.cells #[.int .i64 N, .int .i64 D, .int .i64 d] 23)).cell? ⟨w.heap.size, 0, none⟩ = some (.int .i64 N) := by rw [cell_newest]; rfl
  have s1 : (w.alloc (.cells #[.int .i64 N, .int .i64 D, .int .i64 d] 23)).cell? ⟨w.heap.size, 1, none⟩ = some (.int .i64 D) := by rw [cell_newest]; rfl
  have s2 : (w.alloc (.cells #[.int .i64 N, .int .i64 D, .int .i64 d] 23)).cell? ⟨w.heap.size, 2, none⟩ = some (.int .i64 d) := by rw [cell_newest]; rfl
  have HS := Lib.hid (And.intro s0 (And.intro s1 s2))
  have HB0 := Lib.hid ((Below.refl w.heap.size w).alloc (Nat.le_refl _) (.cells #[.int .i64 N, .int .i64 D, .int .i64 d] 23))
  clear s0 s1 s2
  go_enter Try.func56, Try.ntmps56
  go_upto_region 1 with fail
  have hsz : w.heap.size + 1 = (w.alloc (.cells #[.int .i64 N, .int .i64 D, .int .i64 d] 23)).heap.size := by simp
  have HSZ := Lib.hid hsz
  clear hsz
  generalize w.alloc _ = w1 at *
  have hown0 : OI w1.heap.size (.slice (some ⟨w1.heap.size, 0, none⟩) 1 1) [a] (w1.alloc (.cells #[.int .i64 a] 3)) := by
    have := World.ownsRow_lit (base := w1.heap.size) (e := 3) (size := 1) w1 #[.int .i64 a] 1 (by simp) (le_maxLen (by omega)) (by simp)
    simpa [OI] using this
  have HO := Lib.hid hown0
  clear hown0
  go_wp2
  go_loopw [1, 2, 9, 10] (fun ua uv uo ut wr => ∃ k : Nat, k ≤ G.length ∧ ut = .int .i64 k ∧ ua = .int .i64 (swK N D d a v G k).1 ∧ uv = .int .i64 (swK N D d a v G k).2.1 ∧ OI w1.heap.size uo (swList N D d a v G k) wr ∧ Below w1.heap.size w1 wr) (fun _ _ _ ut _ => G.length - (intOf ut).toNat)
  case atStart => exact ⟨0, Nat.zero_le _, rfl, rfl, rfl, HO.out, (Below.refl _ _).alloc (Nat.le_refl _) _⟩
  case round =>
    obtain ⟨k, hk, rfl, rfl, rfl, hown, hbw⟩ := hrel
    have HOW := Lib.hid hown
    have HBW := Lib.hid hbw
    clear hown hbw
    by_cases hlt : k < G.length
    · obtain ⟨b, off, x, rfl, hb, hx, hcx⟩ := (HR.out.below (HB0.out.trans (HBW.out.mono HB0.out.size) |>.mono hB)).at_ hlt
      have c0 := cell_keep HBW.out HS.out.1
      have c1 := cell_keep HBW.out HS.out.2.1
      have c2 := cell_keep HBW.out HS.out.2.2
      have hgb := wB_mem HGB.out hx
      have hbd := HSW.out k (by omega)
      have hbd2 := HSW.out (k + 1) (by omega)
      have hsu := swK_succ (N := N) (D := D) (d := d) (a := a) (v := v) hx
      have hden := swK_den (N := N) (D := D) (d := d) (a := a) (v := v) (G := G) (k := k) (by omega)
      have HLS := Lib.hid (swList_succ N D d a v G k)
      have hll := swList_len N D d a v G k
      obtain ⟨⟨pa, pv, pe⟩, hp⟩ : ∃ p, swK N D d a v G k = p := ⟨_, rfl⟩
      obtain ⟨⟨qa, qv, qe⟩, hq⟩ : ∃ p, swK N D d a v G (k + 1) = p := ⟨_, rfl⟩
      rw [hp] at hbd hsu hden
      rw [hq] at hbd2 hsu HLS
      dsimp only at hbd hbd2 hden HLS
      have hpw := powI_bd d1 d2 (k + 1)
      have hpw2 := hpw.2 (by omega)
      have hpw3 := powI_4 (show k + 1 ≤ 16 by omega)
      have hpw1 := hpw.1
      have hps : powI d (k + 1) = pe * d := by rw [hden]; rfl
      have HPW := Lib.hid (fun W => power_any d (k + 1) W d1 d2 (by omega))
      clear hpw
      obtain ⟨pw, hpw0⟩ : ∃ x, powI d (k + 1) = x := ⟨_, rfl⟩
      rw [hpw0] at hpw1 hpw2 hps HPW
      have hpw4 : pw ≤ 4294967296 := Int.le_trans hpw2 hpw3
      unfold swS at hsu
      simp only [Prod.mk.injEq] at hsu
      obtain ⟨hqa, hqv, _⟩ := hsu
      rw [← hps] at hqa hqv
      obtain ⟨p1, hp1⟩ : ∃ y, d * pv = y := ⟨_, rfl⟩
      obtain ⟨p2, hp2⟩ : ∃ y, N * pa = y := ⟨_, rfl⟩
      obtain ⟨p3, hp3⟩ : ∃ y, D * pv = y := ⟨_, rfl⟩
      obtain ⟨p4, hp4⟩ : ∃ y, x * pw = y := ⟨_, rfl⟩
      obtain ⟨p5, hp5⟩ : ∃ y, d * pa = y := ⟨_, rfl⟩
      have hv' : p1 - p2 - p3 + p4 = qv := by rw [hqv, Int.sub_mul, hp1, hp2, hp3, hp4]; omega
      have ha' : p5 + qv = qa := by rw [hqa, hqv, hp5]
      obtain ⟨⟨ba1, ba2⟩, ⟨bv1, bv2⟩⟩ := hbd
      obtain ⟨⟨ca1, ca2⟩, ⟨cv1, cv2⟩⟩ := hbd2
      have b1 := mul_bd (a := d) (A := 4) (u := pv) (by omega) d2 bv1 bv2 (by omega)
      have b2 := mul_bd (a := N) (A := 8) (u := pa) n1 (by omega) ba1 ba2 (by omega)
      have b3 := mul_bd (a := D) (A := 4) (u := pv) D1 (by omega) bv1 bv2 (by omega)
      have b4 := mul_bd (a := pw) (A := 4294967296) (u := x) (M := 100) (by omega) hpw4 hgb.1 hgb.2 (by omega)
      have b5 := mul_bd (a := d) (A := 4) (u := pa) (by omega) d2 ba1 ba2 (by omega)
      rw [hp1] at b1
      rw [hp2] at b2
      rw [hp3] at b3
      rw [show pw * x = p4 by rw [Int.mul_comm]; exact hp4] at b4
      rw [hp5] at b5
      obtain ⟨b11, b12⟩ := b1
      obtain ⟨b21, b22⟩ := b2
      obtain ⟨b31, b32⟩ := b3
      obtain ⟨b41, b42⟩ := b4
      obtain ⟨b51, b52⟩ := b5
      have i1 : IntKind.i64.wrap (d * pv) = p1 := by rw [hp1]; exact IntWalk.i64_in _ (by omega)
      have i2 : IntKind.i64.wrap (N * pa) = p2 := by rw [hp2]; exact IntWalk.i64_in _ (by omega)
      have i3 : IntKind.i64.wrap (p1 - p2) = p1 - p2 := IntWalk.i64_in _ (by omega)
      have i4 : IntKind.i64.wrap (D * pv) = p3 := by rw [hp3]; exact IntWalk.i64_in _ (by omega)
      have i5 : IntKind.i64.wrap (p1 - p2 - p3) = p1 - p2 - p3 := IntWalk.i64_in _ (by omega)
      have i6 : IntKind.i64.wrap ((k : Int) + 1) = ((k + 1 : Nat) : Int) := by rw [IntWalk.i64_in _ (by omega)]; rfl
      have i7 : IntKind.i64.wrap (x * pw) = p4 := by rw [hp4]; exact IntWalk.i64_in _ (by omega)
      have i8 : IntKind.i64.wrap (p1 - p2 - p3 + p4) = qv := by rw [hv']; exact IntWalk.i64_in _ (by omega)
      have i9 : (k : Int) < (G.length : Int) := by omega
      have i10 : (0 : Int) ≤ (k : Int) := by omega
      have i11 : IntKind.i64.wrap (d * pa) = p5 := by rw [hp5]; exact IntWalk.i64_in _ (by omega)
      have i12 : IntKind.i64.wrap (p5 + qv) = qa := by rw [ha']; exact IntWalk.i64_in _ (by omega)
      have HQ := Lib.hid hq
      have hz1 := World.block_lt_of_cell? _ _ c0
      clear hp1 hp2 hp3 hp4 hp5 hqa hqv hps hpw0 hpw1 hpw2 hpw3 hpw4 hv' ha' hq hden hx b11 b12 b21 b22 b31 b32 b41 b42 b51 b52 ba1 ba2 bv1 bv2 ca1 ca2 cv1 cv2 d1 d2 n1 n2 D1 D2 hgb
      rw [hp]
      clear hp
      go_upto_region 5 with fail
      go_quiet ((go_at_call 58; exact quiet_left (HPW.out _)))
      go_wp2_with (at_builtin; refine wpList_pushJ rfl _ _ rfl _ (swList N D d a v G k) rfl HOW.out HBW.out qa rfl rfl rfl rfl rfl (by omega) ?_)
      intro v' w' hv' hb'
      have HV' := Lib.hid hv'
      have HB' := Lib.hid hb'
      clear hv' hb'
      go_wp2
      go_roundw
      case rel => exact ⟨k + 1, by omega, by go_num, by rw [HQ.out], by rw [HQ.out], by rw [HLS.out]; exact HV'.out, HB'.out⟩
      case measure => simp [intOf]; omega
    · obtain rfl : k = G.length := by omega
      go_wp2
      go_ret
      exact ⟨_, rfl, HOW.out.ri, HB0.out.trans (HBW.out.mono HB0.out.size)⟩
end Go.Proofs.Ytnnmmojlgikdgaa

/- Swing of the program; sameFractions. -/
namespace Go.Proofs.Ytnnmmojlgikdgaa
open Go.RowKit

set_option maxRecDepth 100000 in
theorem sameFr_any (l : List (Int × Int)) (v v' : Value) (w : World) (h : QC l v w) (h' : QC l v' w) (hl : l.length ≤ maxLen) :
    Calls Try.prog 19 #[v, v'] w fun e w' => e = .returned (.bool true) ∧ Below w.heap.size w w' := by
  obtain ⟨A, c, rfl, hr⟩ := h
  obtain ⟨A', c', rfl, hr'⟩ := h'
  unfold maxLen at hl
  go_enter Try.func19, Try.ntmps19
  go_wp2
  go_loopw [5] (fun i wr => ∃ k : Nat, k ≤ l.length ∧ i = .int .i64 k ∧ Below w.heap.size w wr) (fun i _ => l.length - (intOf i).toNat)
  case atStart => exact ⟨0, Nat.zero_le _, rfl, Below.refl _ _⟩
  case round =>
    obtain ⟨k, hk, rfl, hbw⟩ := hrel
    by_cases hlt : k < l.length
    · obtain ⟨b, off, p, rfl, hb, hp, c0, c1⟩ := (hr.below hbw).at_ hlt
      obtain ⟨b', off', p', rfl, hb', hp', d0, d1⟩ := (hr'.below hbw).at_ hlt
      rw [hp] at hp'
      cases hp'
      obtain ⟨p1, p2⟩ := p
      dsimp only at c0 c1 d0 d1
      have hs1 := eq_pair p1 p2
      have HBW := Lib.hid hbw
      clear hbw hr hr' hp
      have i7 : (k : Int) < l.length := by omega
      go_wp2
      go_quiet (fail)
      go_wp2
      go_roundw
      case rel => exact ⟨k + 1, by omega, by go_num, below_drewN HBW.out _⟩
      case measure => simp [intOf]; omega
    · obtain rfl : k = l.length := by omega
      have HBW := Lib.hid hbw
      clear hbw
      go_wp2
      go_ret
      exact ⟨rfl, HBW.out⟩

def swRows (N D d a v : Int) (G : List Int) (k : Nat) : List (Int × Int) := (List.range k).map fun j => lowN (swK N D d a v G (j + 1)).1 (swK N D d a v G (j + 1)).2.2
theorem swRows_succ (N D d a v : Int) (G : List Int) (k : Nat) : swRows N D d a v G (k + 1) = swRows N D d a v G k ++ [lowN (swK N D d a v G (k + 1)).1 (swK N D d a v G (k + 1)).2.2] := by
  unfold swRows
  rw [List.range_succ]
  simp
theorem swRows_len (N D d a v : Int) (G : List Int) (k : Nat) : (swRows N D d a v G k).length = k := by simp [swRows]

/-- Swing's answer. -/
def swA (N D d a v : Int) (G : List Int) : List (Int × Int) × Int := (swN N D d a v G, swE N D d a v G)
theorem swA_70 {N D d a v : Int} {G : List Int} (h : slB N D d = false) : swA N D d a v G = ([], 70) := by unfold swA swN swE; rw [h]; rfl
theorem swA_2 {N D d a v : Int} {G : List Int} (h : slB N D d = true) (h2 : 16 < G.length) : swA N D d a v G = ([], 2) := by unfold swA swN swE; rw [h, if_pos rfl, if_pos h2]; rfl
theorem swA_1 {N D d a v : Int} {G : List Int} (h : slB N D d = true) (h2 : ¬ 16 < G.length) (h3 : (staB a v && wB (-100) 100 G) = false) : swA N D d a v G = ([], 1) := by
  unfold swA swN swE
  rw [h, if_pos rfl, if_neg h2]
  cases hs : staB a v with
  | false => rfl
  | true =>
    rw [hs] at h3
    simp only [Bool.true_and] at h3
    rw [h3]
    rfl
theorem swA_0 {N D d a v : Int} {G : List Int} (h : slB N D d = true) (h2 : ¬ 16 < G.length) (h3 : staB a v = true) (h4 : wB (-100) 100 G = true) : swA N D d a v G = (swRows N D d a v G G.length, 0) := by
  unfold swA swN swE
  rw [h, if_pos rfl, if_neg h2, h3, h4]
  rfl

set_option maxRecDepth 100000 in
set_option maxHeartbeats 2000000 in
theorem swingT_any (N D d a v : Int) (A : Option Addr) (n c B : Nat) (G : List Int) (w : World) (hl : G.length = n) (hn : n ≤ maxLen) (hB : B ≤ w.heap.size) (hr : RI w B A G) :
    Calls Try.prog 17 #[.agg #[.int .i64 N, .int .i64 D, .int .i64 d], .agg #[.int .i64 a, .int .i64 v], .slice A n c] w (GivesCe w (swA N D d a v G)) := by
  have hnn := hn
  unfold maxLen at hnn
  have HC := Lib.hid (fun W => slcheck_any N D d W)
  have HB0 := Lib.hid (((Below.refl w.heap.size w).alloc (Nat.le_refl _) (.cells #[.int .i64 N, .int .i64 D, .int .i64 d] 23)).alloc (by simp) (.cells #[.int .i64 a, .int .i64 v] 24))
  cases hsl : slB N D d with
  | false =>
    rw [slE_no hsl] at HC
    rw [swA_70 hsl]
    clear hsl hr
    go_enter Try.func17, Try.ntmps17
    go_wp2_with (go_at_call 15; refine Calls.mono (HC.out _) ?_; rintro e w3 ⟨rfl, hb3⟩; have HB3 := Lib.hid (HB0.out.trans (hb3.mono HB0.out.size)); clear hb3)
    go_ret2
    exact ⟨_, rfl, QC.nil, HB3.out⟩
  | true =>
    rw [slE_yes hsl] at HC
    by_cases h16 : 16 < n
    · rw [swA_2 hsl (by omega)]
      clear hsl hr
      go_enter Try.func17, Try.ntmps17
      go_wp2_with (go_at_call 15; refine Calls.mono (HC.out _) ?_; rintro e w3 ⟨rfl, hb3⟩; have HB3 := Lib.hid (HB0.out.trans (hb3.mono HB0.out.size)); clear hb3)
      go_ret2
      exact ⟨_, rfl, QC.nil, HB3.out⟩
    · have HST := Lib.hid (fun W => isStart_any a v W)
      have s0 : ((w.alloc (.cells #[.int .i64 N, .int .i64 D, .int .i64 d] 23)).alloc (.cells #[.int .i64 a, .int .i64 v] 24)).cell? ⟨w.heap.size + 1, 0, none⟩ = some (.int .i64 a) := by rw [show w.heap.size + 1 = (w.alloc (.cells #[.int .i64 N, .int .i64 D, .int .i64 d] 23)).heap.size by simp, cell_newest]; rfl
      have s1 : ((w.alloc (.cells #[.int .i64 N, .int .i64 D, .int .i64 d] 23)).alloc (.cells #[.int .i64 a, .int .i64 v] 24)).cell? ⟨w.heap.size + 1, 1, none⟩ = some (.int .i64 v) := by rw [show w.heap.size + 1 = (w.alloc (.cells #[.int .i64 N, .int .i64 D, .int .i64 d] 23)).heap.size by simp, cell_newest]; rfl
      have t0 : (w.alloc (.cells #[.int .i64 N, .int .i64 D, .int .i64 d] 23)).cell? ⟨w.heap.size, 0, none⟩ = some (.int .i64 N) := by rw [cell_newest]; rfl
      have t1 : (w.alloc (.cells #[.int .i64 N, .int .i64 D, .int .i64 d] 23)).cell? ⟨w.heap.size, 1, none⟩ = some (.int .i64 D) := by rw [cell_newest]; rfl
      have t2 : (w.alloc (.cells #[.int .i64 N, .int .i64 D, .int .i64 d] 23)).cell? ⟨w.heap.size, 2, none⟩ = some (.int .i64 d) := by rw [cell_newest]; rfl
      have HS := Lib.hid (And.intro s0 s1)
      have HT := Lib.hid (And.intro t0 (And.intro t1 t2))
      clear s0 s1 t0 t1 t2
      cases hst : staB a v with
      | false =>
        rw [hst] at HST
        rw [swA_1 hsl (by omega) (by rw [hst]; rfl)]
        clear hsl hr hst
        go_enter Try.func17, Try.ntmps17
        go_wp2_with (first
          | (go_at_call 15; refine Calls.mono (HC.out _) ?_; rintro e w3 ⟨rfl, hb3⟩; have r0 := cell_keep hb3 HS.out.1; have r1 := cell_keep hb3 HS.out.2; have l1 := World.block_lt_of_cell? _ _ r0; have HB3 := Lib.hid (HB0.out.trans (hb3.mono HB0.out.size)); clear hb3)
          | (go_at_call 51; refine Calls.mono (HST.out _) ?_; rintro e w4 ⟨rfl, hb4⟩; have HB4 := Lib.hid (HB3.out.trans (hb4.mono HB3.out.size)); clear hb4))
        go_ret2
        exact ⟨_, rfl, QC.nil, HB4.out⟩
      | true =>
        rw [hst] at HST
        have HWI := Lib.hid (fun (W : World) (hW : Below w.heap.size w W) => within_any (-100) 100 A n c B G W hl hn (hr.below (hW.mono hB)))
        cases hgs : wB (-100) 100 G with
        | false =>
          rw [hgs] at HWI
          rw [swA_1 hsl (by omega) (by rw [hst, hgs]; rfl)]
          clear hsl hr hst hgs
          go_enter Try.func17, Try.ntmps17
          go_wp2_with (first
            | (go_at_call 15; refine Calls.mono (HC.out _) ?_; rintro e w3 ⟨rfl, hb3⟩; have r0 := cell_keep hb3 HS.out.1; have r1 := cell_keep hb3 HS.out.2; have l1 := World.block_lt_of_cell? _ _ r0; have HB3 := Lib.hid (HB0.out.trans (hb3.mono HB0.out.size)); clear hb3)
            | (go_at_call 51; refine Calls.mono (HST.out _) ?_; rintro e w4 ⟨rfl, hb4⟩; have HB4 := Lib.hid (HB3.out.trans (hb4.mono HB3.out.size)); clear hb4)
            | (go_at_call 49; refine Calls.mono (HWI.out _ HB4.out) ?_; rintro e w5 ⟨rfl, rfl⟩))
          go_ret2
          exact ⟨_, rfl, QC.nil, HB4.out⟩
        | true =>
          rw [hgs] at HWI
          have hswb := swB_all (N := N) (D := D) (d := d) (a := a) (v := v) (G := G) hsl hst hgs (by omega)
          rw [swA_0 hsl (by omega) hst hgs]
          obtain ⟨⟨d1, d2⟩, _, _⟩ := slB_get hsl
          have HSW := Lib.hid hswb
          have HSL := Lib.hid hsl
          have HGB := Lib.hid hgs
          have HR := Lib.hid hr
          have HH := Lib.hid (fun W => hang_any N D d a v W)
          have HLN := Lib.hid hl
          have h16' : decide ((16 : Int) < (n : Int)) = false := by simp; omega
          clear hsl hr hst hgs hswb hl
          go_enter Try.func17, Try.ntmps17
          go_upto_region 10 with (first
            | (go_at_call 15; refine Calls.mono (HC.out _) ?_; rintro e w3 ⟨rfl, hb3⟩; have r0 := cell_keep hb3 HS.out.1; have r1 := cell_keep hb3 HS.out.2; have l1 : w.heap.size + 1 < w3.heap.size := World.block_lt_of_cell? _ _ r0; have l0 : w.heap.size < w3.heap.size := (by omega); have q0 := keepA hb3 HT.out.1; have q1 := keepA hb3 HT.out.2.1; have q2 := keepA hb3 HT.out.2.2; have HB3 := Lib.hid (HB0.out.trans (hb3.mono HB0.out.size)); clear hb3)
            | (go_at_call 51; refine Calls.mono (HST.out _) ?_; rintro e w4 ⟨rfl, hb4⟩; have r0 := cell_keep hb4 r0; have r1 := cell_keep hb4 r1; have q0 := cell_keep hb4 q0; have q1 := cell_keep hb4 q1; have q2 := cell_keep hb4 q2; have l1 : w.heap.size + 1 < w4.heap.size := World.block_lt_of_cell? _ _ r0; have l0 : w.heap.size < w4.heap.size := (by omega); have HB4 := Lib.hid (HB3.out.trans (hb4.mono HB3.out.size)); clear hb4)
            | (go_at_call 49; refine Calls.mono (HWI.out _ HB4.out) ?_; rintro e w5 ⟨rfl, rfl⟩)
            | (go_at_call 52; refine Calls.mono (HH.out _) ?_; rintro e w6 ⟨rfl, hb6⟩; have HB6 := Lib.hid (HB4.out.trans (hb6.mono HB4.out.size)); clear hb6))
          have hwl0 : WL (w6.alloc (.cells #[.int .i64 N, .int .i64 D, .int .i64 d, .int .i64 a, .int .i64 v, .int .i64 1] 89)) w6.heap.size N D d (swK N D d a v G 0) := by show (w6.heap.push _)[w6.heap.size]? = _; simp [swK_zero]
          have HWL0 := Lib.hid hwl0
          have HB7 := Lib.hid (HB6.out.alloc HB6.out.size (.cells #[.int .i64 N, .int .i64 D, .int .i64 d, .int .i64 a, .int .i64 v, .int .i64 1] 89))
          have hgw := HB6.out.size
          clear hwl0 r0 r1 l1 l0 q0 q1 q2 HC HS HT HST HWI HH HB3 HB4 HB0
          generalize w6.heap.size = g at *
          generalize w6.alloc _ = w7 at *
          go_wp2
          go_loopw [9, 34] (fun vr i wr => ∃ k : Nat, k ≤ n ∧ i = .int .i64 k ∧ WL wr g N D d (swK N D d a v G k) ∧ OC (g + 1) vr (swRows N D d a v G k) wr ∧ Below w.heap.size w wr) (fun _ i _ => n - (intOf i).toNat)
          case atStart => exact ⟨0, Nat.zero_le _, rfl, HWL0.out, OC.nil, HB7.out⟩
          case round =>
            obtain ⟨k, hk, rfl, hwl, hown, hbw⟩ := hrel
            have hglt := hwl.lt
            by_cases hlt : k < n
            · obtain ⟨b, off, x, rfl, hb, hx, hcx⟩ := (HR.out.below (hbw.mono hB)).at_ (k := k) (by rw [HLN.out]; exact hlt)
              have hgb := wB_mem HGB.out hx
              have hbd := HSW.out k (by rw [HLN.out]; omega)
              have hbd2 := HSW.out (k + 1) (by rw [HLN.out]; omega)
              have hsu := swK_succ (N := N) (D := D) (d := d) (a := a) (v := v) hx
              have hden := swK_den (N := N) (D := D) (d := d) (a := a) (v := v) (G := G) (k := k) (by rw [HLN.out]; omega)
              have hden2 := swK_den (N := N) (D := D) (d := d) (a := a) (v := v) (G := G) (k := k + 1) (by rw [HLN.out]; omega)
              have hpw := powI_bd d1 d2 k
              have hpw2 := Int.le_trans (hpw.2 (by omega)) (powI_4 (show k ≤ 16 by omega))
              have hqw := powI_bd d1 d2 (k + 1)
              have hqw2 := Int.le_trans (hqw.2 (by omega)) (powI_4 (show k + 1 ≤ 16 by omega))
              have hp1 := hpw.1
              have hq1 := hqw.1
              have HRS := Lib.hid (swRows_succ N D d a v G k)
              have hll := swRows_len N D d a v G k
              rw [← hden] at hp1 hpw2
              rw [← hden2] at hq1 hqw2
              obtain ⟨⟨pa, pv, pe⟩, hp⟩ : ∃ p, swK N D d a v G k = p := ⟨_, rfl⟩
              obtain ⟨⟨qa, qv, qe⟩, hq⟩ : ∃ p, swK N D d a v G (k + 1) = p := ⟨_, rfl⟩
              rw [hp] at hbd hsu hp1 hpw2 hwl
              rw [hq] at hbd2 hsu HRS hq1 hqw2
              dsimp only at hbd hbd2 hp1 hpw2 hq1 hqw2 HRS
              have HSW2 := Lib.hid (swing_any g N D d pa pv pe x wr HSL.out hbd.1 hbd.2 ⟨hp1, hpw2⟩ hgb hwl)
              rw [← hsu] at HSW2
              have HDI := Lib.hid (fun (W : World) (hW : WL W g N D d (qa, qv, qe)) => displacement_any g N D d (qa, qv, qe) W (by dsimp only; omega) (by dsimp only; omega) hq1 (by dsimp only; omega) hW)
              dsimp only at HDI
              have HQ := Lib.hid hq
              obtain ⟨⟨y1, y2⟩, hy⟩ : ∃ p, lowN qa qe = p := ⟨_, rfl⟩
              rw [hy] at HDI HRS
              dsimp only at HDI
              have HOW := Lib.hid hown
              have HBW := Lib.hid hbw
              have i9 : (k : Int) < (n : Int) := by omega
              have hsz := hbw.size
              clear hx hbd hbd2 hsu hden hden2 hpw hpw2 hqw hqw2 hp1 hq1 hp hq hy hown hbw hwl hgb
              go_wp2_with (first
                | (go_at_call 53; refine Calls.mono HSW2.out ?_; rintro e w8 ⟨rfl, hw8, hg8⟩; have HW8 := Lib.hid hw8; have HO8 := Lib.hid (World.ownsRow.kept HOW.out hg8 (Or.inr (fun e => (by have := (HOW.out.lt g e).1; omega)))); have HB8 := Lib.hid (HBW.out.grown hg8 hsz (fun q hq => (by cases hq; exact hgw))); clear hw8 hg8)
                | (go_at_call 54; refine Calls.mono (HDI.out _ HW8.out) ?_; rintro e w9 ⟨rfl, hb9⟩; have HW9 := Lib.hid (HW8.out.stay hb9); have HO9 := Lib.hid (OC.stay HO8.out hb9); have HB9 := Lib.hid (HB8.out.trans (hb9.mono HB8.out.size)); have hz9 := HW9.out.lt; clear hb9)
                | (at_builtin; refine wpList_pushP rfl _ _ rfl (g + 1) _ (swRows N D d a v G k) rfl (OC.stay HO9.out ((Below.refl _ _).alloc (Nat.le_refl _) _)) w9.heap.size (y1, y2) rfl (by rw [cell_newest]; rfl) (by rw [cell_newest]; rfl) (by omega) (by simp; omega) ?_))
              intro v' w10 hv' hg10
              have hne : ∀ e, some g = e → e ≠ u9.ownBlock := fun e e1 e2 => (by rw [← e1] at e2; have := (HO9.out.lt g e2.symm).1; omega)
              have HV := Lib.hid hv'
              have HW10 := Lib.hid (show WL w10 g N D d (qa, qv, qe) from (hg10.block g (by simp; omega) (hne _ rfl)).trans (HW9.out.stay ((Below.refl _ _).alloc (Nat.le_refl _) _)))
              have HB10 := Lib.hid ((HB9.out.alloc HB9.out.size _).grown hg10 (by simp; have := HB9.out.size; omega) (fun q hq => by have := (HO9.out.lt q hq).1; omega))
              clear hv' hg10 hne
              go_wp2
              go_roundw
              case rel => exact ⟨k + 1, by omega, by go_num, by rw [HQ.out]; exact HW10.out, by rw [HRS.out]; exact HV.out, HB10.out⟩
              case measure => simp [intOf]; omega
            · obtain rfl : k = n := by omega
              have HOW := Lib.hid hown
              have HBW := Lib.hid hbw
              clear hown hbw hwl
              go_wp2
              go_ret2
              rw [HLN.out]
              exact ⟨_, rfl, HOW.out.rs, HBW.out⟩
end Go.Proofs.Ytnnmmojlgikdgaa

/- A drawn region that ends with an append of one pair to a list of the call's own. -/
namespace Go.Proofs.Ytnnmmojlgikdgaa
open Go.RowKit

/-- A slice of one pair, in memory. -/
def OneP (y : Int × Int) (v : Value) (W : World) : Prop := ∃ g, v = .slice (some ⟨g, 0, none⟩) 1 1 ∧ W.cell? ⟨g, 0, none⟩ = some (.int .i64 y.1) ∧ W.cell? ⟨g, 1, none⟩ = some (.int .i64 y.2)
theorem OneP.stay {y : Int × Int} {v : Value} {W W' : World} (h : OneP y v W) (hb : Below W.heap.size W W') : OneP y v W' := by
  obtain ⟨g, e, h1, h2⟩ := h
  exact ⟨g, e, cell_keep hb h1, cell_keep hb h2⟩
theorem OneP.new {y : Int × Int} {W : World} {T : TypeId} {m : Nat × Nat} : OneP y (.slice (some ⟨W.heap.size, 0, none⟩) 1 1) (W.alloc (.cells #[.int .i64 y.1, .int .i64 y.2] T m)) :=
  ⟨_, rfl, by rw [cell_newest]; rfl, by rw [cell_newest]; rfl⟩
/-- What the append leaves. -/
def AppP (base : Nat) (u : Value) (l : List (Int × Int)) (y : Int × Int) (W0 : World) (v : Value) (W : World) : Prop := OC base v (l ++ [y]) W ∧ ∃ y9, Below W0.heap.size W0 y9 ∧ y9.grownBy W u.ownBlock
theorem step_pushP {F : Fence} {n : Nat} {w : World} {o : Oper} {a : Act} {K : Act → World → Prop} {Q : Exit → Act → World → Prop} (s x : Operand)
    (hop : o.op = .call { callee := .builtin .append, args := #[s, x], argTypes := #[32, 32] }) (base : Nat) (v : Value) (xs : List (Int × Int)) (hs : a.eval s = v) (hown : OC base v xs w)
    (vx : Value) (y : Int × Int) (hx : a.eval x = vx) (hy : OneP y vx w) (hlen : xs.length ≤ 1000000) (hbase : base ≤ w.heap.size)
    (h : ∀ v' w', OC base v' (xs ++ [y]) w' → w.grownBy w' v.ownBlock → K (a.put o.dst v') w') : o.wpIn F n Try.prog a w K Q := by
  obtain ⟨g, rfl, hy0, hy1⟩ := hy
  obtain ⟨i0, hi0, hz0, hz1, hz2⟩ := info_parts info_pair
  obtain ⟨v', w', hrun, r1, r2, _⟩ := run_append_own (P := Try.prog) w base 32 o.type 24 i0 (.agg #[.int .i64 0, .int .i64 0]) 2 16 Try.underlying32 hi0 hz0 hz1 hz2 rfl (by decide) v xs.length _ hown ⟨g, 0, none⟩ 1 1 (pV y) rfl (fun j u hu => (by
    match j, hu with
    | 0, hu => simp [pV] at hu; subst hu; exact hy0
    | 1, hu => simp [pV] at hu; subst hu; exact hy1
    | j + 2, hu => simp [pV] at hu)) (fun u hu => (by simp [pV] at hu; rcases hu with rfl | rfl <;> rfl)) (by unfold maxLen; omega) (by omega) hbase
  have r1' : OC base v' (xs ++ [y]) w' := by simpa [OC, pCells] using r1
  unfold Oper.wpIn
  refine ⟨?_, ?_⟩
  · simp [Oper.about, hop, resolve, Target.leads, Sem.run_pure]
  · rw [Oper.semAt_plain F _ _ (by rw [hop]; intro c hc'; cases hc')]
    simp [execOp, hop, resolve, invoke, builtin, hs, hx, hrun, Result.andThen]
    exact h _ _ r1' r2
section
variable {Q : Nat → Value → World → Prop} {vals : List (Option Value)} {ex : Nat → Value → World → Prop} {W0 W : World} {s : Nat} {P : Value → World → Prop} {val : Nat → Value} {L : Array Bool}
theorem RQA.go (h : RQ Q W0 val L W) (hQ : Stays Q) (HQ : Hid (Q = QG vals ex)) (i : Nat) {x : Value} (hx : vals[i]? = some (some x)) (hs : i ≠ s) (hN : L.getD s false = false) : ∀ v W', Below W.heap.size W W' → v = x → RQA Q W0 s P (upd val i v) (L.setIfInBounds i true) W' :=
  fun _ _ hb e => RQA.step h hQ hb (QG.put HQ hx e) hs hN
theorem RQA.goT (h : RQ Q W0 val L W) (hQ : Stays Q) {i : Nat} (hn : ∀ v W, Q i v W) (hs : i ≠ s) (hN : L.getD s false = false) : ∀ v W', Below W.heap.size W W' → True → RQA Q W0 s P (upd val i v) (L.setIfInBounds i true) W' :=
  fun v W' hb _ => RQA.step h hQ hb (hn v W') hs hN
end
end Go.Proofs.Ytnnmmojlgikdgaa

/- Swing of the reference. -/
namespace Go.Proofs.Ytnnmmojlgikdgaa
open Go.RowKit

theorem swList_get {N D d a v : Int} {G : List Int} {n k : Nat} (h : k ≤ n) : (swList N D d a v G n)[k]? = some (swK N D d a v G k).1 := by
  unfold swList
  rw [List.getElem?_map, List.getElem?_range (by omega)]
  rfl

set_option maxRecDepth 100000 in
set_option maxHeartbeats 2000000 in
theorem rswingT_any (N D d a v : Int) (A : Option Addr) (n c B : Nat) (G : List Int) (w : World) (hl : G.length = n) (hn : n ≤ maxLen) (hB : B ≤ w.heap.size) (hr : RI w B A G) :
    Calls Try.prog 18 #[.agg #[.int .i64 N, .int .i64 D, .int .i64 d], .agg #[.int .i64 a, .int .i64 v], .slice A n c] w (GivesCe w (swA N D d a v G)) := by
  have hnn := hn
  unfold maxLen at hnn
  have HC := Lib.hid (fun W => rslcheck_any N D d W)
  have HB0 := Lib.hid (((Below.refl w.heap.size w).alloc (Nat.le_refl _) (.cells #[.int .i64 N, .int .i64 D, .int .i64 d] 23)).alloc (by simp) (.cells #[.int .i64 a, .int .i64 v] 24))
  cases hsl : slB N D d with
  | false =>
    rw [slE_no hsl] at HC
    rw [swA_70 hsl]
    clear hsl hr
    go_enter Try.func18, Try.ntmps18
    go_wp2_with (go_at_call 16; refine Calls.mono (HC.out _) ?_; rintro e w3 ⟨rfl, hb3⟩; have HB3 := Lib.hid (HB0.out.trans (hb3.mono HB0.out.size)); clear hb3)
    go_ret2
    exact ⟨_, rfl, QC.nil, HB3.out⟩
  | true =>
    rw [slE_yes hsl] at HC
    by_cases h16 : 16 < n
    · rw [swA_2 hsl (by omega)]
      clear hsl hr
      go_enter Try.func18, Try.ntmps18
      go_wp2_with (go_at_call 16; refine Calls.mono (HC.out _) ?_; rintro e w3 ⟨rfl, hb3⟩; have HB3 := Lib.hid (HB0.out.trans (hb3.mono HB0.out.size)); clear hb3)
      go_ret2
      exact ⟨_, rfl, QC.nil, HB3.out⟩
    · have HST := Lib.hid (fun W => started_any a v W)
      have s0 : ((w.alloc (.cells #[.int .i64 N, .int .i64 D, .int .i64 d] 23)).alloc (.cells #[.int .i64 a, .int .i64 v] 24)).cell? ⟨w.heap.size + 1, 0, none⟩ = some (.int .i64 a) := by rw [show w.heap.size + 1 = (w.alloc (.cells #[.int .i64 N, .int .i64 D, .int .i64 d] 23)).heap.size by simp, cell_newest]; rfl
      have s1 : ((w.alloc (.cells #[.int .i64 N, .int .i64 D, .int .i64 d] 23)).alloc (.cells #[.int .i64 a, .int .i64 v] 24)).cell? ⟨w.heap.size + 1, 1, none⟩ = some (.int .i64 v) := by rw [show w.heap.size + 1 = (w.alloc (.cells #[.int .i64 N, .int .i64 D, .int .i64 d] 23)).heap.size by simp, cell_newest]; rfl
      have t0 : (w.alloc (.cells #[.int .i64 N, .int .i64 D, .int .i64 d] 23)).cell? ⟨w.heap.size, 0, none⟩ = some (.int .i64 N) := by rw [cell_newest]; rfl
      have t1 : (w.alloc (.cells #[.int .i64 N, .int .i64 D, .int .i64 d] 23)).cell? ⟨w.heap.size, 1, none⟩ = some (.int .i64 D) := by rw [cell_newest]; rfl
      have t2 : (w.alloc (.cells #[.int .i64 N, .int .i64 D, .int .i64 d] 23)).cell? ⟨w.heap.size, 2, none⟩ = some (.int .i64 d) := by rw [cell_newest]; rfl
      have HS := Lib.hid (And.intro s0 s1)
      have HT := Lib.hid (And.intro t0 (And.intro t1 t2))
      clear s0 s1 t0 t1 t2
      cases hst : staB a v with
      | false =>
        rw [hst] at HST
        rw [swA_1 hsl (by omega) (by rw [hst]; rfl)]
        clear hsl hr hst
        go_enter Try.func18, Try.ntmps18
        go_wp2_with (first
          | (go_at_call 16; refine Calls.mono (HC.out _) ?_; rintro e w3 ⟨rfl, hb3⟩; have r0 := cell_keep hb3 HS.out.1; have r1 := cell_keep hb3 HS.out.2; have l1 : w.heap.size + 1 < w3.heap.size := World.block_lt_of_cell? _ _ r0; have HB3 := Lib.hid (HB0.out.trans (hb3.mono HB0.out.size)); clear hb3)
          | (go_at_call 55; refine Calls.mono (HST.out _) ?_; rintro e w4 ⟨rfl, hb4⟩; have HB4 := Lib.hid (HB3.out.trans (hb4.mono HB3.out.size)); clear hb4))
        go_ret2
        exact ⟨_, rfl, QC.nil, HB4.out⟩
      | true =>
        rw [hst] at HST
        obtain ⟨⟨d1, d2⟩, _, _⟩ := slB_get hsl
        have HR := Lib.hid hr
        have HLN := Lib.hid hl
        have HSL := Lib.hid hsl
        have HSTT := Lib.hid hst
        have h16' : decide ((16 : Int) < (n : Int)) = false := by simp; omega
        obtain ⟨⟨ra, rb⟩, hra⟩ : ∃ r, swA N D d a v G = r := ⟨_, rfl⟩
        rw [hra]
        have HRA := Lib.hid hra
        clear hra hsl hr hst hl
        go_enter Try.func18, Try.ntmps18
        go_wp2_with (first
          | (go_at_call 16; refine Calls.mono (HC.out _) ?_; rintro e w3 ⟨rfl, hb3⟩; have r0 := cell_keep hb3 HS.out.1; have r1 := cell_keep hb3 HS.out.2; have l1 : w.heap.size + 1 < w3.heap.size := World.block_lt_of_cell? _ _ r0; have l0 : w.heap.size < w3.heap.size := (by omega); have q0 := keepA hb3 HT.out.1; have q1 := keepA hb3 HT.out.2.1; have q2 := keepA hb3 HT.out.2.2; have HB3 := Lib.hid (HB0.out.trans (hb3.mono HB0.out.size)); clear hb3)
          | (go_at_call 55; refine Calls.mono (HST.out _) ?_; rintro e w4 ⟨rfl, hb4⟩; have r0 := cell_keep hb4 r0; have r1 := cell_keep hb4 r1; have q0 := cell_keep hb4 q0; have q1 := cell_keep hb4 q1; have q2 := cell_keep hb4 q2; have l1 : w.heap.size + 1 < w4.heap.size := World.block_lt_of_cell? _ _ r0; have l0 : w.heap.size < w4.heap.size := (by omega); have HB4 := Lib.hid (HB3.out.trans (hb4.mono HB3.out.size)); clear hb4))
        have HQ := Lib.hid (And.intro q0 (And.intro q1 (And.intro q2 (And.intro r0 r1))))
        clear r0 r1 q0 q1 q2 HC HS HT HST HB3 HB0
        go_loop [9] (fun i => ∃ k : Nat, k ≤ n ∧ i = .int .i64 k ∧ wB (-100) 100 (G.take k) = true) (fun i => n - (intOf i).toNat)
        case atStart => exact ⟨0, Nat.zero_le _, rfl, by simp [wB]⟩
        case round =>
          obtain ⟨k, hk, rfl, hwb⟩ := hrel
          by_cases hlt : k < n
          · obtain ⟨b, off, x, rfl, hb, hx, hcx⟩ := (HR.out.below (HB4.out.mono hB)).at_ (k := k) (by rw [HLN.out]; exact hlt)
            by_cases gx : -100 ≤ x ∧ x ≤ 100
            · have HW := Lib.hid (w7_yes gx.1 gx.2)
              have HV2 := Lib.hid (show wB (-100) 100 (G.take (k + 1)) = true by rw [wB_step hx, hwb]; simp [gx])
              clear hx hwb gx
              go_wp2_with (go_at_call 50; refine Calls.mono (HW.out _) ?_; rintro e w' ⟨rfl, rfl⟩)
              go_round
              case rel => exact ⟨k + 1, by omega, by go_num, HV2.out⟩
              case measure => simp [intOf]; omega
            · have HW := Lib.hid (w7_no gx)
              have hbad := wB_bad (lo := -100) (hi := 100) hx (by omega)
              have HE := Lib.hid (show ra = [] ∧ rb = 1 by
                have := HRA.out
                rw [swA_1 HSL.out (by rw [HLN.out]; omega) (by rw [hbad]; simp)] at this
                cases this
                exact ⟨rfl, rfl⟩)
              clear hx hwb gx hbad
              go_wp2_with (go_at_call 50; refine Calls.mono (HW.out _) ?_; rintro e w' ⟨rfl, rfl⟩)
              go_ret2
              exact ⟨_, by rw [HE.out.2]; rfl, by rw [HE.out.1]; exact QC.nil, HB4.out⟩
          · obtain rfl : k = n := by omega
            have hgs : wB (-100) 100 G = true := by rw [← hwb, List.take_of_length_le (by rw [HLN.out]; omega)]
            have hswb := swB_all (N := N) (D := D) (d := d) (a := a) (v := v) (G := G) HSL.out HSTT.out hgs (by rw [HLN.out]; omega)
            have HE := Lib.hid (show ra = swRows N D d a v G k ∧ rb = 0 by
              have := HRA.out
              rw [swA_0 HSL.out (by rw [HLN.out]; omega) HSTT.out hgs, HLN.out] at this
              cases this
              exact ⟨rfl, rfl⟩)
            have HSW := Lib.hid hswb
            have HSU := Lib.hid (fun (W : World) (hW : Below w.heap.size w W) => swung_any N D d a v A k c B G W HSL.out HLN.out (by omega) hgs hswb (by have := hW.size; omega) (HR.out.below (hW.mono hB)))
            obtain ⟨q0, q1, q2, r0, r1⟩ := HQ.out
            have h16'' : (k : Int) ≤ 16 := by omega
            clear hwb hgs hswb HQ
            go_upto_region 16 with (go_at_call 56; refine Calls.mono (HSU.out _ HB4.out) ?_; rintro e w5 ⟨u5, rfl, ⟨A5, c5, rfl, _, hr5⟩, hb5⟩; have q2 := cell_keep hb5 q2; have HR5 := Lib.hid hr5; have HB5 := Lib.hid (HB4.out.trans (hb5.mono HB4.out.size)); clear hb5 hr5)
            rw [swList_len]
            have HQ2 := Lib.hid q2
            clear q0 q1 q2 r0 r1 HSU
            go_loopw [11, 12] (fun vr i wr => ∃ t : Nat, 1 ≤ t ∧ t ≤ k + 1 ∧ i = .int .i64 (t : Int) ∧ OC w5.heap.size vr (swRows N D d a v G (t - 1)) wr ∧ Below w5.heap.size w5 wr) (fun _ i _ => k + 1 - (intOf i).toNat)
            case atStart => exact ⟨1, by omega, by omega, rfl, OC.nil, Below.refl _ _⟩
            case round =>
              obtain ⟨t, ht1, ht2, rfl, hown, hbw⟩ := hrel
              have HOW := Lib.hid hown
              have HBW := Lib.hid hbw
              clear hown hbw
              by_cases hlt2 : t ≤ k
              · obtain ⟨b5, o5, x5, rfl, hb5, hx5, hc5⟩ := (HR5.out.below HBW.out).at_ (k := t) (by rw [swList_len]; omega)
                have hd2 := cell_keep HBW.out HQ2.out
                rw [swList_get (by omega)] at hx5
                cases hx5
                have hbd := HSW.out t (by rw [HLN.out]; omega)
                have hden := swK_den (N := N) (D := D) (d := d) (a := a) (v := v) (G := G) (k := t) (by rw [HLN.out]; omega)
                have hpw := powI_bd d1 d2 t
                have hpw2 := Int.le_trans (hpw.2 (by omega)) (powI_4 (show t ≤ 16 by omega))
                have hp1 := hpw.1
                have HPO := Lib.hid (fun W => power_any d t W d1 d2 (by omega))
                have HRS := Lib.hid (swRows_succ N D d a v G (t - 1))
                have hll := swRows_len N D d a v G (t - 1)
                rw [show t - 1 + 1 = t by omega] at HRS
                rw [← hden] at hp1 hpw2 HPO
                obtain ⟨⟨qa, qv, qe⟩, hq⟩ : ∃ p, swK N D d a v G t = p := ⟨_, rfl⟩
                rw [hq] at hbd hp1 hpw2 HRS hc5 HPO
                dsimp only at hbd hp1 hpw2 HRS hc5 HPO
                have HLO := Lib.hid (fun W => rlowest7_any qa qe W (by omega) (by omega) hp1 (by omega))
                obtain ⟨⟨y1, y2⟩, hy⟩ : ∃ p, lowN qa qe = p := ⟨_, rfl⟩
                rw [hy] at HLO HRS
                dsimp only at HLO
                have i1 : (t : Int) < ((k + 1 : Nat) : Int) := by omega
                have i2 : (0 : Int) ≤ (t : Int) := by omega
                have i3 : t < k + 1 := by omega
                have hzb : b5 < wr.heap.size := World.block_lt_of_cell? _ _ hc5
                have hzw : w.heap.size < wr.heap.size := World.block_lt_of_cell? _ _ hd2
                have hlen : (swRows N D d a v G (t - 1)).length ≤ 1000000 := by omega
                have hbs := HBW.out.size
                clear hbd hden hpw hpw2 hp1 hq hy
                go_upto_region 18 with fail
                obtain ⟨Q, hQ⟩ : ∃ q9 : Nat → Value → World → Prop, q9 = QG [some (u11), some (.slice (some ⟨b5, o5, none⟩) (k + 1) c5), some (.int .i64 ((t : Int))), some (.pointer (some ⟨b5, o5 + t, none⟩)), some (.int .i64 qa), some (.pointer (some ⟨w.heap.size, 2, none⟩)), some (.int .i64 d), some (.int .i64 ((t : Int))), some (.int .i64 qe), some (.agg #[.int .i64 y1, .int .i64 y2]), none, none, none] (fun j0' v0' w0' => (j0' = 10 → OneP (y1, y2) v0' w0')) := ⟨_, rfl⟩
                have hst : Stays Q := by rw [hQ]; exact QG.stays (fun j v W W' h hb => fun e => (h e).stay hb)
                have U10 := Lib.hid (show ∀ v0' w0', Q 10 v0' w0' ↔ OneP (y1, y2) v0' w0' from fun v0' w0' => by rw [hQ]; exact ⟨fun h => h rfl, fun h => fun _ => h⟩)
                have HQ := Lib.hid hQ
                clear hQ
                refine wpIn_wide.1 (region_inv2 (n := 9) (by kernel_rfl) (RQA Q wr 11 (AppP (w5.heap.size) (u11) (swRows N D d a v G (t - 1)) ((y1, y2)) wr)) (by kernel_rfl) rfl (RQA.start _ _ _ _ _) ?hstep ?hend)
                case hstep =>
                  intro i' o ho val L b' x hF hR hpre hl
                  match i', ho with
                  | 0, ho =>
                    simp at ho; subst ho; refine step_plain rfl ?_; have hN := hF.later hl 11 rfl (e := ⟨0, .data⟩) (by simp) rfl rfl
                    have hR := hR.1 hN
                    have e11 := hF.wasOf 11 12 (by kernel_rfl) (hF.back hN 12 rfl (by decide) (e := ⟨11, .data⟩) (by simp) rfl rfl) rfl; have hgoal := RQA.go (P := (AppP (w5.heap.size) (u11) (swRows N D d a v G (t - 1)) ((y1, y2)) wr)) hR hst HQ 0 rfl (by decide) hN; clear hF hpre hl hR hN; go_simp; exact ⟨_, rfl, hgoal _ _ (Below.refl _ _) rfl⟩
                  | 1, ho =>
                    simp at ho; subst ho; refine step_plain rfl ?_; have hN := hF.later hl 3 rfl (e := ⟨1, .data⟩) (by simp) rfl rfl; have hN := hF.back hN 4 rfl (by decide) (e := ⟨3, .data⟩) (by simp) rfl rfl; have hN := hF.back hN 9 rfl (by decide) (e := ⟨4, .data⟩) (by simp) rfl rfl; have hN := hF.back hN 10 rfl (by decide) (e := ⟨9, .data⟩) (by simp) rfl rfl; have hN := hF.back hN 11 rfl (by decide) (e := ⟨10, .data⟩) (by simp) rfl rfl
                    have hR := hR.1 hN
                    have e10 := hF.was 10 (by kernel_rfl) rfl; have hgoal := RQA.go (P := (AppP (w5.heap.size) (u11) (swRows N D d a v G (t - 1)) ((y1, y2)) wr)) hR hst HQ 1 rfl (by decide) hN; clear hF hpre hl hR hN; go_simp; exact ⟨_, rfl, hgoal _ _ (Below.refl _ _) rfl⟩
                  | 2, ho =>
                    simp at ho; subst ho; refine step_plain rfl ?_; have hN := hF.later hl 3 rfl (e := ⟨2, .data⟩) (by simp) rfl rfl; have hN := hF.back hN 4 rfl (by decide) (e := ⟨3, .data⟩) (by simp) rfl rfl; have hN := hF.back hN 9 rfl (by decide) (e := ⟨4, .data⟩) (by simp) rfl rfl; have hN := hF.back hN 10 rfl (by decide) (e := ⟨9, .data⟩) (by simp) rfl rfl; have hN := hF.back hN 11 rfl (by decide) (e := ⟨10, .data⟩) (by simp) rfl rfl
                    have hR := hR.1 hN
                    have e12 := hF.was 12 (by kernel_rfl) rfl; have hgoal := RQA.go (P := (AppP (w5.heap.size) (u11) (swRows N D d a v G (t - 1)) ((y1, y2)) wr)) hR hst HQ 2 rfl (by decide) hN; clear hF hpre hl hR hN; go_simp; exact ⟨_, rfl, hgoal _ _ (Below.refl _ _) rfl⟩
                  | 3, ho =>
                    simp at ho; subst ho; refine step_plain rfl ?_; have hN := hF.later hl 4 rfl (e := ⟨3, .data⟩) (by simp) rfl rfl; have hN := hF.back hN 9 rfl (by decide) (e := ⟨4, .data⟩) (by simp) rfl rfl; have hN := hF.back hN 10 rfl (by decide) (e := ⟨9, .data⟩) (by simp) rfl rfl; have hN := hF.back hN 11 rfl (by decide) (e := ⟨10, .data⟩) (by simp) rfl rfl
                    have hR := hR.1 hN
                    have e50 := hF.gv hR.2 HQ 1 rfl (hpre ⟨1, .data⟩ (by simp) rfl) rfl; have e51 := hF.gv hR.2 HQ 2 rfl (hpre ⟨2, .data⟩ (by simp) rfl) rfl; have hgoal := RQA.go (P := (AppP (w5.heap.size) (u11) (swRows N D d a v G (t - 1)) ((y1, y2)) wr)) hR hst HQ 3 rfl (by decide) hN; clear hF hpre hl hR hN; go_simp; exact ⟨_, rfl, hgoal _ _ (Below.refl _ _) rfl⟩
                  | 4, ho =>
                    simp at ho; subst ho; refine step_plain rfl ?_; have hN := hF.later hl 9 rfl (e := ⟨4, .data⟩) (by simp) rfl rfl; have hN := hF.back hN 10 rfl (by decide) (e := ⟨9, .data⟩) (by simp) rfl rfl; have hN := hF.back hN 11 rfl (by decide) (e := ⟨10, .data⟩) (by simp) rfl rfl
                    have hR := hR.1 hN
                    have e52 := hF.gv hR.2 HQ 3 rfl (hpre ⟨3, .data⟩ (by simp) rfl) rfl; have hgoal := RQA.go (P := (AppP (w5.heap.size) (u11) (swRows N D d a v G (t - 1)) ((y1, y2)) wr)) hR hst HQ 4 rfl (by decide) hN; have q0 := cell_keep hR.1 hc5; clear hF hpre hl hR hN; go_simp; exact ⟨_, rfl, hgoal _ _ (Below.refl _ _) rfl⟩
                  | 5, ho =>
                    simp at ho; subst ho; refine step_plain rfl ?_; have hN := hF.later hl 6 rfl (e := ⟨5, .data⟩) (by simp) rfl rfl; have hN := hF.back hN 8 rfl (by decide) (e := ⟨6, .data⟩) (by simp) rfl rfl; have hN := hF.back hN 9 rfl (by decide) (e := ⟨8, .data⟩) (by simp) rfl rfl; have hN := hF.back hN 10 rfl (by decide) (e := ⟨9, .data⟩) (by simp) rfl rfl; have hN := hF.back hN 11 rfl (by decide) (e := ⟨10, .data⟩) (by simp) rfl rfl
                    have hR := hR.1 hN
                    have e3 := hF.was 3 (by kernel_rfl) rfl; have hgoal := RQA.go (P := (AppP (w5.heap.size) (u11) (swRows N D d a v G (t - 1)) ((y1, y2)) wr)) hR hst HQ 5 rfl (by decide) hN; clear hF hpre hl hR hN; go_simp; exact ⟨_, rfl, hgoal _ _ (Below.refl _ _) rfl⟩
                  | 6, ho =>
                    simp at ho; subst ho; refine step_plain rfl ?_; have hN := hF.later hl 8 rfl (e := ⟨6, .data⟩) (by simp) rfl rfl; have hN := hF.back hN 9 rfl (by decide) (e := ⟨8, .data⟩) (by simp) rfl rfl; have hN := hF.back hN 10 rfl (by decide) (e := ⟨9, .data⟩) (by simp) rfl rfl; have hN := hF.back hN 11 rfl (by decide) (e := ⟨10, .data⟩) (by simp) rfl rfl
                    have hR := hR.1 hN
                    have e54 := hF.gv hR.2 HQ 5 rfl (hpre ⟨5, .data⟩ (by simp) rfl) rfl; have hgoal := RQA.go (P := (AppP (w5.heap.size) (u11) (swRows N D d a v G (t - 1)) ((y1, y2)) wr)) hR hst HQ 6 rfl (by decide) hN; have q0 := cell_keep hR.1 hd2; clear hF hpre hl hR hN; go_simp; exact ⟨_, rfl, hgoal _ _ (Below.refl _ _) rfl⟩
                  | 7, ho =>
                    simp at ho; subst ho; refine step_plain rfl ?_; have hN := hF.later hl 8 rfl (e := ⟨7, .data⟩) (by simp) rfl rfl; have hN := hF.back hN 9 rfl (by decide) (e := ⟨8, .data⟩) (by simp) rfl rfl; have hN := hF.back hN 10 rfl (by decide) (e := ⟨9, .data⟩) (by simp) rfl rfl; have hN := hF.back hN 11 rfl (by decide) (e := ⟨10, .data⟩) (by simp) rfl rfl
                    have hR := hR.1 hN
                    have e12 := hF.was 12 (by kernel_rfl) rfl; have hgoal := RQA.go (P := (AppP (w5.heap.size) (u11) (swRows N D d a v G (t - 1)) ((y1, y2)) wr)) hR hst HQ 7 rfl (by decide) hN; clear hF hpre hl hR hN; go_simp; exact ⟨_, rfl, hgoal _ _ (Below.refl _ _) rfl⟩
                  | 8, ho =>
                    simp at ho; subst ho; refine step_plain rfl ?_; have hN := hF.later hl 9 rfl (e := ⟨8, .data⟩) (by simp) rfl rfl; have hN := hF.back hN 10 rfl (by decide) (e := ⟨9, .data⟩) (by simp) rfl rfl; have hN := hF.back hN 11 rfl (by decide) (e := ⟨10, .data⟩) (by simp) rfl rfl
                    have hR := hR.1 hN
                    have e55 := hF.gv hR.2 HQ 6 rfl (hpre ⟨6, .data⟩ (by simp) rfl) rfl; have e56 := hF.gv hR.2 HQ 7 rfl (hpre ⟨7, .data⟩ (by simp) rfl) rfl; have hgoal := RQA.go (P := (AppP (w5.heap.size) (u11) (swRows N D d a v G (t - 1)) ((y1, y2)) wr)) hR hst HQ 8 rfl (by decide) hN
                    have hM := Lib.hid hR.1
                    clear hF hpre hl hR hN; go_simp
                    refine ⟨trivial, ?_⟩
                    refine CallsIn.mono (callsIn_wide.2 (HPO.out _)) ?_
                    rintro e w9 ⟨rfl, rfl⟩
                    exact ⟨_, rfl, hgoal _ _ (Below.refl _ _) rfl⟩
                  | 9, ho =>
                    simp at ho; subst ho; refine step_plain rfl ?_; have hN := hF.later hl 10 rfl (e := ⟨9, .data⟩) (by simp) rfl rfl; have hN := hF.back hN 11 rfl (by decide) (e := ⟨10, .data⟩) (by simp) rfl rfl
                    have hR := hR.1 hN
                    have e53 := hF.gv hR.2 HQ 4 rfl (hpre ⟨4, .data⟩ (by simp) rfl) rfl; have e57 := hF.gv hR.2 HQ 8 rfl (hpre ⟨8, .data⟩ (by simp) rfl) rfl; have hgoal := RQA.go (P := (AppP (w5.heap.size) (u11) (swRows N D d a v G (t - 1)) ((y1, y2)) wr)) hR hst HQ 9 rfl (by decide) hN
                    have hM := Lib.hid hR.1
                    clear hF hpre hl hR hN; go_simp
                    refine ⟨trivial, ?_⟩
                    refine CallsIn.mono (callsIn_wide.2 (HLO.out _)) ?_
                    rintro e w9 ⟨rfl, hb9⟩
                    exact ⟨_, rfl, hgoal _ _ hb9 rfl⟩
                  | 10, ho =>
                    simp at ho; subst ho; refine step_plain rfl ?_; have hN := hF.later hl 11 rfl (e := ⟨10, .data⟩) (by simp) rfl rfl
                    have hR := hR.1 hN
                    have e58 := hF.gv hR.2 HQ 9 rfl (hpre ⟨9, .data⟩ (by simp) rfl) rfl
                    have hgoal : ∀ v0' w0', Below x.heap.size x w0' → OneP (y1, y2) v0' w0' → RQA Q wr 11 (AppP (w5.heap.size) (u11) (swRows N D d a v G (t - 1)) ((y1, y2)) wr) (upd val 10 v0') (L.setIfInBounds 10 true) w0' := fun v0' w0' hb hq => RQA.step hR hst hb ((U10.out _ _).2 hq) (by decide) hN
                    have hM := Lib.hid hR.1
                    clear hF hpre hl hR hN; go_simp; exact ⟨_, rfl, hgoal _ _ ((Below.refl _ _).alloc (Nat.le_refl _) _) (OneP.new (y := (y1, y2)))⟩
                  | 11, ho =>
                    simp at ho; subst ho; refine step_plain rfl ?_
                    have hls : 11 < L.size := by rw [hF.lsize]; decide
                    have hN0 : L.getD 11 false = false := by rw [← getD_same hls]; exact hl
                    have hN := hF.later hl 12 rfl (e := ⟨11, .data⟩) (by simp) rfl rfl
                    have hR := hR.1 hN0
                    have e49 := hF.gv hR.2 HQ 0 rfl (hpre ⟨0, .data⟩ (by simp) rfl) rfl; have e59 := hF.gave 10 rfl (hpre ⟨10, .data⟩ (by simp) rfl) rfl
                    have v10 := (U10.out _ _).1 (hR.2 10 (hpre ⟨10, .data⟩ (by simp) rfl))
                    refine step_pushP (.tmp 49) (.tmp 59) rfl (w5.heap.size) (u11) (swRows N D d a v G (t - 1)) (by simpa [Act.eval] using e49) (HOW.out.stay hR.1) _ ((y1, y2)) (by simpa [Act.eval] using e59) v10 hlen (Nat.le_trans hbs hR.1.size) ?_
                    intro v' w9 h9 g9'
                    exact ⟨_, rfl, RQA.push hls hN ⟨h9, _, hR.1, g9'⟩⟩
                  | 12, ho =>
                    simp at ho; subst ho; refine step_plain rfl ?_
                    have hs := hpre ⟨11, .data⟩ (by simp) rfl
                    have hgoal := hR.assign hs; have e60 := hF.gave 11 rfl hs rfl; clear hF hpre hl hR hs; go_simp; exact ⟨_, rfl, hgoal⟩
                  | i + 13, ho => simp at ho
                case hend =>
                  intro val L b' x hF hall hR
                  have e := hF.all (by kernel_rfl) hall
                  obtain ⟨ap, asg⟩ := hR.2 (hall 11 (by decide))
                  have asg := asg (hall 12 (by decide))
                  have AP := Lib.hid ap
                  clear hF hall hR hst ap HQ U10
                  subst e
                  simp [final, dstOf, List.range, List.range.loop]
                  rw [asg]
                  clear asg
                  have HNX := Lib.hid (show Below w5.heap.size w5 x from (by
                    obtain ⟨_, y9, h9, g9⟩ := AP.out
                    exact ((HBW.out.trans (h9.mono hbs)).grown g9 (Nat.le_trans hbs h9.size) (fun q hq => (HOW.out.lt q hq).1))))
                  have HNO := Lib.hid AP.out.1
                  clear AP
                  generalize val 11 = v11 at *
                  go_wp2
                  go_roundw
                  case rel => exact ⟨t + 1, by omega, by omega, by go_num, by rw [show t + 1 - 1 = t by omega, HRS.out]; exact HNO.out, HNX.out⟩
                  case measure => simp [intOf]; omega
              · obtain rfl : t = k + 1 := by omega
                go_wp2
                go_ret2
                exact ⟨_, by rw [HE.out.2]; rfl, by rw [HE.out.1]; exact HOW.out.rs, HB5.out.trans (HBW.out.mono HB5.out.size)⟩
end Go.Proofs.Ytnnmmojlgikdgaa

/- works(). -/
namespace Go.Proofs.Ytnnmmojlgikdgaa
open Go.RowKit

theorem RI.two {w : World} {B b : Nat} {x y : Int} (hb : b < B) (h0 : w.cell? ⟨b, 0, none⟩ = some (.int .i64 x)) (h1 : w.cell? ⟨b, 1, none⟩ = some (.int .i64 y)) : RI w B (some ⟨b, 0, none⟩) [x, y] := fun _ =>
  ⟨_, _, rfl, hb, fun j u hu => by
    match j, hu with
    | 0, hu => simp at hu; subst hu; exact h0
    | 1, hu => simp at hu; subst hu; exact h1
    | j + 2, hu => simp at hu⟩
theorem RR.two {w : World} {B b : Nat} {r0 r1 : List Int} {A0 A1 : Option Addr} {c0 c1 : Nat} (hb : b < B) (h0 : w.cell? ⟨b, 0, none⟩ = some (.slice A0 r0.length c0)) (h1 : w.cell? ⟨b, 1, none⟩ = some (.slice A1 r1.length c1))
    (g0 : RI w B A0 r0) (g1 : RI w B A1 r1) : RR w B (some ⟨b, 0, none⟩) [r0, r1] := fun _ =>
  ⟨_, _, rfl, hb, fun j u hu => by
    match j, hu with
    | 0, hu => simp at hu; subst hu; exact ⟨_, _, h0, g0⟩
    | 1, hu => simp at hu; subst hu; exact ⟨_, _, h1, g1⟩
    | j + 2, hu => simp at hu⟩
def e7X : List Int := [0, 50]
def e7Y : List Int := [0, 20]
def e7V : List (List Int) := [[300, 200], [200, 100]]
theorem e7_rows : ∀ r ∈ e7V, r.length ≤ maxLen := by
  intro r hr
  simp [e7V] at hr
  rcases hr with rfl | rfl <;> exact le_maxLen (by simp)
def Gives7 (w : World) (e : Ending) (w' : World) : Prop :=
  ∃ AX AY AV cx cy cv, e = .returned (.agg #[.int .i64 50, .slice AX 2 cx, .slice AY 2 cy, .slice AV 2 cv, .int .i64 2]) ∧ HT w' w'.heap.size AX AY AV 2 2 2 e7X e7Y e7V ∧ Below w.heap.size w w'
theorem example7_any (w : World) : Calls Try.prog 62 #[] w (Gives7 w) := by
  go_enter Try.func62, Try.ntmps62
  go_wp2
  refine bodyPost_ret (v := .agg #[.int .i64 50, .slice (some ⟨w.heap.size + 1, 0, none⟩) 2 2, .slice (some ⟨w.heap.size + 1 + 1, 0, none⟩) 2 2, .slice (some ⟨w.heap.size + 1 + 1 + 1 + 1 + 1, 0, none⟩) 2 2, .int .i64 2]) (by simp [results, Try.results62, go_sem]) rfl ?_
  refine ⟨_, _, _, _, _, _, rfl, ⟨rfl, rfl, rfl, le_maxLen (by omega), le_maxLen (by omega), le_maxLen (by omega), e7_rows, ⟨?_, ?_, ?_⟩, Nat.le_refl _⟩, by go_grown⟩
  · exact RI.two (by simp <;> omega) (by go_simp) (by go_simp)
  · exact RI.two (by simp <;> omega) (by go_simp) (by go_simp)
  · exact RR.two (A0 := some ⟨w.heap.size + 1 + 1 + 1, 0, none⟩) (A1 := some ⟨w.heap.size + 1 + 1 + 1 + 1, 0, none⟩) (c0 := 2) (c1 := 2)
      (by simp) (by go_simp) (by go_simp) (RI.two (by simp <;> omega) (by go_simp) (by go_simp)) (RI.two (by simp <;> omega) (by go_simp) (by go_simp))

theorem e7_sw : swA 1 1 2 1 1 [0, 1] = ([(1, 1), (3, 2)], 0) := by decide +kernel
theorem e7_deep : deepN e7X e7Y e7V 50 2 0 10 200 = (25, 0) := by decide +kernel

def WK7 : Prop := ∀ w, Calls Try.prog 22 #[] w fun e w' => e = .returned (.bool true) ∧ Below w.heap.size w w'
set_option maxRecDepth 100000 in
theorem works7_any : WK7 := by
  intro w
  have HSW := Lib.hid (fun (W : World) (g : Nat) (B : Nat) (hB : B ≤ W.heap.size) (hr : RI W B (some ⟨g, 0, none⟩) [0, 1]) => swingT_any 1 1 2 1 1 (some ⟨g, 0, none⟩) 2 2 B [0, 1] W rfl (le_maxLen (by omega)) hB hr)
  rw [e7_sw] at HSW
  have HEX := Lib.hid example7_any
  have HDE := Lib.hid (fun (AX AY AV : Option Addr) (cx cy cv : Nat) (W : World) (h : HT W W.heap.size AX AY AV 2 2 2 e7X e7Y e7V) => deepest_any 50 2 0 10 200 AX AY AV 2 cx 2 cy 2 cv W.heap.size e7X e7Y e7V W h)
  rw [e7_deep] at HDE
  have HSA := Lib.hid (fun (u u' : Value) (W : World) (h : QC [(1, 1), (3, 2)] u W) (h' : QC [(1, 1), (3, 2)] u' W) => sameFr_any [(1, 1), (3, 2)] u u' W h h' (le_maxLen (by simp)))
  go_enter Try.func22, Try.ntmps22
  go_wp2_with (first
    | (go_at_call 17; refine Calls.mono (HSW.out _ w.heap.size (w.heap.size + 1) (by simp) (RI.new2 rfl)) ?_; rintro e w1 ⟨u1, rfl, hq1, hb1⟩; have HQ1 := Lib.hid hq1; have HB1 := Lib.hid (Below.trans (show Below w.heap.size w _ by go_grown) (hb1.mono (by simp <;> omega))); clear hb1 hq1)
    | (go_at_call 62; refine Calls.mono (HEX.out _) ?_; rintro e w2 ⟨AX, AY, AV, cx, cy, cv, rfl, hT, hb2⟩; have HT2 := Lib.hid hT; have HQ2 := Lib.hid (HQ1.out.stay hb2); have HB2 := Lib.hid (HB1.out.trans (hb2.mono HB1.out.size)); clear hT hb2)
    | (go_at_call 38; refine Calls.mono (HDE.out _ _ _ _ _ _ _ HT2.out) ?_; rintro e w3 ⟨rfl, hb3⟩; have HQ3 := Lib.hid (HQ2.out.stay hb3); have HB3 := Lib.hid (HB2.out.trans (hb3.mono HB2.out.size)); clear hb3)
    | (go_at_call 19; refine Calls.mono (HSA.out _ _ _ (HQ3.out.stay ((Below.refl _ _).alloc (Nat.le_refl _) _)) ⟨_, _, rfl, (RS.new2 rfl).more (by simp)⟩) ?_; rintro e w4 ⟨rfl, hb4⟩; have HB4 := Lib.hid ((HB3.out.alloc HB3.out.size _).trans (hb4.mono (by simp; have := HB3.out.size; omega))); clear hb4))
  go_ret
  exact ⟨rfl, HB4.out⟩
end Go.Proofs.Ytnnmmojlgikdgaa

/- Arguments that are points, pairs of numbers, areas: opened. -/
namespace Go.Proofs.Ytnnmmojlgikdgaa
open Go.RowKit Go.WideShapes Go.ChangeShapes Go.ChangeAt Go.Joins Go.Deep

section
variable {H : Type} {enc : TypeId × Value → H}
set_option maxRecDepth 100000
theorem cells_pair2 : Try.prog.cellsOf 24 = 2 := by kernel_rfl
theorem cells_int2 : Try.prog.cellsOf 3 = 1 := by kernel_rfl

theorem pair_open2 {w : World} {base : Nat} {spare : Nat → Bool} {held : Bool} {r : Reach} {b0 : Nat} {v : Value} {d : DataW H} {p : List MemPlace}
    (hv : Value.okWide Try.prog w r b0 24 v) (h : DataW.Trod enc Try.prog w base spare held 24 v d p) :
    ∃ a b : Int, v = .agg #[.int .i64 a, .int .i64 b] := by
  simp only [Value.okWide, Try.underlying24] at hv
  obtain ⟨cs, rfl, hsz, _⟩ := hv
  obtain ⟨c0, c1, rfl⟩ := array2 (hsz.trans cells_pair2)
  obtain ⟨fuel, hf⟩ := h
  obtain ⟨xs, m, _, hx, _, hlen, hg⟩ := DataW.trod_array Try.underlying24 hf
  match xs, hlen with
  | [y0, y1], _ =>
    have h0 := hg 0 (by omega)
    have h1 := hg 1 (by omega)
    simp only [Value.cells, cells_int2] at h0 h1
    simp at h0 h1
    obtain ⟨a, e0, _, _⟩ := DataW.trod_int Try.underlying3 h0
    obtain ⟨b, e1, _, _⟩ := DataW.trod_int Try.underlying3 h1
    simp at e0 e1
    subst e0 e1
    exact ⟨a, b, rfl⟩
end

end Go.Proofs.Ytnnmmojlgikdgaa

/- Arguments of layer 7's laws: opened; in their boxes. -/
namespace Go.Proofs.Ytnnmmojlgikdgaa
open Go.RowKit Go.WideShapes Go.ChangeShapes Go.ChangeAt Go.Joins Go.Deep

theorem arr5 {cs : Array Value} (h : cs.size = 5) : ∃ a b c d e, cs = #[a, b, c, d, e] :=
  ⟨cs[0], cs[1], cs[2], cs[3], cs[4], by
    apply Array.ext (by simp [h])
    intro i h1 h2
    simp at h2
    match i, h2 with
    | 0, _ => rfl
    | 1, _ => rfl
    | 2, _ => rfl
    | 3, _ => rfl
    | 4, _ => rfl⟩

section
variable {H : Type} {enc : TypeId × Value → H}
set_option maxRecDepth 100000
theorem cells_hoist : Try.prog.cellsOf 57 = 5 := by kernel_rfl
theorem cells_wgt : Try.prog.cellsOf 66 = 2 := by kernel_rfl
theorem cells_int7 : Try.prog.cellsOf 3 = 1 := by kernel_rfl
theorem cells_tab7 : Try.prog.cellsOf 55 = 3 := by kernel_rfl
theorem cells_ints7 : Try.prog.cellsOf 25 = 1 := by kernel_rfl
theorem cells_rows7 : Try.prog.cellsOf 53 = 1 := by kernel_rfl

/-- A hoist by value, opened. -/
theorem hoist_open {w : World} {base : Nat} {r : Reach} {b0 : Nat} {v : Value} {d : DataW H} {p : List MemPlace}
    (hv : Value.okWide Try.prog w r b0 57 v) (h : DataW.Trod enc Try.prog w base (fun _ => true) true 57 v d p) :
    ∃ cable AX nx cx AY ny cy AV nv cv charge X Y V, v = .agg #[.int .i64 cable, .slice AX nx cx, .slice AY ny cy, .slice AV nv cv, .int .i64 charge] ∧ HT w w.heap.size AX AY AV nx ny nv X Y V := by
  obtain ⟨cs, rfl, hsz⟩ := okWide_struct Try.underlying57 hv
  obtain ⟨c0, c1, c2, c3, c4, rfl⟩ := arr5 (hsz.trans cells_hoist)
  obtain ⟨fuel, hf⟩ := h
  obtain ⟨y0, y1, y2, n, _, _, h0, h1, h2⟩ := trod_struct3 Try.underlying57 hf
  simp only [cells_int7, cells_tab7] at h0 h1 h2
  obtain ⟨cable, e0, _, _⟩ := DataW.trod_int Try.underlying3 (by simpa [Value.cells] using h0)
  obtain ⟨charge, e4, _, _⟩ := DataW.trod_int Try.underlying3 (by simpa [Value.cells] using h2)
  obtain ⟨z0, z1, z2, n', _, _, k0, k1, k2⟩ := trod_struct3 Try.underlying55 (by simpa [Value.cells] using h1)
  simp only [cells_ints7, cells_rows7] at k0 k1 k2
  obtain ⟨AX, nx, cx, X, e1, hx, hnx, rx⟩ := ints_of (by simpa using k0)
  obtain ⟨AY, ny, cy, Y, e2, hy, hny, ry⟩ := ints_of (by simpa using k1)
  obtain ⟨AV, nv, cv, V, e3, hv', hnv, hnr, rv⟩ := rows_of (by simpa using k2)
  simp at e0 e1 e2 e3 e4
  subst e0 e1 e2 e3 e4
  exact ⟨cable, AX, nx, cx, AY, ny, cy, AV, nv, cv, charge, X, Y, V, rfl, ⟨hx, hy, hv', hnx, hny, hnv, hnr, ⟨rx, ry, rv⟩, Nat.le_refl _⟩⟩
theorem span7_open {w : World} {base : Nat} {spare : Nat → Bool} {held : Bool} {r : Reach} {b0 : Nat} {v : Value} {d : DataW H} {p : List MemPlace}
    (hv : Value.okWide Try.prog w r b0 27 v) (h : DataW.Trod enc Try.prog w base spare held 27 v d p) : ∃ a b : Int, v = .agg #[.int .i64 a, .int .i64 b] := by
  obtain ⟨a, b, e, _⟩ := span_open hv h
  exact ⟨a, b, e⟩
/-- A weight by value, opened. -/
theorem weight_open {w : World} {base : Nat} {spare : Nat → Bool} {held : Bool} {r : Reach} {b0 : Nat} {v : Value} {d : DataW H} {p : List MemPlace}
    (hv : Value.okWide Try.prog w r b0 66 v) (h : DataW.Trod enc Try.prog w base spare held 66 v d p) :
    ∃ a b : Int, v = .agg #[.int .i64 a, .int .i64 b] := by
  obtain ⟨c0, c1, y0, y1, m, rfl, _, _, hy0, hy1⟩ := open_agg2 Try.underlying66 (by kernel_rfl) cells_wgt hv h
  obtain ⟨a, e0, _, _⟩ := DataW.trod_int Try.underlying3 hy0
  obtain ⟨b, e1, _, _⟩ := DataW.trod_int Try.underlying3 hy1
  simp at e0 e1
  subst e0 e1
  exact ⟨a, b, rfl⟩
end

/-- A hoist and winds in their boxes. -/
structure AH (w W : World) (cable : Int) (AX : Option Addr) (nx cx : Nat) (AY : Option Addr) (ny cy : Nat) (AV : Option Addr) (nv cv : Nat) (charge y1 y2 : Int) : Prop where
  hb : HB W w.heap.size cable AX nx cx AY ny cy AV nv cv charge
  s0 : W.cell? ⟨w.heap.size + 1, 0, none⟩ = some (.int .i64 y1)
  s1 : W.cell? ⟨w.heap.size + 1, 1, none⟩ = some (.int .i64 y2)
  b : Below w.heap.size w W
section
variable {w W W' : World} {cable charge y1 y2 : Int} {AX AY AV : Option Addr} {nx cx ny cy nv cv : Nat}
theorem AH.next (h : AH w W cable AX nx cx AY ny cy AV nv cv charge y1 y2) (hb : Below W.heap.size W W') : AH w W' cable AX nx cx AY ny cy AV nv cv charge y1 y2 :=
  ⟨h.hb.keep hb, cell_keep hb h.s0, cell_keep hb h.s1, h.b.trans (hb.mono h.b.size)⟩
theorem AH.start (w : World) : AH w ((w.alloc (.cells #[.int .i64 cable, .slice AX nx cx, .slice AY ny cy, .slice AV nv cv, .int .i64 charge] 57)).alloc (.cells #[.int .i64 y1, .int .i64 y2] 27)) cable AX nx cx AY ny cy AV nv cv charge y1 y2 :=
  ⟨(HB.new w _).keep ((Below.refl _ _).alloc (Nat.le_refl _) _), hoist_cell w cable charge y1 y2 AX AY AV nx cx ny cy nv cv 0 _ _ rfl, hoist_cell w cable charge y1 y2 AX AY AV nx cx ny cy nv cv 1 _ _ rfl, by go_grown⟩
theorem AH.l1 (h : AH w W cable AX nx cx AY ny cy AV nv cv charge y1 y2) : w.heap.size + 1 < W.heap.size := World.block_lt_of_cell? _ _ h.s0
theorem AH.alloc (h : AH w W cable AX nx cx AY ny cy AV nv cv charge y1 y2) (x : Obj) : AH w (W.alloc x) cable AX nx cx AY ny cy AV nv cv charge y1 y2 := h.next ((Below.refl _ _).alloc (Nat.le_refl _) _)
end
/-- Two integers in a box. -/
structure I2 (W : World) (g : Nat) (p q : Int) : Prop where
  c0 : W.cell? ⟨g, 0, none⟩ = some (.int .i64 p)
  c1 : W.cell? ⟨g, 1, none⟩ = some (.int .i64 q)
theorem I2.next {W W' : World} {g : Nat} {p q : Int} (h : I2 W g p q) (hb : Below W.heap.size W W') : I2 W' g p q := ⟨cell_keep hb h.c0, cell_keep hb h.c1⟩
theorem I2.new {W : World} {p q : Int} {T : TypeId} {g : Nat} (hg : W.heap.size = g) : I2 (W.alloc (.cells #[.int .i64 p, .int .i64 q] T)) g p q := by
  subst hg
  exact ⟨by rw [cell_newest]; rfl, by rw [cell_newest]; rfl⟩
theorem I2.lt {W : World} {g : Nat} {p q : Int} (h : I2 W g p q) : g < W.heap.size := World.block_lt_of_cell? _ _ h.c0
end Go.Proofs.Ytnnmmojlgikdgaa

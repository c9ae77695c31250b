/- Meet and Hull, of both sides. -/
import Derived.Test.YtjdahphnmeaolaaBox
namespace Go.Proofs.Ytjdahphnmeaolaa
open Go.RowKit

def vI (a b : Int) : Bool := decide (-1000000 ≤ a) && decide (a ≤ 1000000) && (decide (a ≤ b) && decide (b ≤ 1000000))
theorem vS_vI (a b : Int) : vS (a, b) = vI a b := by
  rw [Bool.eq_iff_iff]
  simp [vS, vI, wB]
  omega
def twoE (a b c d : Int) : Int := if vI a b && vI c d then 0 else 10
def meetS (a b c d : Int) : (Int × Int) × Int := if vI a b && vI c d then (if min b d < max a c then ((0, 0), 3) else ((max a c, min b d), 0)) else ((0, 0), 10)
def hullS (a b c d : Int) : (Int × Int) × Int := if vI a b && vI c d then ((min a c, max b d), 0) else ((0, 0), 10)

theorem from_any (a b c : Int) (w : World) : Calls Try.prog 48 #[.int .i64 a, .int .i64 b, .int .i64 c] w fun e w' => e = .returned (.bool (decide (b ≤ a) && decide (a ≤ c))) ∧ w = w' := by
  by_cases h1 : b ≤ a <;> by_cases h2 : a ≤ c
  all_goals
    go_enter Try.func48, Try.ntmps48
    go_wp2
    go_ret
    exact ⟨ret_bool (by simp; omega), rfl⟩

theorem rvalid_any (a b : Int) (w : World) : Calls Try.prog 57 #[.agg #[.int .i64 a, .int .i64 b]] w fun e w' => e = .returned (.bool (vI a b)) ∧ Below w.heap.size w w' := by
  by_cases h1 : (decide (-1000000 ≤ a) && decide (a ≤ 1000000)) = true
  · go_enter Try.func57, Try.ntmps57
    go_wp2_with (go_at_call 48; refine Calls.mono (from_any _ _ _ _) ?_; rintro e w1 ⟨rfl, rfl⟩)
    go_ret
    exact ⟨ret_bool (by unfold vI; rw [h1]; rfl), by go_grown⟩
  · have h2 : (decide (-1000000 ≤ a) && decide (a ≤ 1000000)) = false := by simpa using h1
    have H2 := Lib.hid h2
    clear h1 h2
    go_enter Try.func57, Try.ntmps57
    go_wp2_with (go_at_call 48; refine Calls.mono (from_any _ _ _ _) ?_; rintro e w1 ⟨rfl, rfl⟩; rw [H2.out])
    go_ret
    exact ⟨ret_bool (by unfold vI; rw [H2.out]; rfl), by go_grown⟩

theorem two_any (a b c d : Int) (w : World) : Calls Try.prog 70 #[.agg #[.int .i64 a, .int .i64 b], .agg #[.int .i64 c, .int .i64 d]] w fun e w' => e = .returned (.int .i64 (twoE a b c d)) ∧ Below w.heap.size w w' := by
  cases h1 : vI a b with
  | false =>
    have e0 : twoE a b c d = 10 := by unfold twoE; rw [h1]; rfl
    rw [e0]
    clear e0
    have H1 := Lib.hid h1
    clear h1
    go_enter Try.func70, Try.ntmps70
    go_wp2_with (go_at_call 57; refine Calls.mono (rvalid_any _ _ _) ?_; rintro e w1 ⟨rfl, hb1⟩; rw [H1.out])
    go_ret
    exact ⟨rfl, Below.trans (by go_grown) (hb1.mono (by simp; omega))⟩
  | true =>
    cases h2 : vI c d with
    | false =>
      have e0 : twoE a b c d = 10 := by unfold twoE; rw [h1, h2]; rfl
      rw [e0]
      clear e0
      have H1 := Lib.hid h1
      have H2 := Lib.hid h2
      clear h1 h2
      go_enter Try.func70, Try.ntmps70
      go_wp2_with (first
        | (go_at_call_of 57 (Value.agg #[.int .i64 a, .int .i64 b]); refine Calls.mono (rvalid_any a b _) ?_; rintro e w1 ⟨rfl, hb1⟩; rw [H1.out]; obtain ⟨hc1, hf1⟩ := bcell hb1; have hz1 := hb1.size; simp at hz1; have hz2 : w.heap.size + 1 < w1.heap.size := (by omega); have hbb1 : Below w.heap.size w w1 := (Below.trans (by go_grown) (hb1.mono (by simp; omega))))
        | (go_at_call 57; refine Calls.mono (rvalid_any c d _) ?_; rintro e w2 ⟨rfl, hb2⟩; rw [H2.out]))
      go_ret
      exact ⟨rfl, hbb1.trans (hb2.mono (by omega))⟩
    | true =>
      have e0 : twoE a b c d = 0 := by unfold twoE; rw [h1, h2]; rfl
      rw [e0]
      clear e0
      have H1 := Lib.hid h1
      have H2 := Lib.hid h2
      clear h1 h2
      go_enter Try.func70, Try.ntmps70
      go_wp2_with (first
        | (go_at_call_of 57 (Value.agg #[.int .i64 a, .int .i64 b]); refine Calls.mono (rvalid_any a b _) ?_; rintro e w1 ⟨rfl, hb1⟩; rw [H1.out]; obtain ⟨hc1, hf1⟩ := bcell hb1; have hz1 := hb1.size; simp at hz1; have hz2 : w.heap.size + 1 < w1.heap.size := (by omega); have hbb1 : Below w.heap.size w w1 := (Below.trans (by go_grown) (hb1.mono (by simp; omega))))
        | (go_at_call 57; refine Calls.mono (rvalid_any c d _) ?_; rintro e w2 ⟨rfl, hb2⟩; rw [H2.out]))
      go_ret
      exact ⟨rfl, hbb1.trans (hb2.mono (by omega))⟩

set_option maxHeartbeats 1000000 in
theorem rhull_any (a b c d : Int) (w : World) : Calls Try.prog 28 #[.agg #[.int .i64 a, .int .i64 b], .agg #[.int .i64 c, .int .i64 d]] w fun e w' =>
    e = .returned (.tuple #[.agg #[.int .i64 (hullS a b c d).1.1, .int .i64 (hullS a b c d).1.2], .int .i64 (hullS a b c d).2]) ∧ Below w.heap.size w w' := by
  cases h1 : (vI a b && vI c d) with
  | false =>
    have e0 : hullS a b c d = ((0, 0), 10) := by unfold hullS; rw [h1]; rfl
    rw [e0]
    clear e0
    have hE : twoE a b c d = 10 := by unfold twoE; rw [h1]; rfl
    have HE := Lib.hid hE
    clear hE h1
    go_enter Try.func28, Try.ntmps28
    go_upto_region 2 with (go_at_call 70; refine Calls.mono (two_any a b c d _) ?_; rintro e w1 ⟨rfl, hb1⟩; rw [HE.out])
    have t0 : w1.cell? ⟨w.heap.size, 0, none⟩ = some (.int .i64 a) := cell_keep hb1 (by go_simp)
    have t1 : w1.cell? ⟨w.heap.size, 1, none⟩ = some (.int .i64 b) := cell_keep hb1 (by go_simp)
    have t2 : w1.cell? ⟨w.heap.size + 1, 0, none⟩ = some (.int .i64 c) := cell_keep hb1 (by go_simp)
    have t3 : w1.cell? ⟨w.heap.size + 1, 1, none⟩ = some (.int .i64 d) := cell_keep hb1 (by go_simp)
    have t4 : w1.cell? ⟨w.heap.size + 1 + 1, 0, none⟩ = some (.int .i64 0) := cell_keep hb1 (by go_simp)
    have t5 : w1.cell? ⟨w.heap.size + 1 + 1, 1, none⟩ = some (.int .i64 0) := cell_keep hb1 (by go_simp)
    have t6 : w1.frozen? ⟨w.heap.size + 1 + 1, 0, none⟩ = false := (hb1.frozen (p := ⟨w.heap.size + 1 + 1, 0, none⟩) (by simp <;> omega)).trans (by go_simp)
    have t7 : w1.frozen? ⟨w.heap.size + 1 + 1, 1, none⟩ = false := (hb1.frozen (p := ⟨w.heap.size + 1 + 1, 1, none⟩) (by simp <;> omega)).trans (by go_simp)
    have l0 : w.heap.size < w1.heap.size := World.block_lt_of_cell? _ _ t0
    have l1 : w.heap.size + 1 < w1.heap.size := World.block_lt_of_cell? _ _ t2
    have l2 : w.heap.size + 1 + 1 < w1.heap.size := World.block_lt_of_cell? _ _ t4
    have hbw : Below w.heap.size w w1 := Below.trans (by go_grown) (hb1.mono (by simp <;> omega))
    have HBW := Lib.hid hbw
    clear hb1 hbw
    go_wp2
    have z1 : ∀ v, (w1.setCell ⟨w.heap.size + 1 + 1, 0, none⟩ v).cell? ⟨w.heap.size + 1 + 1, 0, none⟩ = some v := fun v => World.cell?_setCell_same' _ _ _ (by first | (rw [t4]; rfl) | (rw [World.cell?_alloc_past _ _ _ (by assumption), t4]; rfl))
    have z2 : ∀ v u, ((w1.setCell ⟨w.heap.size + 1 + 1, 0, none⟩ v).setCell ⟨w.heap.size + 1 + 1, 1, none⟩ u).cell? ⟨w.heap.size + 1 + 1, 1, none⟩ = some u := fun v u => World.cell?_setCell_same' _ _ _ (by rw [World.cell?_setCell_other _ _ _ _ (by simp)]; first | (rw [t5]; rfl) | (rw [World.cell?_alloc_past _ _ _ (by assumption), t5]; rfl))
    refine bodyPost_ret (v := .tuple #[.agg #[.int .i64 0, .int .i64 0], .int .i64 10]) (by simp [results, Try.results28, go_sem, z1, z2]) rfl ?_
    exact ⟨rfl, (HBW.out.setCell (by simp; omega) _).setCell (by simp; omega) _⟩
  | true =>
    have hE : twoE a b c d = 0 := by unfold twoE; rw [h1]; rfl
    have HE := Lib.hid hE
    clear hE
    have e0 : hullS a b c d = ((min a c, max b d), 0) := by unfold hullS; rw [h1]; rfl
    rw [e0]
    clear e0 h1
    go_enter Try.func28, Try.ntmps28
    go_upto_region 2 with (go_at_call 70; refine Calls.mono (two_any a b c d _) ?_; rintro e w1 ⟨rfl, hb1⟩; rw [HE.out])
    have t0 : w1.cell? ⟨w.heap.size, 0, none⟩ = some (.int .i64 a) := cell_keep hb1 (by go_simp)
    have t1 : w1.cell? ⟨w.heap.size, 1, none⟩ = some (.int .i64 b) := cell_keep hb1 (by go_simp)
    have t2 : w1.cell? ⟨w.heap.size + 1, 0, none⟩ = some (.int .i64 c) := cell_keep hb1 (by go_simp)
    have t3 : w1.cell? ⟨w.heap.size + 1, 1, none⟩ = some (.int .i64 d) := cell_keep hb1 (by go_simp)
    have t4 : w1.cell? ⟨w.heap.size + 1 + 1, 0, none⟩ = some (.int .i64 0) := cell_keep hb1 (by go_simp)
    have t5 : w1.cell? ⟨w.heap.size + 1 + 1, 1, none⟩ = some (.int .i64 0) := cell_keep hb1 (by go_simp)
    have t6 : w1.frozen? ⟨w.heap.size + 1 + 1, 0, none⟩ = false := (hb1.frozen (p := ⟨w.heap.size + 1 + 1, 0, none⟩) (by simp <;> omega)).trans (by go_simp)
    have t7 : w1.frozen? ⟨w.heap.size + 1 + 1, 1, none⟩ = false := (hb1.frozen (p := ⟨w.heap.size + 1 + 1, 1, none⟩) (by simp <;> omega)).trans (by go_simp)
    have l0 : w.heap.size < w1.heap.size := World.block_lt_of_cell? _ _ t0
    have l1 : w.heap.size + 1 < w1.heap.size := World.block_lt_of_cell? _ _ t2
    have l2 : w.heap.size + 1 + 1 < w1.heap.size := World.block_lt_of_cell? _ _ t4
    have hbw : Below w.heap.size w w1 := Below.trans (by go_grown) (hb1.mono (by simp <;> omega))
    have HBW := Lib.hid hbw
    clear hb1 hbw
    go_wp2
    have z1 : ∀ v, (w1.setCell ⟨w.heap.size + 1 + 1, 0, none⟩ v).cell? ⟨w.heap.size + 1 + 1, 0, none⟩ = some v := fun v => World.cell?_setCell_same' _ _ _ (by first | (rw [t4]; rfl) | (rw [World.cell?_alloc_past _ _ _ (by assumption), t4]; rfl))
    have z2 : ∀ v u, ((w1.setCell ⟨w.heap.size + 1 + 1, 0, none⟩ v).setCell ⟨w.heap.size + 1 + 1, 1, none⟩ u).cell? ⟨w.heap.size + 1 + 1, 1, none⟩ = some u := fun v u => World.cell?_setCell_same' _ _ _ (by rw [World.cell?_setCell_other _ _ _ _ (by simp)]; first | (rw [t5]; rfl) | (rw [World.cell?_alloc_past _ _ _ (by assumption), t5]; rfl))
    refine bodyPost_ret (v := .tuple #[.agg #[.int .i64 (min a c), .int .i64 (max b d)], .int .i64 0]) (by simp [results, Try.results28, go_sem, z1, z2]) rfl ?_
    exact ⟨rfl, (HBW.out.setCell (by simp; omega) _).setCell (by simp; omega) _⟩

set_option maxHeartbeats 1000000 in
theorem hull_any (a b c d : Int) (w : World) : Calls Try.prog 27 #[.agg #[.int .i64 a, .int .i64 b], .agg #[.int .i64 c, .int .i64 d]] w fun e w' =>
    e = .returned (.tuple #[.agg #[.int .i64 (hullS a b c d).1.1, .int .i64 (hullS a b c d).1.2], .int .i64 (hullS a b c d).2]) ∧ Below w.heap.size w w' := by
  cases h1 : (vI a b && vI c d) with
  | false =>
    have e0 : hullS a b c d = ((0, 0), 10) := by unfold hullS; rw [h1]; rfl
    rw [e0]
    clear e0
    have hE : [(a, b), (c, d)].all vS = false := by simp only [List.all_cons, List.all_nil, Bool.and_true, vS_vI]; exact h1
    have HE := Lib.hid hE
    clear hE h1
    go_enter Try.func27, Try.ntmps27
    go_wp2_with (go_at_call 65; refine Calls.mono (valid_any _ _ _ _ [(a, b), (c, d)] _ rfl (le_maxLen (by simp)) ?c3 (RS.new2 (by simp))) ?_; (case c3 => simp); rintro e w1 ⟨rfl, hb1⟩; rw [HE.out]; have t0 : w1.cell? ⟨w.heap.size, 0, none⟩ = some (.int .i64 a) := cell_keep hb1 (by go_simp); have t1 : w1.cell? ⟨w.heap.size, 1, none⟩ = some (.int .i64 b) := cell_keep hb1 (by go_simp); have t2 : w1.cell? ⟨w.heap.size + 1, 0, none⟩ = some (.int .i64 c) := cell_keep hb1 (by go_simp); have t3 : w1.cell? ⟨w.heap.size + 1, 1, none⟩ = some (.int .i64 d) := cell_keep hb1 (by go_simp); have t4 : w1.cell? ⟨w.heap.size + 1 + 1, 0, none⟩ = some (.int .i64 0) := cell_keep hb1 (by go_simp); have t5 : w1.cell? ⟨w.heap.size + 1 + 1, 1, none⟩ = some (.int .i64 0) := cell_keep hb1 (by go_simp); have t6 : w1.frozen? ⟨w.heap.size + 1 + 1, 0, none⟩ = false := (hb1.frozen (p := ⟨w.heap.size + 1 + 1, 0, none⟩) (by simp <;> omega)).trans (by go_simp); have t7 : w1.frozen? ⟨w.heap.size + 1 + 1, 1, none⟩ = false := (hb1.frozen (p := ⟨w.heap.size + 1 + 1, 1, none⟩) (by simp <;> omega)).trans (by go_simp); have l0 : w.heap.size < w1.heap.size := World.block_lt_of_cell? _ _ t0; have l1 : w.heap.size + 1 < w1.heap.size := World.block_lt_of_cell? _ _ t2; have l2 : w.heap.size + 1 + 1 < w1.heap.size := World.block_lt_of_cell? _ _ t4; have hbw : Below w.heap.size w w1 := Below.trans (by go_grown) (hb1.mono (by simp <;> omega)); have HBW := Lib.hid hbw; clear hb1 hbw)
    have z1 : ∀ v, (w1.setCell ⟨w.heap.size + 1 + 1, 0, none⟩ v).cell? ⟨w.heap.size + 1 + 1, 0, none⟩ = some v := fun v => World.cell?_setCell_same' _ _ _ (by first | (rw [t4]; rfl) | (rw [World.cell?_alloc_past _ _ _ (by assumption), t4]; rfl))
    have z2 : ∀ v u, ((w1.setCell ⟨w.heap.size + 1 + 1, 0, none⟩ v).setCell ⟨w.heap.size + 1 + 1, 1, none⟩ u).cell? ⟨w.heap.size + 1 + 1, 1, none⟩ = some u := fun v u => World.cell?_setCell_same' _ _ _ (by rw [World.cell?_setCell_other _ _ _ _ (by simp)]; first | (rw [t5]; rfl) | (rw [World.cell?_alloc_past _ _ _ (by assumption), t5]; rfl))
    refine bodyPost_ret (v := .tuple #[.agg #[.int .i64 0, .int .i64 0], .int .i64 10]) (by simp [results, Try.results27, go_sem, z1, z2]) rfl ?_
    exact ⟨rfl, (HBW.out.setCell (by simp; omega) _).setCell (by simp; omega) _⟩
  | true =>
    have hE : [(a, b), (c, d)].all vS = true := by simp only [List.all_cons, List.all_nil, Bool.and_true, vS_vI]; exact h1
    have HE := Lib.hid hE
    clear hE
    have e0 : hullS a b c d = ((min a c, max b d), 0) := by unfold hullS; rw [h1]; rfl
    rw [e0]
    clear e0 h1
    go_enter Try.func27, Try.ntmps27
    go_wp2_with (first | (go_at_call 65; refine Calls.mono (valid_any _ _ _ _ [(a, b), (c, d)] _ rfl (le_maxLen (by simp)) ?c3 (RS.new2 (by simp))) ?_; (case c3 => simp); rintro e w1 ⟨rfl, hb1⟩; rw [HE.out]; have t0 : w1.cell? ⟨w.heap.size, 0, none⟩ = some (.int .i64 a) := cell_keep hb1 (by go_simp); have t1 : w1.cell? ⟨w.heap.size, 1, none⟩ = some (.int .i64 b) := cell_keep hb1 (by go_simp); have t2 : w1.cell? ⟨w.heap.size + 1, 0, none⟩ = some (.int .i64 c) := cell_keep hb1 (by go_simp); have t3 : w1.cell? ⟨w.heap.size + 1, 1, none⟩ = some (.int .i64 d) := cell_keep hb1 (by go_simp); have t4 : w1.cell? ⟨w.heap.size + 1 + 1, 0, none⟩ = some (.int .i64 0) := cell_keep hb1 (by go_simp); have t5 : w1.cell? ⟨w.heap.size + 1 + 1, 1, none⟩ = some (.int .i64 0) := cell_keep hb1 (by go_simp); have t6 : w1.frozen? ⟨w.heap.size + 1 + 1, 0, none⟩ = false := (hb1.frozen (p := ⟨w.heap.size + 1 + 1, 0, none⟩) (by simp <;> omega)).trans (by go_simp); have t7 : w1.frozen? ⟨w.heap.size + 1 + 1, 1, none⟩ = false := (hb1.frozen (p := ⟨w.heap.size + 1 + 1, 1, none⟩) (by simp <;> omega)).trans (by go_simp); have l0 : w.heap.size < w1.heap.size := World.block_lt_of_cell? _ _ t0; have l1 : w.heap.size + 1 < w1.heap.size := World.block_lt_of_cell? _ _ t2; have l2 : w.heap.size + 1 + 1 < w1.heap.size := World.block_lt_of_cell? _ _ t4; have hbw : Below w.heap.size w w1 := Below.trans (by go_grown) (hb1.mono (by simp <;> omega)); have HBW := Lib.hid hbw; clear hb1 hbw) | (go_at_call 71; refine Calls.mono (span_any _ _ _) ?_; rintro e w2 ⟨rfl, hb2⟩; replace t4 := cell_keep hb2 t4; replace t5 := cell_keep hb2 t5; replace t6 := (hb2.frozen (p := ⟨w.heap.size + 1 + 1, 0, none⟩) l2).trans t6; replace t7 := (hb2.frozen (p := ⟨w.heap.size + 1 + 1, 1, none⟩) l2).trans t7; have HB2 := Lib.hid hb2; clear hb2))
    have z1 : ∀ v, (w2.setCell ⟨w.heap.size + 1 + 1, 0, none⟩ v).cell? ⟨w.heap.size + 1 + 1, 0, none⟩ = some v := fun v => World.cell?_setCell_same' _ _ _ (by first | (rw [t4]; rfl) | (rw [World.cell?_alloc_past _ _ _ (by assumption), t4]; rfl))
    have z2 : ∀ v u, ((w2.setCell ⟨w.heap.size + 1 + 1, 0, none⟩ v).setCell ⟨w.heap.size + 1 + 1, 1, none⟩ u).cell? ⟨w.heap.size + 1 + 1, 1, none⟩ = some u := fun v u => World.cell?_setCell_same' _ _ _ (by rw [World.cell?_setCell_other _ _ _ _ (by simp)]; first | (rw [t5]; rfl) | (rw [World.cell?_alloc_past _ _ _ (by assumption), t5]; rfl))
    refine bodyPost_ret (v := .tuple #[.agg #[.int .i64 (min a c), .int .i64 (max b d)], .int .i64 0]) (by simp [results, Try.results27, go_sem, z1, z2]) rfl ?_
    exact ⟨rfl, ((HBW.out.trans (HB2.out.mono (by omega))).setCell (by simp; omega) _).setCell (by simp; omega) _⟩

set_option maxHeartbeats 1000000 in
theorem rmeet_any (a b c d : Int) (w : World) : Calls Try.prog 26 #[.agg #[.int .i64 a, .int .i64 b], .agg #[.int .i64 c, .int .i64 d]] w fun e w' =>
    e = .returned (.tuple #[.agg #[.int .i64 (meetS a b c d).1.1, .int .i64 (meetS a b c d).1.2], .int .i64 (meetS a b c d).2]) ∧ Below w.heap.size w w' := by
  cases h1 : (vI a b && vI c d) with
  | false =>
    have e0 : meetS a b c d = ((0, 0), 10) := by unfold meetS; rw [h1]; rfl
    rw [e0]
    clear e0
    have hE : twoE a b c d = 10 := by unfold twoE; rw [h1]; rfl
    have HE := Lib.hid hE
    clear hE h1
    go_enter Try.func26, Try.ntmps26
    go_upto_region 2 with (go_at_call 70; refine Calls.mono (two_any a b c d _) ?_; rintro e w1 ⟨rfl, hb1⟩; rw [HE.out])
    have t0 : w1.cell? ⟨w.heap.size, 0, none⟩ = some (.int .i64 a) := cell_keep hb1 (by go_simp)
    have t1 : w1.cell? ⟨w.heap.size, 1, none⟩ = some (.int .i64 b) := cell_keep hb1 (by go_simp)
    have t2 : w1.cell? ⟨w.heap.size + 1, 0, none⟩ = some (.int .i64 c) := cell_keep hb1 (by go_simp)
    have t3 : w1.cell? ⟨w.heap.size + 1, 1, none⟩ = some (.int .i64 d) := cell_keep hb1 (by go_simp)
    have t4 : w1.cell? ⟨w.heap.size + 1 + 1, 0, none⟩ = some (.int .i64 0) := cell_keep hb1 (by go_simp)
    have t5 : w1.cell? ⟨w.heap.size + 1 + 1, 1, none⟩ = some (.int .i64 0) := cell_keep hb1 (by go_simp)
    have t6 : w1.frozen? ⟨w.heap.size + 1 + 1, 0, none⟩ = false := (hb1.frozen (p := ⟨w.heap.size + 1 + 1, 0, none⟩) (by simp <;> omega)).trans (by go_simp)
    have t7 : w1.frozen? ⟨w.heap.size + 1 + 1, 1, none⟩ = false := (hb1.frozen (p := ⟨w.heap.size + 1 + 1, 1, none⟩) (by simp <;> omega)).trans (by go_simp)
    have l0 : w.heap.size < w1.heap.size := World.block_lt_of_cell? _ _ t0
    have l1 : w.heap.size + 1 < w1.heap.size := World.block_lt_of_cell? _ _ t2
    have l2 : w.heap.size + 1 + 1 < w1.heap.size := World.block_lt_of_cell? _ _ t4
    have hbw : Below w.heap.size w w1 := Below.trans (by go_grown) (hb1.mono (by simp <;> omega))
    have HBW := Lib.hid hbw
    clear hb1 hbw
    go_wp2
    have z1 : ∀ v, (w1.setCell ⟨w.heap.size + 1 + 1, 0, none⟩ v).cell? ⟨w.heap.size + 1 + 1, 0, none⟩ = some v := fun v => World.cell?_setCell_same' _ _ _ (by first | (rw [t4]; rfl) | (rw [World.cell?_alloc_past _ _ _ (by assumption), t4]; rfl))
    have z2 : ∀ v u, ((w1.setCell ⟨w.heap.size + 1 + 1, 0, none⟩ v).setCell ⟨w.heap.size + 1 + 1, 1, none⟩ u).cell? ⟨w.heap.size + 1 + 1, 1, none⟩ = some u := fun v u => World.cell?_setCell_same' _ _ _ (by rw [World.cell?_setCell_other _ _ _ _ (by simp)]; first | (rw [t5]; rfl) | (rw [World.cell?_alloc_past _ _ _ (by assumption), t5]; rfl))
    refine bodyPost_ret (v := .tuple #[.agg #[.int .i64 0, .int .i64 0], .int .i64 10]) (by simp [results, Try.results26, go_sem, z1, z2]) rfl ?_
    exact ⟨rfl, (HBW.out.setCell (by simp; omega) _).setCell (by simp; omega) _⟩
  | true =>
    have hE : twoE a b c d = 0 := by unfold twoE; rw [h1]; rfl
    have HE := Lib.hid hE
    clear hE
    by_cases h2 : min b d < max a c
    · have e0 : meetS a b c d = ((0, 0), 3) := by unfold meetS; rw [h1]; simp [h2]
      rw [e0]
      clear e0 h1
      go_enter Try.func26, Try.ntmps26
      go_upto_region 2 with (go_at_call 70; refine Calls.mono (two_any a b c d _) ?_; rintro e w1 ⟨rfl, hb1⟩; rw [HE.out])
      have t0 : w1.cell? ⟨w.heap.size, 0, none⟩ = some (.int .i64 a) := cell_keep hb1 (by go_simp)
      have t1 : w1.cell? ⟨w.heap.size, 1, none⟩ = some (.int .i64 b) := cell_keep hb1 (by go_simp)
      have t2 : w1.cell? ⟨w.heap.size + 1, 0, none⟩ = some (.int .i64 c) := cell_keep hb1 (by go_simp)
      have t3 : w1.cell? ⟨w.heap.size + 1, 1, none⟩ = some (.int .i64 d) := cell_keep hb1 (by go_simp)
      have t4 : w1.cell? ⟨w.heap.size + 1 + 1, 0, none⟩ = some (.int .i64 0) := cell_keep hb1 (by go_simp)
      have t5 : w1.cell? ⟨w.heap.size + 1 + 1, 1, none⟩ = some (.int .i64 0) := cell_keep hb1 (by go_simp)
      have t6 : w1.frozen? ⟨w.heap.size + 1 + 1, 0, none⟩ = false := (hb1.frozen (p := ⟨w.heap.size + 1 + 1, 0, none⟩) (by simp <;> omega)).trans (by go_simp)
      have t7 : w1.frozen? ⟨w.heap.size + 1 + 1, 1, none⟩ = false := (hb1.frozen (p := ⟨w.heap.size + 1 + 1, 1, none⟩) (by simp <;> omega)).trans (by go_simp)
      have l0 : w.heap.size < w1.heap.size := World.block_lt_of_cell? _ _ t0
      have l1 : w.heap.size + 1 < w1.heap.size := World.block_lt_of_cell? _ _ t2
      have l2 : w.heap.size + 1 + 1 < w1.heap.size := World.block_lt_of_cell? _ _ t4
      have hbw : Below w.heap.size w w1 := Below.trans (by go_grown) (hb1.mono (by simp <;> omega))
      have HBW := Lib.hid hbw
      clear hb1 hbw
      go_wp2
      have z1 : ∀ v u C, ((((w1.setCell ⟨w.heap.size + 1 + 1, 0, none⟩ v).setCell ⟨w.heap.size + 1 + 1, 1, none⟩ u).alloc C).cell? ⟨w.heap.size + 1 + 1, 0, none⟩) = some v := fun v u C => by
        rw [World.cell?_alloc_past _ _ _ (by simpa using World.block_lt_of_cell? _ _ t4), World.cell?_setCell_other _ _ _ _ (by simp)]; exact World.cell?_setCell_same' _ _ _ (by rw [t4]; rfl)
      have z2 : ∀ v u C, ((((w1.setCell ⟨w.heap.size + 1 + 1, 0, none⟩ v).setCell ⟨w.heap.size + 1 + 1, 1, none⟩ u).alloc C).cell? ⟨w.heap.size + 1 + 1, 1, none⟩) = some u := fun v u C => by
        rw [World.cell?_alloc_past _ _ _ (by simpa using World.block_lt_of_cell? _ _ t4)]; exact World.cell?_setCell_same' _ _ _ (by rw [World.cell?_setCell_other _ _ _ _ (by simp), t5]; rfl)
      refine bodyPost_ret (v := .tuple #[.agg #[.int .i64 0, .int .i64 0], .int .i64 3]) (by simp [results, Try.results26, go_sem, z1, z2]) rfl ?_
      exact ⟨rfl, ((HBW.out.setCell (by simp; omega) _).setCell (by simp; omega) _).alloc (by simp; omega) _⟩
    · have e0 : meetS a b c d = (((max a c), (min b d)), 0) := by unfold meetS; rw [h1]; simp [h2]
      rw [e0]
      clear e0 h1
      go_enter Try.func26, Try.ntmps26
      go_upto_region 2 with (go_at_call 70; refine Calls.mono (two_any a b c d _) ?_; rintro e w1 ⟨rfl, hb1⟩; rw [HE.out])
      have t0 : w1.cell? ⟨w.heap.size, 0, none⟩ = some (.int .i64 a) := cell_keep hb1 (by go_simp)
      have t1 : w1.cell? ⟨w.heap.size, 1, none⟩ = some (.int .i64 b) := cell_keep hb1 (by go_simp)
      have t2 : w1.cell? ⟨w.heap.size + 1, 0, none⟩ = some (.int .i64 c) := cell_keep hb1 (by go_simp)
      have t3 : w1.cell? ⟨w.heap.size + 1, 1, none⟩ = some (.int .i64 d) := cell_keep hb1 (by go_simp)
      have t4 : w1.cell? ⟨w.heap.size + 1 + 1, 0, none⟩ = some (.int .i64 0) := cell_keep hb1 (by go_simp)
      have t5 : w1.cell? ⟨w.heap.size + 1 + 1, 1, none⟩ = some (.int .i64 0) := cell_keep hb1 (by go_simp)
      have t6 : w1.frozen? ⟨w.heap.size + 1 + 1, 0, none⟩ = false := (hb1.frozen (p := ⟨w.heap.size + 1 + 1, 0, none⟩) (by simp <;> omega)).trans (by go_simp)
      have t7 : w1.frozen? ⟨w.heap.size + 1 + 1, 1, none⟩ = false := (hb1.frozen (p := ⟨w.heap.size + 1 + 1, 1, none⟩) (by simp <;> omega)).trans (by go_simp)
      have l0 : w.heap.size < w1.heap.size := World.block_lt_of_cell? _ _ t0
      have l1 : w.heap.size + 1 < w1.heap.size := World.block_lt_of_cell? _ _ t2
      have l2 : w.heap.size + 1 + 1 < w1.heap.size := World.block_lt_of_cell? _ _ t4
      have hbw : Below w.heap.size w w1 := Below.trans (by go_grown) (hb1.mono (by simp <;> omega))
      have HBW := Lib.hid hbw
      clear hb1 hbw
      go_wp2
      have z1 : ∀ v u C, ((((w1.setCell ⟨w.heap.size + 1 + 1, 0, none⟩ v).setCell ⟨w.heap.size + 1 + 1, 1, none⟩ u).alloc C).cell? ⟨w.heap.size + 1 + 1, 0, none⟩) = some v := fun v u C => by
        rw [World.cell?_alloc_past _ _ _ (by simpa using World.block_lt_of_cell? _ _ t4), World.cell?_setCell_other _ _ _ _ (by simp)]; exact World.cell?_setCell_same' _ _ _ (by rw [t4]; rfl)
      have z2 : ∀ v u C, ((((w1.setCell ⟨w.heap.size + 1 + 1, 0, none⟩ v).setCell ⟨w.heap.size + 1 + 1, 1, none⟩ u).alloc C).cell? ⟨w.heap.size + 1 + 1, 1, none⟩) = some u := fun v u C => by
        rw [World.cell?_alloc_past _ _ _ (by simpa using World.block_lt_of_cell? _ _ t4)]; exact World.cell?_setCell_same' _ _ _ (by rw [World.cell?_setCell_other _ _ _ _ (by simp), t5]; rfl)
      refine bodyPost_ret (v := .tuple #[.agg #[.int .i64 (max a c), .int .i64 (min b d)], .int .i64 0]) (by simp [results, Try.results26, go_sem, z1, z2]) rfl ?_
      exact ⟨rfl, ((HBW.out.setCell (by simp; omega) _).setCell (by simp; omega) _).alloc (by simp; omega) _⟩

set_option maxHeartbeats 1000000 in
theorem meet_any (a b c d : Int) (w : World) : Calls Try.prog 25 #[.agg #[.int .i64 a, .int .i64 b], .agg #[.int .i64 c, .int .i64 d]] w fun e w' =>
    e = .returned (.tuple #[.agg #[.int .i64 (meetS a b c d).1.1, .int .i64 (meetS a b c d).1.2], .int .i64 (meetS a b c d).2]) ∧ Below w.heap.size w w' := by
  cases h1 : (vI a b && vI c d) with
  | false =>
    have e0 : meetS a b c d = ((0, 0), 10) := by unfold meetS; rw [h1]; rfl
    rw [e0]
    clear e0
    have hE : [(a, b), (c, d)].all vS = false := by simp only [List.all_cons, List.all_nil, Bool.and_true, vS_vI]; exact h1
    have HE := Lib.hid hE
    clear hE h1
    go_enter Try.func25, Try.ntmps25
    go_wp2_with (go_at_call 65; refine Calls.mono (valid_any _ _ _ _ [(a, b), (c, d)] _ rfl (le_maxLen (by simp)) ?c3 (RS.new2 (by simp))) ?_; (case c3 => simp); rintro e w1 ⟨rfl, hb1⟩; rw [HE.out]; have t0 : w1.cell? ⟨w.heap.size, 0, none⟩ = some (.int .i64 a) := cell_keep hb1 (by go_simp); have t1 : w1.cell? ⟨w.heap.size, 1, none⟩ = some (.int .i64 b) := cell_keep hb1 (by go_simp); have t2 : w1.cell? ⟨w.heap.size + 1, 0, none⟩ = some (.int .i64 c) := cell_keep hb1 (by go_simp); have t3 : w1.cell? ⟨w.heap.size + 1, 1, none⟩ = some (.int .i64 d) := cell_keep hb1 (by go_simp); have t4 : w1.cell? ⟨w.heap.size + 1 + 1, 0, none⟩ = some (.int .i64 0) := cell_keep hb1 (by go_simp); have t5 : w1.cell? ⟨w.heap.size + 1 + 1, 1, none⟩ = some (.int .i64 0) := cell_keep hb1 (by go_simp); have t6 : w1.frozen? ⟨w.heap.size + 1 + 1, 0, none⟩ = false := (hb1.frozen (p := ⟨w.heap.size + 1 + 1, 0, none⟩) (by simp <;> omega)).trans (by go_simp); have t7 : w1.frozen? ⟨w.heap.size + 1 + 1, 1, none⟩ = false := (hb1.frozen (p := ⟨w.heap.size + 1 + 1, 1, none⟩) (by simp <;> omega)).trans (by go_simp); have l0 : w.heap.size < w1.heap.size := World.block_lt_of_cell? _ _ t0; have l1 : w.heap.size + 1 < w1.heap.size := World.block_lt_of_cell? _ _ t2; have l2 : w.heap.size + 1 + 1 < w1.heap.size := World.block_lt_of_cell? _ _ t4; have hbw : Below w.heap.size w w1 := Below.trans (by go_grown) (hb1.mono (by simp <;> omega)); have HBW := Lib.hid hbw; clear hb1 hbw)
    have z1 : ∀ v, (w1.setCell ⟨w.heap.size + 1 + 1, 0, none⟩ v).cell? ⟨w.heap.size + 1 + 1, 0, none⟩ = some v := fun v => World.cell?_setCell_same' _ _ _ (by first | (rw [t4]; rfl) | (rw [World.cell?_alloc_past _ _ _ (by assumption), t4]; rfl))
    have z2 : ∀ v u, ((w1.setCell ⟨w.heap.size + 1 + 1, 0, none⟩ v).setCell ⟨w.heap.size + 1 + 1, 1, none⟩ u).cell? ⟨w.heap.size + 1 + 1, 1, none⟩ = some u := fun v u => World.cell?_setCell_same' _ _ _ (by rw [World.cell?_setCell_other _ _ _ _ (by simp)]; first | (rw [t5]; rfl) | (rw [World.cell?_alloc_past _ _ _ (by assumption), t5]; rfl))
    refine bodyPost_ret (v := .tuple #[.agg #[.int .i64 0, .int .i64 0], .int .i64 10]) (by simp [results, Try.results25, go_sem, z1, z2]) rfl ?_
    exact ⟨rfl, (HBW.out.setCell (by simp; omega) _).setCell (by simp; omega) _⟩
  | true =>
    have hE : [(a, b), (c, d)].all vS = true := by simp only [List.all_cons, List.all_nil, Bool.and_true, vS_vI]; exact h1
    have HE := Lib.hid hE
    clear hE
    by_cases h2 : min b d < max a c
    · have e0 : meetS a b c d = ((0, 0), 3) := by unfold meetS; rw [h1]; simp [h2]
      rw [e0]
      clear e0 h1
      go_enter Try.func25, Try.ntmps25
      go_wp2_with (first | (go_at_call 65; refine Calls.mono (valid_any _ _ _ _ [(a, b), (c, d)] _ rfl (le_maxLen (by simp)) ?c3 (RS.new2 (by simp))) ?_; (case c3 => simp); rintro e w1 ⟨rfl, hb1⟩; rw [HE.out]; have t0 : w1.cell? ⟨w.heap.size, 0, none⟩ = some (.int .i64 a) := cell_keep hb1 (by go_simp); have t1 : w1.cell? ⟨w.heap.size, 1, none⟩ = some (.int .i64 b) := cell_keep hb1 (by go_simp); have t2 : w1.cell? ⟨w.heap.size + 1, 0, none⟩ = some (.int .i64 c) := cell_keep hb1 (by go_simp); have t3 : w1.cell? ⟨w.heap.size + 1, 1, none⟩ = some (.int .i64 d) := cell_keep hb1 (by go_simp); have t4 : w1.cell? ⟨w.heap.size + 1 + 1, 0, none⟩ = some (.int .i64 0) := cell_keep hb1 (by go_simp); have t5 : w1.cell? ⟨w.heap.size + 1 + 1, 1, none⟩ = some (.int .i64 0) := cell_keep hb1 (by go_simp); have t6 : w1.frozen? ⟨w.heap.size + 1 + 1, 0, none⟩ = false := (hb1.frozen (p := ⟨w.heap.size + 1 + 1, 0, none⟩) (by simp <;> omega)).trans (by go_simp); have t7 : w1.frozen? ⟨w.heap.size + 1 + 1, 1, none⟩ = false := (hb1.frozen (p := ⟨w.heap.size + 1 + 1, 1, none⟩) (by simp <;> omega)).trans (by go_simp); have l0 : w.heap.size < w1.heap.size := World.block_lt_of_cell? _ _ t0; have l1 : w.heap.size + 1 < w1.heap.size := World.block_lt_of_cell? _ _ t2; have l2 : w.heap.size + 1 + 1 < w1.heap.size := World.block_lt_of_cell? _ _ t4; have hbw : Below w.heap.size w w1 := Below.trans (by go_grown) (hb1.mono (by simp <;> omega)); have HBW := Lib.hid hbw; clear hb1 hbw) | (go_at_call 69; refine Calls.mono (common_any a b c d _) ?_; rintro e w2 ⟨rfl, hb2⟩; replace t4 := cell_keep hb2 t4; replace t5 := cell_keep hb2 t5; replace t6 := (hb2.frozen (p := ⟨w.heap.size + 1 + 1, 0, none⟩) l2).trans t6; replace t7 := (hb2.frozen (p := ⟨w.heap.size + 1 + 1, 1, none⟩) l2).trans t7; have l3 : w.heap.size + 1 + 1 < w2.heap.size := World.block_lt_of_cell? _ _ t4; have HB2 := Lib.hid hb2; clear hb2))
      have z1 : ∀ v u C, ((((w2.setCell ⟨w.heap.size + 1 + 1, 0, none⟩ v).setCell ⟨w.heap.size + 1 + 1, 1, none⟩ u).alloc C).cell? ⟨w.heap.size + 1 + 1, 0, none⟩) = some v := fun v u C => by
        rw [World.cell?_alloc_past _ _ _ (by simpa using World.block_lt_of_cell? _ _ t4), World.cell?_setCell_other _ _ _ _ (by simp)]; exact World.cell?_setCell_same' _ _ _ (by rw [t4]; rfl)
      have z2 : ∀ v u C, ((((w2.setCell ⟨w.heap.size + 1 + 1, 0, none⟩ v).setCell ⟨w.heap.size + 1 + 1, 1, none⟩ u).alloc C).cell? ⟨w.heap.size + 1 + 1, 1, none⟩) = some u := fun v u C => by
        rw [World.cell?_alloc_past _ _ _ (by simpa using World.block_lt_of_cell? _ _ t4)]; exact World.cell?_setCell_same' _ _ _ (by rw [World.cell?_setCell_other _ _ _ _ (by simp), t5]; rfl)
      refine bodyPost_ret (v := .tuple #[.agg #[.int .i64 0, .int .i64 0], .int .i64 3]) (by simp [results, Try.results25, go_sem, z1, z2]) rfl ?_
      exact ⟨rfl, (((HBW.out.trans (HB2.out.mono (by omega))).setCell (by simp; omega) _).setCell (by simp; omega) _).alloc (by simp; omega) _⟩
    · have e0 : meetS a b c d = (((max a c), (min b d)), 0) := by unfold meetS; rw [h1]; simp [h2]
      rw [e0]
      clear e0 h1
      go_enter Try.func25, Try.ntmps25
      go_wp2_with (first | (go_at_call 65; refine Calls.mono (valid_any _ _ _ _ [(a, b), (c, d)] _ rfl (le_maxLen (by simp)) ?c3 (RS.new2 (by simp))) ?_; (case c3 => simp); rintro e w1 ⟨rfl, hb1⟩; rw [HE.out]; have t0 : w1.cell? ⟨w.heap.size, 0, none⟩ = some (.int .i64 a) := cell_keep hb1 (by go_simp); have t1 : w1.cell? ⟨w.heap.size, 1, none⟩ = some (.int .i64 b) := cell_keep hb1 (by go_simp); have t2 : w1.cell? ⟨w.heap.size + 1, 0, none⟩ = some (.int .i64 c) := cell_keep hb1 (by go_simp); have t3 : w1.cell? ⟨w.heap.size + 1, 1, none⟩ = some (.int .i64 d) := cell_keep hb1 (by go_simp); have t4 : w1.cell? ⟨w.heap.size + 1 + 1, 0, none⟩ = some (.int .i64 0) := cell_keep hb1 (by go_simp); have t5 : w1.cell? ⟨w.heap.size + 1 + 1, 1, none⟩ = some (.int .i64 0) := cell_keep hb1 (by go_simp); have t6 : w1.frozen? ⟨w.heap.size + 1 + 1, 0, none⟩ = false := (hb1.frozen (p := ⟨w.heap.size + 1 + 1, 0, none⟩) (by simp <;> omega)).trans (by go_simp); have t7 : w1.frozen? ⟨w.heap.size + 1 + 1, 1, none⟩ = false := (hb1.frozen (p := ⟨w.heap.size + 1 + 1, 1, none⟩) (by simp <;> omega)).trans (by go_simp); have l0 : w.heap.size < w1.heap.size := World.block_lt_of_cell? _ _ t0; have l1 : w.heap.size + 1 < w1.heap.size := World.block_lt_of_cell? _ _ t2; have l2 : w.heap.size + 1 + 1 < w1.heap.size := World.block_lt_of_cell? _ _ t4; have hbw : Below w.heap.size w w1 := Below.trans (by go_grown) (hb1.mono (by simp <;> omega)); have HBW := Lib.hid hbw; clear hb1 hbw) | (go_at_call 69; refine Calls.mono (common_any a b c d _) ?_; rintro e w2 ⟨rfl, hb2⟩; replace t4 := cell_keep hb2 t4; replace t5 := cell_keep hb2 t5; replace t6 := (hb2.frozen (p := ⟨w.heap.size + 1 + 1, 0, none⟩) l2).trans t6; replace t7 := (hb2.frozen (p := ⟨w.heap.size + 1 + 1, 1, none⟩) l2).trans t7; have l3 : w.heap.size + 1 + 1 < w2.heap.size := World.block_lt_of_cell? _ _ t4; have HB2 := Lib.hid hb2; clear hb2))
      have z1 : ∀ v u C, ((((w2.setCell ⟨w.heap.size + 1 + 1, 0, none⟩ v).setCell ⟨w.heap.size + 1 + 1, 1, none⟩ u).alloc C).cell? ⟨w.heap.size + 1 + 1, 0, none⟩) = some v := fun v u C => by
        rw [World.cell?_alloc_past _ _ _ (by simpa using World.block_lt_of_cell? _ _ t4), World.cell?_setCell_other _ _ _ _ (by simp)]; exact World.cell?_setCell_same' _ _ _ (by rw [t4]; rfl)
      have z2 : ∀ v u C, ((((w2.setCell ⟨w.heap.size + 1 + 1, 0, none⟩ v).setCell ⟨w.heap.size + 1 + 1, 1, none⟩ u).alloc C).cell? ⟨w.heap.size + 1 + 1, 1, none⟩) = some u := fun v u C => by
        rw [World.cell?_alloc_past _ _ _ (by simpa using World.block_lt_of_cell? _ _ t4)]; exact World.cell?_setCell_same' _ _ _ (by rw [World.cell?_setCell_other _ _ _ _ (by simp), t5]; rfl)
      refine bodyPost_ret (v := .tuple #[.agg #[.int .i64 (max a c), .int .i64 (min b d)], .int .i64 0]) (by simp [results, Try.results25, go_sem, z1, z2]) rfl ?_
      exact ⟨rfl, (((HBW.out.trans (HB2.out.mono (by omega))).setCell (by simp; omega) _).setCell (by simp; omega) _).alloc (by simp; omega) _⟩

end Go.Proofs.Ytjdahphnmeaolaa

/- Add and Times of both sides. -/
import Derived.Test.YtjdahphnmeaolaaComp
namespace Go.Proofs.Ytjdahphnmeaolaa
open Go.RowKit
set_option maxRecDepth 100000

theorem run_min_four {P : Program} (w : World) (ts : Array TypeId) (t : TypeId) (k : IntKind) (x y z u : Int) :
    (Builtin.min_ ts t #[.int k x, .int k y, .int k z, .int k u]).run P w = .ok (.int k (min (min (min x y) z) u)) w := by
  have e : ∀ p q : Int, (if q < p then q else p) = min p q := fun p q => by
    rw [Int.min_def]
    split <;> split <;> omega
  simp [Builtin.min_, Builtin.min2, e]
theorem run_max_four {P : Program} (w : World) (ts : Array TypeId) (t : TypeId) (k : IntKind) (x y z u : Int) :
    (Builtin.max_ ts t #[.int k x, .int k y, .int k z, .int k u]).run P w = .ok (.int k (max (max (max x y) z) u)) w := by
  have e : ∀ p q : Int, (if q > p then q else p) = max p q := fun p q => by
    rw [Int.max_def]
    split <;> split <;> omega
  simp [Builtin.max_, Builtin.max2, e]
attribute [local go_sem] run_min_four run_max_four

theorem vI_get {a b : Int} (h : vI a b = true) : -1000000 ≤ a ∧ a ≤ 1000000 ∧ -1000000 ≤ b ∧ b ≤ 1000000 ∧ a ≤ b := by
  simp [vI] at h
  omega
theorem vI_both {a b c d : Int} (h : (vI a b && vI c d) = true) : (-1000000 ≤ a ∧ a ≤ 1000000) ∧ (-1000000 ≤ b ∧ b ≤ 1000000) ∧ (-1000000 ≤ c ∧ c ≤ 1000000) ∧ (-1000000 ≤ d ∧ d ≤ 1000000) ∧ a ≤ b ∧ c ≤ d := by
  rw [Bool.and_eq_true] at h
  obtain ⟨h1, h2⟩ := h
  have := vI_get h1
  have := vI_get h2
  omega
def addS (a b c d : Int) : (Int × Int) × Int := if vI a b && vI c d then madeS (a + c) (b + d) else ((0, 0), 10)
def timesS (a b c d : Int) : (Int × Int) × Int := if vI a b && vI c d then madeS (min (a * c) (min (a * d) (min (b * c) (b * d)))) (max (a * c) (max (a * d) (max (b * c) (b * d)))) else ((0, 0), 10)

set_option maxHeartbeats 1000000 in
theorem radd_any (a b c d : Int) (w : World) : Calls Try.prog 30 #[.agg #[.int .i64 a, .int .i64 b], .agg #[.int .i64 c, .int .i64 d]] w fun e w' =>
    e = .returned (.tuple #[.agg #[.int .i64 (addS a b c d).1.1, .int .i64 (addS a b c d).1.2], .int .i64 (addS a b c d).2]) ∧ Below w.heap.size w w' := by
  cases h1 : (vI a b && vI c d) with
  | false =>
    have e0 : addS a b c d = ((0, 0), 10) := by unfold addS; rw [h1]; rfl
    rw [e0]
    clear e0
    have hE : twoE a b c d = 10 := by unfold twoE; rw [h1]; rfl
    have HE := Lib.hid hE
    clear hE h1
    go_enter Try.func30, Try.ntmps30
    go_wp2_with (go_at_call 70; refine Calls.mono (two_any a b c d _) ?_; rintro e w1 ⟨rfl, hb1⟩; rw [HE.out]; have t0 : w1.cell? ⟨w.heap.size, 0, none⟩ = some (.int .i64 a) := cell_keep hb1 (by go_simp); have t1 : w1.cell? ⟨w.heap.size, 1, none⟩ = some (.int .i64 b) := cell_keep hb1 (by go_simp); have t2 : w1.cell? ⟨w.heap.size + 1, 0, none⟩ = some (.int .i64 c) := cell_keep hb1 (by go_simp); have t3 : w1.cell? ⟨w.heap.size + 1, 1, none⟩ = some (.int .i64 d) := cell_keep hb1 (by go_simp); have t4 : w1.cell? ⟨w.heap.size + 1 + 1, 0, none⟩ = some (.int .i64 0) := cell_keep hb1 (by go_simp); have t5 : w1.cell? ⟨w.heap.size + 1 + 1, 1, none⟩ = some (.int .i64 0) := cell_keep hb1 (by go_simp); have t6 : w1.frozen? ⟨w.heap.size + 1 + 1, 0, none⟩ = false := (hb1.frozen (p := ⟨w.heap.size + 1 + 1, 0, none⟩) (by simp <;> omega)).trans (by go_simp); have t7 : w1.frozen? ⟨w.heap.size + 1 + 1, 1, none⟩ = false := (hb1.frozen (p := ⟨w.heap.size + 1 + 1, 1, none⟩) (by simp <;> omega)).trans (by go_simp); have l0 : w.heap.size < w1.heap.size := World.block_lt_of_cell? _ _ t0; have l1 : w.heap.size + 1 < w1.heap.size := World.block_lt_of_cell? _ _ t2; have l2 : w.heap.size + 1 + 1 < w1.heap.size := World.block_lt_of_cell? _ _ t4; have hbw : Below w.heap.size w w1 := Below.trans (by go_grown) (hb1.mono (by simp <;> omega)); have HBW := Lib.hid hbw; clear hb1 hbw)
    have z1 : ∀ v, (w1.setCell ⟨w.heap.size + 1 + 1, 0, none⟩ v).cell? ⟨w.heap.size + 1 + 1, 0, none⟩ = some v := fun v => World.cell?_setCell_same' _ _ _ (by first | (rw [t4]; rfl) | (rw [World.cell?_alloc_past _ _ _ (by assumption), t4]; rfl))
    have z2 : ∀ v u, ((w1.setCell ⟨w.heap.size + 1 + 1, 0, none⟩ v).setCell ⟨w.heap.size + 1 + 1, 1, none⟩ u).cell? ⟨w.heap.size + 1 + 1, 1, none⟩ = some u := fun v u => World.cell?_setCell_same' _ _ _ (by rw [World.cell?_setCell_other _ _ _ _ (by simp)]; first | (rw [t5]; rfl) | (rw [World.cell?_alloc_past _ _ _ (by assumption), t5]; rfl))
    refine bodyPost_ret (v := .tuple #[.agg #[.int .i64 0, .int .i64 0], .int .i64 10]) (by simp [results, Try.results30, go_sem, z1, z2]) rfl ?_
    exact ⟨rfl, (HBW.out.setCell (by simp; omega) _).setCell (by simp; omega) _⟩
  | true =>
    have hE : twoE a b c d = 0 := by unfold twoE; rw [h1]; rfl
    have e0 : addS a b c d = madeS (a + c) (b + d) := by unfold addS; rw [h1]; rfl
    rw [e0]
    have HE := Lib.hid hE
    clear e0 hE
    obtain ⟨i1, i2, i3, i4, i5, i6⟩ := vI_both h1
    have j1 : IntKind.i64.wrap (a + c) = a + c := IntWalk.i64_in _ (by omega)
    have j2 : IntKind.i64.wrap (b + d) = b + d := IntWalk.i64_in _ (by omega)
    have hM := fun W => made_any (a + c) (b + d) W
    generalize madeS (a + c) (b + d) = m at *
    obtain ⟨⟨m0, m1⟩, me⟩ := m
    have HM := Lib.hid hM
    clear hM h1
    go_enter Try.func30, Try.ntmps30
    go_wp2_with (first
      | (go_at_call 70; refine Calls.mono (two_any a b c d _) ?_; rintro e w1 ⟨rfl, hb1⟩; rw [HE.out]; have t0 : w1.cell? ⟨w.heap.size, 0, none⟩ = some (.int .i64 a) := cell_keep hb1 (by go_simp); have t1 : w1.cell? ⟨w.heap.size, 1, none⟩ = some (.int .i64 b) := cell_keep hb1 (by go_simp); have t2 : w1.cell? ⟨w.heap.size + 1, 0, none⟩ = some (.int .i64 c) := cell_keep hb1 (by go_simp); have t3 : w1.cell? ⟨w.heap.size + 1, 1, none⟩ = some (.int .i64 d) := cell_keep hb1 (by go_simp); have t4 : w1.cell? ⟨w.heap.size + 1 + 1, 0, none⟩ = some (.int .i64 0) := cell_keep hb1 (by go_simp); have t5 : w1.cell? ⟨w.heap.size + 1 + 1, 1, none⟩ = some (.int .i64 0) := cell_keep hb1 (by go_simp); have t6 : w1.frozen? ⟨w.heap.size + 1 + 1, 0, none⟩ = false := (hb1.frozen (p := ⟨w.heap.size + 1 + 1, 0, none⟩) (by simp <;> omega)).trans (by go_simp); have t7 : w1.frozen? ⟨w.heap.size + 1 + 1, 1, none⟩ = false := (hb1.frozen (p := ⟨w.heap.size + 1 + 1, 1, none⟩) (by simp <;> omega)).trans (by go_simp); have l0 : w.heap.size < w1.heap.size := World.block_lt_of_cell? _ _ t0; have l1 : w.heap.size + 1 < w1.heap.size := World.block_lt_of_cell? _ _ t2; have l2 : w.heap.size + 1 + 1 < w1.heap.size := World.block_lt_of_cell? _ _ t4; have hbw : Below w.heap.size w w1 := Below.trans (by go_grown) (hb1.mono (by simp <;> omega)); have HBW := Lib.hid hbw; clear hb1 hbw)
      | (go_at_call 73; refine Calls.mono (HM.out _) ?_; rintro e w3 ⟨rfl, hb3⟩; replace t4 := cell_keep hb3 t4; replace t5 := cell_keep hb3 t5; replace t6 := (hb3.frozen (p := ⟨w.heap.size + 1 + 1, 0, none⟩) l2).trans t6; replace t7 := (hb3.frozen (p := ⟨w.heap.size + 1 + 1, 1, none⟩) l2).trans t7; replace l2 : w.heap.size + 1 + 1 < w3.heap.size := World.block_lt_of_cell? _ _ t4; have HB3 := Lib.hid hb3; clear hb3))
    have z1 : ∀ v, (w3.setCell ⟨w.heap.size + 1 + 1, 0, none⟩ v).cell? ⟨w.heap.size + 1 + 1, 0, none⟩ = some v := fun v => World.cell?_setCell_same' _ _ _ (by first | (rw [t4]; rfl) | (rw [World.cell?_alloc_past _ _ _ (by assumption), t4]; rfl))
    have z2 : ∀ v u, ((w3.setCell ⟨w.heap.size + 1 + 1, 0, none⟩ v).setCell ⟨w.heap.size + 1 + 1, 1, none⟩ u).cell? ⟨w.heap.size + 1 + 1, 1, none⟩ = some u := fun v u => World.cell?_setCell_same' _ _ _ (by rw [World.cell?_setCell_other _ _ _ _ (by simp)]; first | (rw [t5]; rfl) | (rw [World.cell?_alloc_past _ _ _ (by assumption), t5]; rfl))
    refine bodyPost_ret (v := .tuple #[.agg #[.int .i64 m0, .int .i64 m1], .int .i64 me]) (by simp [results, Try.results30, go_sem, z1, z2]) rfl ?_
    have g1 := HBW.out.size
    exact ⟨rfl, ((HBW.out.trans (HB3.out.mono g1)).setCell (by simp; omega) _).setCell (by simp; omega) _⟩

set_option maxHeartbeats 1000000 in
theorem add_any (a b c d : Int) (w : World) : Calls Try.prog 29 #[.agg #[.int .i64 a, .int .i64 b], .agg #[.int .i64 c, .int .i64 d]] w fun e w' =>
    e = .returned (.tuple #[.agg #[.int .i64 (addS a b c d).1.1, .int .i64 (addS a b c d).1.2], .int .i64 (addS a b c d).2]) ∧ Below w.heap.size w w' := by
  cases h1 : (vI a b && vI c d) with
  | false =>
    have e0 : addS a b c d = ((0, 0), 10) := by unfold addS; rw [h1]; rfl
    rw [e0]
    clear e0
    have hE : [(a, b), (c, d)].all vS = false := by simp only [List.all_cons, List.all_nil, Bool.and_true, vS_vI]; exact h1
    have HE := Lib.hid hE
    clear hE h1
    go_enter Try.func29, Try.ntmps29
    go_wp2_with (go_at_call 65; refine Calls.mono (valid_any _ _ _ _ [(a, b), (c, d)] _ rfl (le_maxLen (by simp)) ?c3 (RS.new2 (by simp))) ?_; (case c3 => simp); rintro e w1 ⟨rfl, hb1⟩; rw [HE.out]; have t0 : w1.cell? ⟨w.heap.size, 0, none⟩ = some (.int .i64 a) := cell_keep hb1 (by go_simp); have t1 : w1.cell? ⟨w.heap.size, 1, none⟩ = some (.int .i64 b) := cell_keep hb1 (by go_simp); have t2 : w1.cell? ⟨w.heap.size + 1, 0, none⟩ = some (.int .i64 c) := cell_keep hb1 (by go_simp); have t3 : w1.cell? ⟨w.heap.size + 1, 1, none⟩ = some (.int .i64 d) := cell_keep hb1 (by go_simp); have t4 : w1.cell? ⟨w.heap.size + 1 + 1, 0, none⟩ = some (.int .i64 0) := cell_keep hb1 (by go_simp); have t5 : w1.cell? ⟨w.heap.size + 1 + 1, 1, none⟩ = some (.int .i64 0) := cell_keep hb1 (by go_simp); have t6 : w1.frozen? ⟨w.heap.size + 1 + 1, 0, none⟩ = false := (hb1.frozen (p := ⟨w.heap.size + 1 + 1, 0, none⟩) (by simp <;> omega)).trans (by go_simp); have t7 : w1.frozen? ⟨w.heap.size + 1 + 1, 1, none⟩ = false := (hb1.frozen (p := ⟨w.heap.size + 1 + 1, 1, none⟩) (by simp <;> omega)).trans (by go_simp); have l0 : w.heap.size < w1.heap.size := World.block_lt_of_cell? _ _ t0; have l1 : w.heap.size + 1 < w1.heap.size := World.block_lt_of_cell? _ _ t2; have l2 : w.heap.size + 1 + 1 < w1.heap.size := World.block_lt_of_cell? _ _ t4; have hbw : Below w.heap.size w w1 := Below.trans (by go_grown) (hb1.mono (by simp <;> omega)); have HBW := Lib.hid hbw; clear hb1 hbw)
    have z1 : ∀ v, (w1.setCell ⟨w.heap.size + 1 + 1, 0, none⟩ v).cell? ⟨w.heap.size + 1 + 1, 0, none⟩ = some v := fun v => World.cell?_setCell_same' _ _ _ (by first | (rw [t4]; rfl) | (rw [World.cell?_alloc_past _ _ _ (by assumption), t4]; rfl))
    have z2 : ∀ v u, ((w1.setCell ⟨w.heap.size + 1 + 1, 0, none⟩ v).setCell ⟨w.heap.size + 1 + 1, 1, none⟩ u).cell? ⟨w.heap.size + 1 + 1, 1, none⟩ = some u := fun v u => World.cell?_setCell_same' _ _ _ (by rw [World.cell?_setCell_other _ _ _ _ (by simp)]; first | (rw [t5]; rfl) | (rw [World.cell?_alloc_past _ _ _ (by assumption), t5]; rfl))
    refine bodyPost_ret (v := .tuple #[.agg #[.int .i64 0, .int .i64 0], .int .i64 10]) (by simp [results, Try.results29, go_sem, z1, z2]) rfl ?_
    exact ⟨rfl, (HBW.out.setCell (by simp; omega) _).setCell (by simp; omega) _⟩
  | true =>
    have hE : [(a, b), (c, d)].all vS = true := by simp only [List.all_cons, List.all_nil, Bool.and_true, vS_vI]; exact h1
    have e0 : addS a b c d = madeS (a + c) (b + d) := by unfold addS; rw [h1]; rfl
    rw [e0]
    have HE := Lib.hid hE
    clear e0 hE
    obtain ⟨i1, i2, i3, i4, i5, i6⟩ := vI_both h1
    have j1 : IntKind.i64.wrap (a + c) = a + c := IntWalk.i64_in _ (by omega)
    have j2 : IntKind.i64.wrap (b + d) = b + d := IntWalk.i64_in _ (by omega)
    have hM := fun W => bounded_any (a + c) (b + d) W
    generalize madeS (a + c) (b + d) = m at *
    obtain ⟨⟨m0, m1⟩, me⟩ := m
    have HM := Lib.hid hM
    clear hM h1
    go_enter Try.func29, Try.ntmps29
    go_wp2_with (first
      | (go_at_call 65; refine Calls.mono (valid_any _ _ _ _ [(a, b), (c, d)] _ rfl (le_maxLen (by simp)) ?c3 (RS.new2 (by simp))) ?_; (case c3 => simp); rintro e w1 ⟨rfl, hb1⟩; rw [HE.out]; have t0 : w1.cell? ⟨w.heap.size, 0, none⟩ = some (.int .i64 a) := cell_keep hb1 (by go_simp); have t1 : w1.cell? ⟨w.heap.size, 1, none⟩ = some (.int .i64 b) := cell_keep hb1 (by go_simp); have t2 : w1.cell? ⟨w.heap.size + 1, 0, none⟩ = some (.int .i64 c) := cell_keep hb1 (by go_simp); have t3 : w1.cell? ⟨w.heap.size + 1, 1, none⟩ = some (.int .i64 d) := cell_keep hb1 (by go_simp); have t4 : w1.cell? ⟨w.heap.size + 1 + 1, 0, none⟩ = some (.int .i64 0) := cell_keep hb1 (by go_simp); have t5 : w1.cell? ⟨w.heap.size + 1 + 1, 1, none⟩ = some (.int .i64 0) := cell_keep hb1 (by go_simp); have t6 : w1.frozen? ⟨w.heap.size + 1 + 1, 0, none⟩ = false := (hb1.frozen (p := ⟨w.heap.size + 1 + 1, 0, none⟩) (by simp <;> omega)).trans (by go_simp); have t7 : w1.frozen? ⟨w.heap.size + 1 + 1, 1, none⟩ = false := (hb1.frozen (p := ⟨w.heap.size + 1 + 1, 1, none⟩) (by simp <;> omega)).trans (by go_simp); have l0 : w.heap.size < w1.heap.size := World.block_lt_of_cell? _ _ t0; have l1 : w.heap.size + 1 < w1.heap.size := World.block_lt_of_cell? _ _ t2; have l2 : w.heap.size + 1 + 1 < w1.heap.size := World.block_lt_of_cell? _ _ t4; have hbw : Below w.heap.size w w1 := Below.trans (by go_grown) (hb1.mono (by simp <;> omega)); have HBW := Lib.hid hbw; clear hb1 hbw)
      | (go_at_call 71; refine Calls.mono (span_any _ _ _) ?_; rintro e w2 ⟨rfl, hb2⟩; replace t4 := cell_keep hb2 t4; replace t5 := cell_keep hb2 t5; replace t6 := (hb2.frozen (p := ⟨w.heap.size + 1 + 1, 0, none⟩) l2).trans t6; replace t7 := (hb2.frozen (p := ⟨w.heap.size + 1 + 1, 1, none⟩) l2).trans t7; replace l2 : w.heap.size + 1 + 1 < w2.heap.size := World.block_lt_of_cell? _ _ t4; have HB2 := Lib.hid hb2; clear hb2)
      | (go_at_call 72; refine Calls.mono (HM.out _) ?_; rintro e w3 ⟨rfl, hb3⟩; replace t4 := cell_keep hb3 t4; replace t5 := cell_keep hb3 t5; replace t6 := (hb3.frozen (p := ⟨w.heap.size + 1 + 1, 0, none⟩) l2).trans t6; replace t7 := (hb3.frozen (p := ⟨w.heap.size + 1 + 1, 1, none⟩) l2).trans t7; replace l2 : w.heap.size + 1 + 1 < w3.heap.size := World.block_lt_of_cell? _ _ t4; have HB3 := Lib.hid hb3; clear hb3))
    have z1 : ∀ v, (w3.setCell ⟨w.heap.size + 1 + 1, 0, none⟩ v).cell? ⟨w.heap.size + 1 + 1, 0, none⟩ = some v := fun v => World.cell?_setCell_same' _ _ _ (by first | (rw [t4]; rfl) | (rw [World.cell?_alloc_past _ _ _ (by assumption), t4]; rfl))
    have z2 : ∀ v u, ((w3.setCell ⟨w.heap.size + 1 + 1, 0, none⟩ v).setCell ⟨w.heap.size + 1 + 1, 1, none⟩ u).cell? ⟨w.heap.size + 1 + 1, 1, none⟩ = some u := fun v u => World.cell?_setCell_same' _ _ _ (by rw [World.cell?_setCell_other _ _ _ _ (by simp)]; first | (rw [t5]; rfl) | (rw [World.cell?_alloc_past _ _ _ (by assumption), t5]; rfl))
    refine bodyPost_ret (v := .tuple #[.agg #[.int .i64 m0, .int .i64 m1], .int .i64 me]) (by simp [results, Try.results29, go_sem, z1, z2]) rfl ?_
    have g1 := HBW.out.size
    have g2 := HB2.out.size
    exact ⟨rfl, (((HBW.out.trans (HB2.out.mono g1)).trans (HB3.out.mono (Nat.le_trans g1 g2))).setCell (by simp; omega) _).setCell (by simp; omega) _⟩

set_option maxHeartbeats 1000000 in
theorem rtimes_any (a b c d : Int) (w : World) : Calls Try.prog 32 #[.agg #[.int .i64 a, .int .i64 b], .agg #[.int .i64 c, .int .i64 d]] w fun e w' =>
    e = .returned (.tuple #[.agg #[.int .i64 (timesS a b c d).1.1, .int .i64 (timesS a b c d).1.2], .int .i64 (timesS a b c d).2]) ∧ Below w.heap.size w w' := by
  cases h1 : (vI a b && vI c d) with
  | false =>
    have e0 : timesS a b c d = ((0, 0), 10) := by unfold timesS; rw [h1]; rfl
    rw [e0]
    clear e0
    have hE : twoE a b c d = 10 := by unfold twoE; rw [h1]; rfl
    have HE := Lib.hid hE
    clear hE h1
    go_enter Try.func32, Try.ntmps32
    go_wp2_with (go_at_call 70; refine Calls.mono (two_any a b c d _) ?_; rintro e w1 ⟨rfl, hb1⟩; rw [HE.out]; have t0 : w1.cell? ⟨w.heap.size, 0, none⟩ = some (.int .i64 a) := cell_keep hb1 (by go_simp); have t1 : w1.cell? ⟨w.heap.size, 1, none⟩ = some (.int .i64 b) := cell_keep hb1 (by go_simp); have t2 : w1.cell? ⟨w.heap.size + 1, 0, none⟩ = some (.int .i64 c) := cell_keep hb1 (by go_simp); have t3 : w1.cell? ⟨w.heap.size + 1, 1, none⟩ = some (.int .i64 d) := cell_keep hb1 (by go_simp); have t4 : w1.cell? ⟨w.heap.size + 1 + 1, 0, none⟩ = some (.int .i64 0) := cell_keep hb1 (by go_simp); have t5 : w1.cell? ⟨w.heap.size + 1 + 1, 1, none⟩ = some (.int .i64 0) := cell_keep hb1 (by go_simp); have t6 : w1.frozen? ⟨w.heap.size + 1 + 1, 0, none⟩ = false := (hb1.frozen (p := ⟨w.heap.size + 1 + 1, 0, none⟩) (by simp <;> omega)).trans (by go_simp); have t7 : w1.frozen? ⟨w.heap.size + 1 + 1, 1, none⟩ = false := (hb1.frozen (p := ⟨w.heap.size + 1 + 1, 1, none⟩) (by simp <;> omega)).trans (by go_simp); have l0 : w.heap.size < w1.heap.size := World.block_lt_of_cell? _ _ t0; have l1 : w.heap.size + 1 < w1.heap.size := World.block_lt_of_cell? _ _ t2; have l2 : w.heap.size + 1 + 1 < w1.heap.size := World.block_lt_of_cell? _ _ t4; have hbw : Below w.heap.size w w1 := Below.trans (by go_grown) (hb1.mono (by simp <;> omega)); have HBW := Lib.hid hbw; clear hb1 hbw)
    have z1 : ∀ v, (w1.setCell ⟨w.heap.size + 1 + 1, 0, none⟩ v).cell? ⟨w.heap.size + 1 + 1, 0, none⟩ = some v := fun v => World.cell?_setCell_same' _ _ _ (by first | (rw [t4]; rfl) | (rw [World.cell?_alloc_past _ _ _ (by assumption), t4]; rfl))
    have z2 : ∀ v u, ((w1.setCell ⟨w.heap.size + 1 + 1, 0, none⟩ v).setCell ⟨w.heap.size + 1 + 1, 1, none⟩ u).cell? ⟨w.heap.size + 1 + 1, 1, none⟩ = some u := fun v u => World.cell?_setCell_same' _ _ _ (by rw [World.cell?_setCell_other _ _ _ _ (by simp)]; first | (rw [t5]; rfl) | (rw [World.cell?_alloc_past _ _ _ (by assumption), t5]; rfl))
    refine bodyPost_ret (v := .tuple #[.agg #[.int .i64 0, .int .i64 0], .int .i64 10]) (by simp [results, Try.results32, go_sem, z1, z2]) rfl ?_
    exact ⟨rfl, (HBW.out.setCell (by simp; omega) _).setCell (by simp; omega) _⟩
  | true =>
    have hE : twoE a b c d = 0 := by unfold twoE; rw [h1]; rfl
    have e0 : timesS a b c d = madeS (min (a * c) (min (a * d) (min (b * c) (b * d)))) (max (a * c) (max (a * d) (max (b * c) (b * d)))) := by unfold timesS; rw [h1]; rfl
    rw [e0]
    have HE := Lib.hid hE
    clear e0 hE
    obtain ⟨i1, i2, i3, i4, i5, i6⟩ := vI_both h1
    have j0 : IntKind.i64.wrap (a * c) = a * c := by
      have := mul_bd3 i1.1 i1.2 i3.1 i3.2 (by omega)
      exact IntWalk.i64_in _ (by omega)
    have j1 : IntKind.i64.wrap (a * d) = a * d := by
      have := mul_bd3 i1.1 i1.2 i4.1 i4.2 (by omega)
      exact IntWalk.i64_in _ (by omega)
    have j2 : IntKind.i64.wrap (b * c) = b * c := by
      have := mul_bd3 i2.1 i2.2 i3.1 i3.2 (by omega)
      exact IntWalk.i64_in _ (by omega)
    have j3 : IntKind.i64.wrap (b * d) = b * d := by
      have := mul_bd3 i2.1 i2.2 i4.1 i4.2 (by omega)
      exact IntWalk.i64_in _ (by omega)
    have hM := fun W => made_any (min (a * c) (min (a * d) (min (b * c) (b * d)))) (max (a * c) (max (a * d) (max (b * c) (b * d)))) W
    generalize madeS (min (a * c) (min (a * d) (min (b * c) (b * d)))) (max (a * c) (max (a * d) (max (b * c) (b * d)))) = m at *
    obtain ⟨⟨m0, m1⟩, me⟩ := m
    have HM := Lib.hid hM
    clear hM h1
    go_enter Try.func32, Try.ntmps32
    go_wp2_with (go_at_call 70; refine Calls.mono (two_any a b c d _) ?_; rintro e w1 ⟨rfl, hb1⟩; rw [HE.out]; have t0 : w1.cell? ⟨w.heap.size, 0, none⟩ = some (.int .i64 a) := cell_keep hb1 (by go_simp); have t1 : w1.cell? ⟨w.heap.size, 1, none⟩ = some (.int .i64 b) := cell_keep hb1 (by go_simp); have t2 : w1.cell? ⟨w.heap.size + 1, 0, none⟩ = some (.int .i64 c) := cell_keep hb1 (by go_simp); have t3 : w1.cell? ⟨w.heap.size + 1, 1, none⟩ = some (.int .i64 d) := cell_keep hb1 (by go_simp); have t4 : w1.cell? ⟨w.heap.size + 1 + 1, 0, none⟩ = some (.int .i64 0) := cell_keep hb1 (by go_simp); have t5 : w1.cell? ⟨w.heap.size + 1 + 1, 1, none⟩ = some (.int .i64 0) := cell_keep hb1 (by go_simp); have t6 : w1.frozen? ⟨w.heap.size + 1 + 1, 0, none⟩ = false := (hb1.frozen (p := ⟨w.heap.size + 1 + 1, 0, none⟩) (by simp <;> omega)).trans (by go_simp); have t7 : w1.frozen? ⟨w.heap.size + 1 + 1, 1, none⟩ = false := (hb1.frozen (p := ⟨w.heap.size + 1 + 1, 1, none⟩) (by simp <;> omega)).trans (by go_simp); have l0 : w.heap.size < w1.heap.size := World.block_lt_of_cell? _ _ t0; have l1 : w.heap.size + 1 < w1.heap.size := World.block_lt_of_cell? _ _ t2; have l2 : w.heap.size + 1 + 1 < w1.heap.size := World.block_lt_of_cell? _ _ t4; have hbw : Below w.heap.size w w1 := Below.trans (by go_grown) (hb1.mono (by simp <;> omega)); have HBW := Lib.hid hbw; clear hb1 hbw)
    go_quiet (fail)
    have hq : Below w1.heap.size w1 (w1.drewN nq) := below_drewN (Below.refl _ _) nq
    replace t4 := cell_keep hq t4
    replace t5 := cell_keep hq t5
    replace t6 := (hq.frozen (p := ⟨w.heap.size + 1 + 1, 0, none⟩) l2).trans t6
    replace t7 := (hq.frozen (p := ⟨w.heap.size + 1 + 1, 1, none⟩) l2).trans t7
    replace l2 : w.heap.size + 1 + 1 < (w1.drewN nq).heap.size := World.block_lt_of_cell? _ _ t4
    have hbq := HBW.out.trans (hq.mono HBW.out.size)
    clear HBW hq t0 t1 t2 t3 l0 l1
    generalize w1.drewN nq = wq at *
    have HBW := Lib.hid hbq
    clear hbq
    go_wp2_with (first
      | (go_at_call 73; refine Calls.mono (HM.out _) ?_; rintro e w3 ⟨rfl, hb3⟩; replace t4 := cell_keep hb3 t4; replace t5 := cell_keep hb3 t5; replace t6 := (hb3.frozen (p := ⟨w.heap.size + 1 + 1, 0, none⟩) l2).trans t6; replace t7 := (hb3.frozen (p := ⟨w.heap.size + 1 + 1, 1, none⟩) l2).trans t7; replace l2 : w.heap.size + 1 + 1 < w3.heap.size := World.block_lt_of_cell? _ _ t4; have HB3 := Lib.hid hb3; clear hb3))
    have z1 : ∀ v, (w3.setCell ⟨w.heap.size + 1 + 1, 0, none⟩ v).cell? ⟨w.heap.size + 1 + 1, 0, none⟩ = some v := fun v => World.cell?_setCell_same' _ _ _ (by first | (rw [t4]; rfl) | (rw [World.cell?_alloc_past _ _ _ (by assumption), t4]; rfl))
    have z2 : ∀ v u, ((w3.setCell ⟨w.heap.size + 1 + 1, 0, none⟩ v).setCell ⟨w.heap.size + 1 + 1, 1, none⟩ u).cell? ⟨w.heap.size + 1 + 1, 1, none⟩ = some u := fun v u => World.cell?_setCell_same' _ _ _ (by rw [World.cell?_setCell_other _ _ _ _ (by simp)]; first | (rw [t5]; rfl) | (rw [World.cell?_alloc_past _ _ _ (by assumption), t5]; rfl))
    refine bodyPost_ret (v := .tuple #[.agg #[.int .i64 m0, .int .i64 m1], .int .i64 me]) (by simp [results, Try.results32, go_sem, z1, z2]) rfl ?_
    have g1 := HBW.out.size
    exact ⟨rfl, ((HBW.out.trans (HB3.out.mono g1)).setCell (by simp; omega) _).setCell (by simp; omega) _⟩

set_option maxHeartbeats 1000000 in
theorem times_any (a b c d : Int) (w : World) : Calls Try.prog 31 #[.agg #[.int .i64 a, .int .i64 b], .agg #[.int .i64 c, .int .i64 d]] w fun e w' =>
    e = .returned (.tuple #[.agg #[.int .i64 (timesS a b c d).1.1, .int .i64 (timesS a b c d).1.2], .int .i64 (timesS a b c d).2]) ∧ Below w.heap.size w w' := by
  cases h1 : (vI a b && vI c d) with
  | false =>
    have e0 : timesS a b c d = ((0, 0), 10) := by unfold timesS; rw [h1]; rfl
    rw [e0]
    clear e0
    have hE : [(a, b), (c, d)].all vS = false := by simp only [List.all_cons, List.all_nil, Bool.and_true, vS_vI]; exact h1
    have HE := Lib.hid hE
    clear hE h1
    go_enter Try.func31, Try.ntmps31
    go_wp2_with (go_at_call 65; refine Calls.mono (valid_any _ _ _ _ [(a, b), (c, d)] _ rfl (le_maxLen (by simp)) ?c3 (RS.new2 (by simp))) ?_; (case c3 => simp); rintro e w1 ⟨rfl, hb1⟩; rw [HE.out]; have t0 : w1.cell? ⟨w.heap.size, 0, none⟩ = some (.int .i64 a) := cell_keep hb1 (by go_simp); have t1 : w1.cell? ⟨w.heap.size, 1, none⟩ = some (.int .i64 b) := cell_keep hb1 (by go_simp); have t2 : w1.cell? ⟨w.heap.size + 1, 0, none⟩ = some (.int .i64 c) := cell_keep hb1 (by go_simp); have t3 : w1.cell? ⟨w.heap.size + 1, 1, none⟩ = some (.int .i64 d) := cell_keep hb1 (by go_simp); have t4 : w1.cell? ⟨w.heap.size + 1 + 1, 0, none⟩ = some (.int .i64 0) := cell_keep hb1 (by go_simp); have t5 : w1.cell? ⟨w.heap.size + 1 + 1, 1, none⟩ = some (.int .i64 0) := cell_keep hb1 (by go_simp); have t6 : w1.frozen? ⟨w.heap.size + 1 + 1, 0, none⟩ = false := (hb1.frozen (p := ⟨w.heap.size + 1 + 1, 0, none⟩) (by simp <;> omega)).trans (by go_simp); have t7 : w1.frozen? ⟨w.heap.size + 1 + 1, 1, none⟩ = false := (hb1.frozen (p := ⟨w.heap.size + 1 + 1, 1, none⟩) (by simp <;> omega)).trans (by go_simp); have l0 : w.heap.size < w1.heap.size := World.block_lt_of_cell? _ _ t0; have l1 : w.heap.size + 1 < w1.heap.size := World.block_lt_of_cell? _ _ t2; have l2 : w.heap.size + 1 + 1 < w1.heap.size := World.block_lt_of_cell? _ _ t4; have hbw : Below w.heap.size w w1 := Below.trans (by go_grown) (hb1.mono (by simp <;> omega)); have HBW := Lib.hid hbw; clear hb1 hbw)
    have z1 : ∀ v, (w1.setCell ⟨w.heap.size + 1 + 1, 0, none⟩ v).cell? ⟨w.heap.size + 1 + 1, 0, none⟩ = some v := fun v => World.cell?_setCell_same' _ _ _ (by first | (rw [t4]; rfl) | (rw [World.cell?_alloc_past _ _ _ (by assumption), t4]; rfl))
    have z2 : ∀ v u, ((w1.setCell ⟨w.heap.size + 1 + 1, 0, none⟩ v).setCell ⟨w.heap.size + 1 + 1, 1, none⟩ u).cell? ⟨w.heap.size + 1 + 1, 1, none⟩ = some u := fun v u => World.cell?_setCell_same' _ _ _ (by rw [World.cell?_setCell_other _ _ _ _ (by simp)]; first | (rw [t5]; rfl) | (rw [World.cell?_alloc_past _ _ _ (by assumption), t5]; rfl))
    refine bodyPost_ret (v := .tuple #[.agg #[.int .i64 0, .int .i64 0], .int .i64 10]) (by simp [results, Try.results31, go_sem, z1, z2]) rfl ?_
    exact ⟨rfl, (HBW.out.setCell (by simp; omega) _).setCell (by simp; omega) _⟩
  | true =>
    have hE : [(a, b), (c, d)].all vS = true := by simp only [List.all_cons, List.all_nil, Bool.and_true, vS_vI]; exact h1
    have e0 : timesS a b c d = madeS (min (a * c) (min (a * d) (min (b * c) (b * d)))) (max (a * c) (max (a * d) (max (b * c) (b * d)))) := by unfold timesS; rw [h1]; rfl
    rw [e0]
    have HE := Lib.hid hE
    clear e0 hE
    obtain ⟨i1, i2, i3, i4, i5, i6⟩ := vI_both h1
    have j0 : IntKind.i64.wrap (a * c) = a * c := by
      have := mul_bd3 i1.1 i1.2 i3.1 i3.2 (by omega)
      exact IntWalk.i64_in _ (by omega)
    have j1 : IntKind.i64.wrap (a * d) = a * d := by
      have := mul_bd3 i1.1 i1.2 i4.1 i4.2 (by omega)
      exact IntWalk.i64_in _ (by omega)
    have j2 : IntKind.i64.wrap (b * c) = b * c := by
      have := mul_bd3 i2.1 i2.2 i3.1 i3.2 (by omega)
      exact IntWalk.i64_in _ (by omega)
    have j3 : IntKind.i64.wrap (b * d) = b * d := by
      have := mul_bd3 i2.1 i2.2 i4.1 i4.2 (by omega)
      exact IntWalk.i64_in _ (by omega)
    have hM := fun W => bounded_any (min (a * c) (min (a * d) (min (b * c) (b * d)))) (max (a * c) (max (a * d) (max (b * c) (b * d)))) W
    generalize madeS (min (a * c) (min (a * d) (min (b * c) (b * d)))) (max (a * c) (max (a * d) (max (b * c) (b * d)))) = m at *
    obtain ⟨⟨m0, m1⟩, me⟩ := m
    have HM := Lib.hid hM
    clear hM h1
    go_enter Try.func31, Try.ntmps31
    go_wp2_with (go_at_call 65; refine Calls.mono (valid_any _ _ _ _ [(a, b), (c, d)] _ rfl (le_maxLen (by simp)) ?c3 (RS.new2 (by simp))) ?_; (case c3 => simp); rintro e w1 ⟨rfl, hb1⟩; rw [HE.out]; have t0 : w1.cell? ⟨w.heap.size, 0, none⟩ = some (.int .i64 a) := cell_keep hb1 (by go_simp); have t1 : w1.cell? ⟨w.heap.size, 1, none⟩ = some (.int .i64 b) := cell_keep hb1 (by go_simp); have t2 : w1.cell? ⟨w.heap.size + 1, 0, none⟩ = some (.int .i64 c) := cell_keep hb1 (by go_simp); have t3 : w1.cell? ⟨w.heap.size + 1, 1, none⟩ = some (.int .i64 d) := cell_keep hb1 (by go_simp); have t4 : w1.cell? ⟨w.heap.size + 1 + 1, 0, none⟩ = some (.int .i64 0) := cell_keep hb1 (by go_simp); have t5 : w1.cell? ⟨w.heap.size + 1 + 1, 1, none⟩ = some (.int .i64 0) := cell_keep hb1 (by go_simp); have t6 : w1.frozen? ⟨w.heap.size + 1 + 1, 0, none⟩ = false := (hb1.frozen (p := ⟨w.heap.size + 1 + 1, 0, none⟩) (by simp <;> omega)).trans (by go_simp); have t7 : w1.frozen? ⟨w.heap.size + 1 + 1, 1, none⟩ = false := (hb1.frozen (p := ⟨w.heap.size + 1 + 1, 1, none⟩) (by simp <;> omega)).trans (by go_simp); have l0 : w.heap.size < w1.heap.size := World.block_lt_of_cell? _ _ t0; have l1 : w.heap.size + 1 < w1.heap.size := World.block_lt_of_cell? _ _ t2; have l2 : w.heap.size + 1 + 1 < w1.heap.size := World.block_lt_of_cell? _ _ t4; have hbw : Below w.heap.size w w1 := Below.trans (by go_grown) (hb1.mono (by simp <;> omega)); have HBW := Lib.hid hbw; clear hb1 hbw)
    go_quiet (fail)
    have hq : Below w1.heap.size w1 (w1.drewN nq) := below_drewN (Below.refl _ _) nq
    replace t4 := cell_keep hq t4
    replace t5 := cell_keep hq t5
    replace t6 := (hq.frozen (p := ⟨w.heap.size + 1 + 1, 0, none⟩) l2).trans t6
    replace t7 := (hq.frozen (p := ⟨w.heap.size + 1 + 1, 1, none⟩) l2).trans t7
    replace l2 : w.heap.size + 1 + 1 < (w1.drewN nq).heap.size := World.block_lt_of_cell? _ _ t4
    have hbq := HBW.out.trans (hq.mono HBW.out.size)
    clear HBW hq t0 t1 t2 t3 l0 l1
    generalize w1.drewN nq = wq at *
    have HBW := Lib.hid hbq
    clear hbq
    go_wp2_with (first
      | (go_at_call 71; refine Calls.mono (span_any _ _ _) ?_; rintro e w2 ⟨rfl, hb2⟩; replace t4 := cell_keep hb2 t4; replace t5 := cell_keep hb2 t5; replace t6 := (hb2.frozen (p := ⟨w.heap.size + 1 + 1, 0, none⟩) l2).trans t6; replace t7 := (hb2.frozen (p := ⟨w.heap.size + 1 + 1, 1, none⟩) l2).trans t7; replace l2 : w.heap.size + 1 + 1 < w2.heap.size := World.block_lt_of_cell? _ _ t4; have HB2 := Lib.hid hb2; clear hb2)
      | (go_at_call 72; refine Calls.mono (HM.out _) ?_; rintro e w3 ⟨rfl, hb3⟩; replace t4 := cell_keep hb3 t4; replace t5 := cell_keep hb3 t5; replace t6 := (hb3.frozen (p := ⟨w.heap.size + 1 + 1, 0, none⟩) l2).trans t6; replace t7 := (hb3.frozen (p := ⟨w.heap.size + 1 + 1, 1, none⟩) l2).trans t7; replace l2 : w.heap.size + 1 + 1 < w3.heap.size := World.block_lt_of_cell? _ _ t4; have HB3 := Lib.hid hb3; clear hb3))
    have z1 : ∀ v, (w3.setCell ⟨w.heap.size + 1 + 1, 0, none⟩ v).cell? ⟨w.heap.size + 1 + 1, 0, none⟩ = some v := fun v => World.cell?_setCell_same' _ _ _ (by first | (rw [t4]; rfl) | (rw [World.cell?_alloc_past _ _ _ (by assumption), t4]; rfl))
    have z2 : ∀ v u, ((w3.setCell ⟨w.heap.size + 1 + 1, 0, none⟩ v).setCell ⟨w.heap.size + 1 + 1, 1, none⟩ u).cell? ⟨w.heap.size + 1 + 1, 1, none⟩ = some u := fun v u => World.cell?_setCell_same' _ _ _ (by rw [World.cell?_setCell_other _ _ _ _ (by simp)]; first | (rw [t5]; rfl) | (rw [World.cell?_alloc_past _ _ _ (by assumption), t5]; rfl))
    refine bodyPost_ret (v := .tuple #[.agg #[.int .i64 m0, .int .i64 m1], .int .i64 me]) (by simp [results, Try.results31, go_sem, z1, z2]) rfl ?_
    have g1 := HBW.out.size
    have g2 := HB2.out.size
    exact ⟨rfl, (((HBW.out.trans (HB2.out.mono g1)).trans (HB3.out.mono (Nat.le_trans g1 g2))).setCell (by simp; omega) _).setCell (by simp; omega) _⟩

end Go.Proofs.Ytjdahphnmeaolaa

/- swashplatelaw01.SpansComputes answers true at every input: both sides' Add, Times and Part agree. -/
import Derived.Test.YtjdahphnmeaolaaPart
import Derived.Test.YtjdahphnmeaolaaWorks
namespace Go.Proofs.Ytjdahphnmeaolaa
open Go.RowKit

set_option maxRecDepth 100000 in
set_option maxHeartbeats 4000000 in
theorem law_computes (a b c d n k : Int) (w : World) : Calls Try.prog 5 #[.agg #[.int .i64 a, .int .i64 b], .agg #[.int .i64 c, .int .i64 d], .agg #[.int .i64 n, .int .i64 k]] w fun e w' => e = .returned (.bool true) ∧ Below w.heap.size w w' := by
  have hA : ∀ W : World, Calls Try.prog 29 #[.agg #[.int .i64 a, .int .i64 b], .agg #[.int .i64 c, .int .i64 d]] W fun e w' =>
    e = .returned (.tuple #[.agg #[.int .i64 (addS a b c d).1.1, .int .i64 (addS a b c d).1.2], .int .i64 (addS a b c d).2]) ∧ Below W.heap.size W w' := fun W => add_any a b c d W
  have hA' : ∀ W : World, Calls Try.prog 30 #[.agg #[.int .i64 a, .int .i64 b], .agg #[.int .i64 c, .int .i64 d]] W fun e w' =>
    e = .returned (.tuple #[.agg #[.int .i64 (addS a b c d).1.1, .int .i64 (addS a b c d).1.2], .int .i64 (addS a b c d).2]) ∧ Below W.heap.size W w' := fun W => radd_any a b c d W
  have hT : ∀ W : World, Calls Try.prog 31 #[.agg #[.int .i64 a, .int .i64 b], .agg #[.int .i64 c, .int .i64 d]] W fun e w' =>
    e = .returned (.tuple #[.agg #[.int .i64 (timesS a b c d).1.1, .int .i64 (timesS a b c d).1.2], .int .i64 (timesS a b c d).2]) ∧ Below W.heap.size W w' := fun W => times_any a b c d W
  have hT' : ∀ W : World, Calls Try.prog 32 #[.agg #[.int .i64 a, .int .i64 b], .agg #[.int .i64 c, .int .i64 d]] W fun e w' =>
    e = .returned (.tuple #[.agg #[.int .i64 (timesS a b c d).1.1, .int .i64 (timesS a b c d).1.2], .int .i64 (timesS a b c d).2]) ∧ Below W.heap.size W w' := fun W => rtimes_any a b c d W
  have hP : ∀ W : World, Calls Try.prog 33 #[.agg #[.int .i64 a, .int .i64 b], .int .i64 n, .int .i64 k] W fun e w' =>
    e = .returned (.tuple #[.agg #[.int .i64 (partS a b n k).1.1, .int .i64 (partS a b n k).1.2], .int .i64 (partS a b n k).2]) ∧ Below W.heap.size W w' := fun W => part_span_any a b n k W
  have hP' : ∀ W : World, Calls Try.prog 34 #[.agg #[.int .i64 a, .int .i64 b], .int .i64 n, .int .i64 k] W fun e w' =>
    e = .returned (.tuple #[.agg #[.int .i64 (partS a b n k).1.1, .int .i64 (partS a b n k).1.2], .int .i64 (partS a b n k).2]) ∧ Below W.heap.size W w' := fun W => rpart_any a b n k W
  generalize addS a b c d = m at *
  generalize timesS a b c d = t at *
  generalize partS a b n k = p at *
  obtain ⟨⟨m0, m1⟩, me⟩ := m
  obtain ⟨⟨t0, t1⟩, te⟩ := t
  obtain ⟨⟨p0, p1⟩, pe⟩ := p
  simp only at hA hA' hT hT' hP hP'
  have HA := Lib.hid hA
  have HA' := Lib.hid hA'
  have HT := Lib.hid hT
  have HT' := Lib.hid hT'
  have HP := Lib.hid hP
  have HP' := Lib.hid hP'
  clear hA hA' hT hT' hP hP'
  have HW := Lib.hid works_any
  go_enter Try.func5, Try.ntmps5
  go_upto_region 2 with (go_at_call 29; refine Calls.mono (HA.out _) ?_; rintro e w1 ⟨rfl, hb1⟩)
  have s1_0 : w1.cell? ⟨w.heap.size, 0, none⟩ = some (.int .i64 a) := cell_keep hb1 (by go_simp)
  have s1_1 : w1.cell? ⟨w.heap.size, 1, none⟩ = some (.int .i64 b) := cell_keep hb1 (by go_simp)
  have s1_2 : w1.cell? ⟨w.heap.size + 1, 0, none⟩ = some (.int .i64 c) := cell_keep hb1 (by go_simp)
  have s1_3 : w1.cell? ⟨w.heap.size + 1, 1, none⟩ = some (.int .i64 d) := cell_keep hb1 (by go_simp)
  have s1_4 : w1.cell? ⟨w.heap.size + 1 + 1, 0, none⟩ = some (.int .i64 n) := cell_keep hb1 (by go_simp)
  have s1_5 : w1.cell? ⟨w.heap.size + 1 + 1, 1, none⟩ = some (.int .i64 k) := cell_keep hb1 (by go_simp)
  have g1_0 : w.heap.size < w1.heap.size := World.block_lt_of_cell? _ _ s1_0
  have g1_2 : w.heap.size + 1 < w1.heap.size := World.block_lt_of_cell? _ _ s1_2
  have g1_4 : w.heap.size + 1 + 1 < w1.heap.size := World.block_lt_of_cell? _ _ s1_4
  have hbw1 : Below w.heap.size w w1 := Below.trans (by go_grown) (hb1.mono (by simp <;> omega))
  have HB1 := Lib.hid hbw1
  clear hb1 hbw1
  go_upto_region 3 with (go_at_call 30; refine Calls.mono (HA'.out _) ?_; rintro e w2 ⟨rfl, hb2⟩)
  have s2_0 : w2.cell? ⟨w.heap.size, 0, none⟩ = some (.int .i64 a) := cell_keep hb2 (by go_simp)
  have s2_1 : w2.cell? ⟨w.heap.size, 1, none⟩ = some (.int .i64 b) := cell_keep hb2 (by go_simp)
  have s2_2 : w2.cell? ⟨w.heap.size + 1, 0, none⟩ = some (.int .i64 c) := cell_keep hb2 (by go_simp)
  have s2_3 : w2.cell? ⟨w.heap.size + 1, 1, none⟩ = some (.int .i64 d) := cell_keep hb2 (by go_simp)
  have s2_4 : w2.cell? ⟨w.heap.size + 1 + 1, 0, none⟩ = some (.int .i64 n) := cell_keep hb2 (by go_simp)
  have s2_5 : w2.cell? ⟨w.heap.size + 1 + 1, 1, none⟩ = some (.int .i64 k) := cell_keep hb2 (by go_simp)
  have s2_r1a : w2.cell? ⟨w1.heap.size, 0, none⟩ = some (.int .i64 m0) := cell_keep hb2 (by go_simp)
  have s2_r1b : w2.cell? ⟨w1.heap.size, 1, none⟩ = some (.int .i64 m1) := cell_keep hb2 (by go_simp)
  have g2_0 : w.heap.size < w2.heap.size := World.block_lt_of_cell? _ _ s2_0
  have g2_2 : w.heap.size + 1 < w2.heap.size := World.block_lt_of_cell? _ _ s2_2
  have g2_4 : w.heap.size + 1 + 1 < w2.heap.size := World.block_lt_of_cell? _ _ s2_4
  have g2_r1a : w1.heap.size < w2.heap.size := World.block_lt_of_cell? _ _ s2_r1a
  have hbw2 : Below w.heap.size w w2 := (HB1.out.alloc (by omega) _).trans (hb2.mono (by simp <;> omega))
  have HB2 := Lib.hid hbw2
  clear hb2 hbw2 s1_0 s1_1 s1_2 s1_3 s1_4 s1_5 g1_0 g1_2 g1_4
  go_upto_region 4 with (go_at_call 31; refine Calls.mono (HT.out _) ?_; rintro e w3 ⟨rfl, hb3⟩)
  have s3_0 : w3.cell? ⟨w.heap.size, 0, none⟩ = some (.int .i64 a) := cell_keep hb3 (by go_simp)
  have s3_1 : w3.cell? ⟨w.heap.size, 1, none⟩ = some (.int .i64 b) := cell_keep hb3 (by go_simp)
  have s3_2 : w3.cell? ⟨w.heap.size + 1, 0, none⟩ = some (.int .i64 c) := cell_keep hb3 (by go_simp)
  have s3_3 : w3.cell? ⟨w.heap.size + 1, 1, none⟩ = some (.int .i64 d) := cell_keep hb3 (by go_simp)
  have s3_4 : w3.cell? ⟨w.heap.size + 1 + 1, 0, none⟩ = some (.int .i64 n) := cell_keep hb3 (by go_simp)
  have s3_5 : w3.cell? ⟨w.heap.size + 1 + 1, 1, none⟩ = some (.int .i64 k) := cell_keep hb3 (by go_simp)
  have s3_r1a : w3.cell? ⟨w1.heap.size, 0, none⟩ = some (.int .i64 m0) := cell_keep hb3 (by go_simp)
  have s3_r1b : w3.cell? ⟨w1.heap.size, 1, none⟩ = some (.int .i64 m1) := cell_keep hb3 (by go_simp)
  have s3_r2a : w3.cell? ⟨w2.heap.size, 0, none⟩ = some (.int .i64 m0) := cell_keep hb3 (by go_simp)
  have s3_r2b : w3.cell? ⟨w2.heap.size, 1, none⟩ = some (.int .i64 m1) := cell_keep hb3 (by go_simp)
  have g3_0 : w.heap.size < w3.heap.size := World.block_lt_of_cell? _ _ s3_0
  have g3_2 : w.heap.size + 1 < w3.heap.size := World.block_lt_of_cell? _ _ s3_2
  have g3_4 : w.heap.size + 1 + 1 < w3.heap.size := World.block_lt_of_cell? _ _ s3_4
  have g3_r1a : w1.heap.size < w3.heap.size := World.block_lt_of_cell? _ _ s3_r1a
  have g3_r2a : w2.heap.size < w3.heap.size := World.block_lt_of_cell? _ _ s3_r2a
  have hbw3 : Below w.heap.size w w3 := (HB2.out.alloc (by omega) _).trans (hb3.mono (by simp <;> omega))
  have HB3 := Lib.hid hbw3
  clear hb3 hbw3 s2_0 s2_1 s2_2 s2_3 s2_4 s2_5 s2_r1a s2_r1b g2_0 g2_2 g2_4 g2_r1a
  go_upto_region 5 with (go_at_call 32; refine Calls.mono (HT'.out _) ?_; rintro e w4 ⟨rfl, hb4⟩)
  have s4_0 : w4.cell? ⟨w.heap.size, 0, none⟩ = some (.int .i64 a) := cell_keep hb4 (by go_simp)
  have s4_1 : w4.cell? ⟨w.heap.size, 1, none⟩ = some (.int .i64 b) := cell_keep hb4 (by go_simp)
  have s4_2 : w4.cell? ⟨w.heap.size + 1, 0, none⟩ = some (.int .i64 c) := cell_keep hb4 (by go_simp)
  have s4_3 : w4.cell? ⟨w.heap.size + 1, 1, none⟩ = some (.int .i64 d) := cell_keep hb4 (by go_simp)
  have s4_4 : w4.cell? ⟨w.heap.size + 1 + 1, 0, none⟩ = some (.int .i64 n) := cell_keep hb4 (by go_simp)
  have s4_5 : w4.cell? ⟨w.heap.size + 1 + 1, 1, none⟩ = some (.int .i64 k) := cell_keep hb4 (by go_simp)
  have s4_r1a : w4.cell? ⟨w1.heap.size, 0, none⟩ = some (.int .i64 m0) := cell_keep hb4 (by go_simp)
  have s4_r1b : w4.cell? ⟨w1.heap.size, 1, none⟩ = some (.int .i64 m1) := cell_keep hb4 (by go_simp)
  have s4_r2a : w4.cell? ⟨w2.heap.size, 0, none⟩ = some (.int .i64 m0) := cell_keep hb4 (by go_simp)
  have s4_r2b : w4.cell? ⟨w2.heap.size, 1, none⟩ = some (.int .i64 m1) := cell_keep hb4 (by go_simp)
  have s4_r3a : w4.cell? ⟨w3.heap.size, 0, none⟩ = some (.int .i64 t0) := cell_keep hb4 (by go_simp)
  have s4_r3b : w4.cell? ⟨w3.heap.size, 1, none⟩ = some (.int .i64 t1) := cell_keep hb4 (by go_simp)
  have g4_0 : w.heap.size < w4.heap.size := World.block_lt_of_cell? _ _ s4_0
  have g4_2 : w.heap.size + 1 < w4.heap.size := World.block_lt_of_cell? _ _ s4_2
  have g4_4 : w.heap.size + 1 + 1 < w4.heap.size := World.block_lt_of_cell? _ _ s4_4
  have g4_r1a : w1.heap.size < w4.heap.size := World.block_lt_of_cell? _ _ s4_r1a
  have g4_r2a : w2.heap.size < w4.heap.size := World.block_lt_of_cell? _ _ s4_r2a
  have g4_r3a : w3.heap.size < w4.heap.size := World.block_lt_of_cell? _ _ s4_r3a
  have hbw4 : Below w.heap.size w w4 := (HB3.out.alloc (by omega) _).trans (hb4.mono (by simp <;> omega))
  have HB4 := Lib.hid hbw4
  clear hb4 hbw4 s3_0 s3_1 s3_2 s3_3 s3_4 s3_5 s3_r1a s3_r1b s3_r2a s3_r2b g3_0 g3_2 g3_4 g3_r1a g3_r2a
  go_upto_region 6 with (go_at_call 33; refine Calls.mono (HP.out _) ?_; rintro e w5 ⟨rfl, hb5⟩)
  have s5_0 : w5.cell? ⟨w.heap.size, 0, none⟩ = some (.int .i64 a) := cell_keep hb5 (by go_simp)
  have s5_1 : w5.cell? ⟨w.heap.size, 1, none⟩ = some (.int .i64 b) := cell_keep hb5 (by go_simp)
  have s5_2 : w5.cell? ⟨w.heap.size + 1, 0, none⟩ = some (.int .i64 c) := cell_keep hb5 (by go_simp)
  have s5_3 : w5.cell? ⟨w.heap.size + 1, 1, none⟩ = some (.int .i64 d) := cell_keep hb5 (by go_simp)
  have s5_4 : w5.cell? ⟨w.heap.size + 1 + 1, 0, none⟩ = some (.int .i64 n) := cell_keep hb5 (by go_simp)
  have s5_5 : w5.cell? ⟨w.heap.size + 1 + 1, 1, none⟩ = some (.int .i64 k) := cell_keep hb5 (by go_simp)
  have s5_r1a : w5.cell? ⟨w1.heap.size, 0, none⟩ = some (.int .i64 m0) := cell_keep hb5 (by go_simp)
  have s5_r1b : w5.cell? ⟨w1.heap.size, 1, none⟩ = some (.int .i64 m1) := cell_keep hb5 (by go_simp)
  have s5_r2a : w5.cell? ⟨w2.heap.size, 0, none⟩ = some (.int .i64 m0) := cell_keep hb5 (by go_simp)
  have s5_r2b : w5.cell? ⟨w2.heap.size, 1, none⟩ = some (.int .i64 m1) := cell_keep hb5 (by go_simp)
  have s5_r3a : w5.cell? ⟨w3.heap.size, 0, none⟩ = some (.int .i64 t0) := cell_keep hb5 (by go_simp)
  have s5_r3b : w5.cell? ⟨w3.heap.size, 1, none⟩ = some (.int .i64 t1) := cell_keep hb5 (by go_simp)
  have s5_r4a : w5.cell? ⟨w4.heap.size, 0, none⟩ = some (.int .i64 t0) := cell_keep hb5 (by go_simp)
  have s5_r4b : w5.cell? ⟨w4.heap.size, 1, none⟩ = some (.int .i64 t1) := cell_keep hb5 (by go_simp)
  have g5_0 : w.heap.size < w5.heap.size := World.block_lt_of_cell? _ _ s5_0
  have g5_2 : w.heap.size + 1 < w5.heap.size := World.block_lt_of_cell? _ _ s5_2
  have g5_4 : w.heap.size + 1 + 1 < w5.heap.size := World.block_lt_of_cell? _ _ s5_4
  have g5_r1a : w1.heap.size < w5.heap.size := World.block_lt_of_cell? _ _ s5_r1a
  have g5_r2a : w2.heap.size < w5.heap.size := World.block_lt_of_cell? _ _ s5_r2a
  have g5_r3a : w3.heap.size < w5.heap.size := World.block_lt_of_cell? _ _ s5_r3a
  have g5_r4a : w4.heap.size < w5.heap.size := World.block_lt_of_cell? _ _ s5_r4a
  have hbw5 : Below w.heap.size w w5 := (HB4.out.alloc (by omega) _).trans (hb5.mono (by simp <;> omega))
  have HB5 := Lib.hid hbw5
  clear hb5 hbw5 s4_0 s4_1 s4_2 s4_3 s4_4 s4_5 s4_r1a s4_r1b s4_r2a s4_r2b s4_r3a s4_r3b g4_0 g4_2 g4_4 g4_r1a g4_r2a g4_r3a
  go_upto_region 7 with (go_at_call 34; refine Calls.mono (HP'.out _) ?_; rintro e w6 ⟨rfl, hb6⟩)
  have s6_0 : w6.cell? ⟨w.heap.size, 0, none⟩ = some (.int .i64 a) := cell_keep hb6 (by go_simp)
  have s6_1 : w6.cell? ⟨w.heap.size, 1, none⟩ = some (.int .i64 b) := cell_keep hb6 (by go_simp)
  have s6_2 : w6.cell? ⟨w.heap.size + 1, 0, none⟩ = some (.int .i64 c) := cell_keep hb6 (by go_simp)
  have s6_3 : w6.cell? ⟨w.heap.size + 1, 1, none⟩ = some (.int .i64 d) := cell_keep hb6 (by go_simp)
  have s6_4 : w6.cell? ⟨w.heap.size + 1 + 1, 0, none⟩ = some (.int .i64 n) := cell_keep hb6 (by go_simp)
  have s6_5 : w6.cell? ⟨w.heap.size + 1 + 1, 1, none⟩ = some (.int .i64 k) := cell_keep hb6 (by go_simp)
  have s6_r1a : w6.cell? ⟨w1.heap.size, 0, none⟩ = some (.int .i64 m0) := cell_keep hb6 (by go_simp)
  have s6_r1b : w6.cell? ⟨w1.heap.size, 1, none⟩ = some (.int .i64 m1) := cell_keep hb6 (by go_simp)
  have s6_r2a : w6.cell? ⟨w2.heap.size, 0, none⟩ = some (.int .i64 m0) := cell_keep hb6 (by go_simp)
  have s6_r2b : w6.cell? ⟨w2.heap.size, 1, none⟩ = some (.int .i64 m1) := cell_keep hb6 (by go_simp)
  have s6_r3a : w6.cell? ⟨w3.heap.size, 0, none⟩ = some (.int .i64 t0) := cell_keep hb6 (by go_simp)
  have s6_r3b : w6.cell? ⟨w3.heap.size, 1, none⟩ = some (.int .i64 t1) := cell_keep hb6 (by go_simp)
  have s6_r4a : w6.cell? ⟨w4.heap.size, 0, none⟩ = some (.int .i64 t0) := cell_keep hb6 (by go_simp)
  have s6_r4b : w6.cell? ⟨w4.heap.size, 1, none⟩ = some (.int .i64 t1) := cell_keep hb6 (by go_simp)
  have s6_r5a : w6.cell? ⟨w5.heap.size, 0, none⟩ = some (.int .i64 p0) := cell_keep hb6 (by go_simp)
  have s6_r5b : w6.cell? ⟨w5.heap.size, 1, none⟩ = some (.int .i64 p1) := cell_keep hb6 (by go_simp)
  have g6_0 : w.heap.size < w6.heap.size := World.block_lt_of_cell? _ _ s6_0
  have g6_2 : w.heap.size + 1 < w6.heap.size := World.block_lt_of_cell? _ _ s6_2
  have g6_4 : w.heap.size + 1 + 1 < w6.heap.size := World.block_lt_of_cell? _ _ s6_4
  have g6_r1a : w1.heap.size < w6.heap.size := World.block_lt_of_cell? _ _ s6_r1a
  have g6_r2a : w2.heap.size < w6.heap.size := World.block_lt_of_cell? _ _ s6_r2a
  have g6_r3a : w3.heap.size < w6.heap.size := World.block_lt_of_cell? _ _ s6_r3a
  have g6_r4a : w4.heap.size < w6.heap.size := World.block_lt_of_cell? _ _ s6_r4a
  have g6_r5a : w5.heap.size < w6.heap.size := World.block_lt_of_cell? _ _ s6_r5a
  have hbw6 : Below w.heap.size w w6 := (HB5.out.alloc (by omega) _).trans (hb6.mono (by simp <;> omega))
  have HB6 := Lib.hid hbw6
  clear hb6 hbw6 s5_0 s5_1 s5_2 s5_3 s5_4 s5_5 s5_r1a s5_r1b s5_r2a s5_r2b s5_r3a s5_r3b s5_r4a s5_r4b g5_0 g5_2 g5_4 g5_r1a g5_r2a g5_r3a g5_r4a
  go_wp2_with (go_at_call 18; refine Calls.mono (HW.out _) ?_; rintro e w7 ⟨rfl, hb7⟩)
  go_ret
  exact ⟨rfl, (HB6.out.alloc (by omega) _).trans (hb7.mono (by simp <;> omega))⟩

end Go.Proofs.Ytjdahphnmeaolaa

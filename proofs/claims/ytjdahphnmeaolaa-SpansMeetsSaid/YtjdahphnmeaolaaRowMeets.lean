/- swashplatelaw01.SpansMeets returns true at every input, and the input reads as it did. -/
import Derived.Test.YtjdahphnmeaolaaMeet
import Derived.Test.YtjdahphnmeaolaaWorks
import Derived.ChangeSame
import Derived.JoinedOf
import Derived.JoinedAt
import Derived.RowKit3
import Derived.Lib.SmallJoins
import Derived.Below
namespace Go.Proofs.Ytjdahphnmeaolaa
open Go.RowKit

theorem meetS_bool (a b c d x : Int) (h : vI a b && vI c d) :
    (decide ((meetS a b c d).2 = 0) && decide ((meetS a b c d).1.1 ≤ x) && decide (x ≤ (meetS a b c d).1.2)) = (decide (a ≤ x) && decide (x ≤ b) && (decide (c ≤ x) && decide (x ≤ d))) := by
  unfold meetS
  rw [if_pos h]
  rw [Bool.eq_iff_iff]
  split <;> simp <;> omega
theorem hullS_bool (a b c d x : Int) (h : vI a b && vI c d) (h1 : a ≤ x ∧ x ≤ b ∨ c ≤ x ∧ x ≤ d) : (hullS a b c d).1.1 ≤ x ∧ x ≤ (hullS a b c d).1.2 := by
  unfold hullS
  rw [if_pos h]
  simp
  omega

set_option maxRecDepth 100000 in
set_option maxHeartbeats 4000000 in
theorem law_meets (a b c d x : Int) (w : World) : Calls Try.prog 4 #[.agg #[.int .i64 a, .int .i64 b], .agg #[.int .i64 c, .int .i64 d], .int .i64 x] w fun e w' => e = .returned (.bool true) ∧ Below w.heap.size w w' := by
  have hM : ∀ W : World, Calls Try.prog 25 #[.agg #[.int .i64 a, .int .i64 b], .agg #[.int .i64 c, .int .i64 d]] W fun e w' =>
    e = .returned (.tuple #[.agg #[.int .i64 (meetS a b c d).1.1, .int .i64 (meetS a b c d).1.2], .int .i64 (meetS a b c d).2]) ∧ Below W.heap.size W w' := fun W => meet_any a b c d W
  have hM' : ∀ W : World, Calls Try.prog 26 #[.agg #[.int .i64 a, .int .i64 b], .agg #[.int .i64 c, .int .i64 d]] W fun e w' =>
    e = .returned (.tuple #[.agg #[.int .i64 (meetS a b c d).1.1, .int .i64 (meetS a b c d).1.2], .int .i64 (meetS a b c d).2]) ∧ Below W.heap.size W w' := fun W => rmeet_any a b c d W
  have hH : ∀ W : World, Calls Try.prog 27 #[.agg #[.int .i64 a, .int .i64 b], .agg #[.int .i64 c, .int .i64 d]] W fun e w' =>
    e = .returned (.tuple #[.agg #[.int .i64 (hullS a b c d).1.1, .int .i64 (hullS a b c d).1.2], .int .i64 (hullS a b c d).2]) ∧ Below W.heap.size W w' := fun W => hull_any a b c d W
  have hH' : ∀ W : World, Calls Try.prog 28 #[.agg #[.int .i64 a, .int .i64 b], .agg #[.int .i64 c, .int .i64 d]] W fun e w' =>
    e = .returned (.tuple #[.agg #[.int .i64 (hullS a b c d).1.1, .int .i64 (hullS a b c d).1.2], .int .i64 (hullS a b c d).2]) ∧ Below W.heap.size W w' := fun W => rhull_any a b c d W
  have hmb := meetS_bool a b c d x
  have hhb := hullS_bool a b c d x
  have hhe : (hullS a b c d).2 = if vI a b && vI c d then 0 else 10 := by unfold hullS; split <;> rfl
  generalize meetS a b c d = m at *
  generalize hullS a b c d = h at *
  obtain ⟨⟨m0, m1⟩, me⟩ := m
  obtain ⟨⟨h0, h1⟩, he⟩ := h
  simp only at hM hM' hH hH' hmb hhb hhe
  have HM := Lib.hid hM
  have HM' := Lib.hid hM'
  have HH := Lib.hid hH
  have HH' := Lib.hid hH'
  clear hM hM' hH hH'
  have HW := Lib.hid works_any
  cases hv : (vI a b && vI c d) with
  | false =>
    have hhe' : he = 10 := by rw [hhe, hv]; rfl
    subst hhe'
    clear hmb hhb hhe hv
    go_enter Try.func4, Try.ntmps4
    go_upto_region 2 with (go_at_call 25; refine Calls.mono (HM.out _) ?_; rintro e w1 ⟨rfl, hb1⟩)
    have s1_0 : w1.cell? ⟨w.heap.size, 0, none⟩ = some (.int .i64 a) := cell_keep hb1 (by go_simp)
    have s1_1 : w1.cell? ⟨w.heap.size, 1, none⟩ = some (.int .i64 b) := cell_keep hb1 (by go_simp)
    have s1_2 : w1.cell? ⟨w.heap.size + 1, 0, none⟩ = some (.int .i64 c) := cell_keep hb1 (by go_simp)
    have s1_3 : w1.cell? ⟨w.heap.size + 1, 1, none⟩ = some (.int .i64 d) := cell_keep hb1 (by go_simp)
    have g1_0 : w.heap.size < w1.heap.size := World.block_lt_of_cell? _ _ s1_0
    have g1_2 : w.heap.size + 1 < w1.heap.size := World.block_lt_of_cell? _ _ s1_2
    have hbw1 : Below w.heap.size w w1 := Below.trans (by go_grown) (hb1.mono (by simp <;> omega))
    have HB1 := Lib.hid hbw1
    clear hb1 hbw1
    go_upto_region 3 with (go_at_call 26; refine Calls.mono (HM'.out _) ?_; rintro e w2 ⟨rfl, hb2⟩)
    have s2_0 : w2.cell? ⟨w.heap.size, 0, none⟩ = some (.int .i64 a) := cell_keep hb2 (by go_simp)
    have s2_1 : w2.cell? ⟨w.heap.size, 1, none⟩ = some (.int .i64 b) := cell_keep hb2 (by go_simp)
    have s2_2 : w2.cell? ⟨w.heap.size + 1, 0, none⟩ = some (.int .i64 c) := cell_keep hb2 (by go_simp)
    have s2_3 : w2.cell? ⟨w.heap.size + 1, 1, none⟩ = some (.int .i64 d) := cell_keep hb2 (by go_simp)
    have s2_4 : w2.cell? ⟨w1.heap.size, 0, none⟩ = some (.int .i64 m0) := cell_keep hb2 (by go_simp)
    have s2_5 : w2.cell? ⟨w1.heap.size, 1, none⟩ = some (.int .i64 m1) := cell_keep hb2 (by go_simp)
    have g2_0 : w.heap.size < w2.heap.size := World.block_lt_of_cell? _ _ s2_0
    have g2_2 : w.heap.size + 1 < w2.heap.size := World.block_lt_of_cell? _ _ s2_2
    have g2_4 : w1.heap.size < w2.heap.size := World.block_lt_of_cell? _ _ s2_4
    have hbw2 : Below w.heap.size w w2 := (HB1.out.alloc (by omega) _).trans (hb2.mono (by simp <;> omega))
    have HB2 := Lib.hid hbw2
    clear hb2 hbw2 s1_0 s1_1 s1_2 s1_3 g1_0 g1_2
    go_upto_region 4 with (go_at_call 27; refine Calls.mono (HH.out _) ?_; rintro e w3 ⟨rfl, hb3⟩)
    have s3_0 : w3.cell? ⟨w.heap.size, 0, none⟩ = some (.int .i64 a) := cell_keep hb3 (by go_simp)
    have s3_1 : w3.cell? ⟨w.heap.size, 1, none⟩ = some (.int .i64 b) := cell_keep hb3 (by go_simp)
    have s3_2 : w3.cell? ⟨w.heap.size + 1, 0, none⟩ = some (.int .i64 c) := cell_keep hb3 (by go_simp)
    have s3_3 : w3.cell? ⟨w.heap.size + 1, 1, none⟩ = some (.int .i64 d) := cell_keep hb3 (by go_simp)
    have s3_4 : w3.cell? ⟨w1.heap.size, 0, none⟩ = some (.int .i64 m0) := cell_keep hb3 (by go_simp)
    have s3_5 : w3.cell? ⟨w1.heap.size, 1, none⟩ = some (.int .i64 m1) := cell_keep hb3 (by go_simp)
    have s3_6 : w3.cell? ⟨w2.heap.size, 0, none⟩ = some (.int .i64 m0) := cell_keep hb3 (by go_simp)
    have s3_7 : w3.cell? ⟨w2.heap.size, 1, none⟩ = some (.int .i64 m1) := cell_keep hb3 (by go_simp)
    have g3_0 : w.heap.size < w3.heap.size := World.block_lt_of_cell? _ _ s3_0
    have g3_2 : w.heap.size + 1 < w3.heap.size := World.block_lt_of_cell? _ _ s3_2
    have g3_4 : w1.heap.size < w3.heap.size := World.block_lt_of_cell? _ _ s3_4
    have g3_6 : w2.heap.size < w3.heap.size := World.block_lt_of_cell? _ _ s3_6
    have hbw3 : Below w.heap.size w w3 := (HB2.out.alloc (by omega) _).trans (hb3.mono (by simp <;> omega))
    have HB3 := Lib.hid hbw3
    clear hb3 hbw3 s2_0 s2_1 s2_2 s2_3 s2_4 s2_5 g2_0 g2_2 g2_4
    go_upto_region 5 with (go_at_call 28; refine Calls.mono (HH'.out _) ?_; rintro e w4 ⟨rfl, hb4⟩)
    have s4_0 : w4.cell? ⟨w.heap.size, 0, none⟩ = some (.int .i64 a) := cell_keep hb4 (by go_simp)
    have s4_1 : w4.cell? ⟨w.heap.size, 1, none⟩ = some (.int .i64 b) := cell_keep hb4 (by go_simp)
    have s4_2 : w4.cell? ⟨w.heap.size + 1, 0, none⟩ = some (.int .i64 c) := cell_keep hb4 (by go_simp)
    have s4_3 : w4.cell? ⟨w.heap.size + 1, 1, none⟩ = some (.int .i64 d) := cell_keep hb4 (by go_simp)
    have s4_4 : w4.cell? ⟨w1.heap.size, 0, none⟩ = some (.int .i64 m0) := cell_keep hb4 (by go_simp)
    have s4_5 : w4.cell? ⟨w1.heap.size, 1, none⟩ = some (.int .i64 m1) := cell_keep hb4 (by go_simp)
    have s4_6 : w4.cell? ⟨w2.heap.size, 0, none⟩ = some (.int .i64 m0) := cell_keep hb4 (by go_simp)
    have s4_7 : w4.cell? ⟨w2.heap.size, 1, none⟩ = some (.int .i64 m1) := cell_keep hb4 (by go_simp)
    have s4_8 : w4.cell? ⟨w3.heap.size, 0, none⟩ = some (.int .i64 h0) := cell_keep hb4 (by go_simp)
    have s4_9 : w4.cell? ⟨w3.heap.size, 1, none⟩ = some (.int .i64 h1) := cell_keep hb4 (by go_simp)
    have g4_0 : w.heap.size < w4.heap.size := World.block_lt_of_cell? _ _ s4_0
    have g4_2 : w.heap.size + 1 < w4.heap.size := World.block_lt_of_cell? _ _ s4_2
    have g4_4 : w1.heap.size < w4.heap.size := World.block_lt_of_cell? _ _ s4_4
    have g4_6 : w2.heap.size < w4.heap.size := World.block_lt_of_cell? _ _ s4_6
    have g4_8 : w3.heap.size < w4.heap.size := World.block_lt_of_cell? _ _ s4_8
    have hbw4 : Below w.heap.size w w4 := (HB3.out.alloc (by omega) _).trans (hb4.mono (by simp <;> omega))
    have HB4 := Lib.hid hbw4
    clear hb4 hbw4 s3_0 s3_1 s3_2 s3_3 s3_4 s3_5 s3_6 s3_7 g3_0 g3_2 g3_4 g3_6
    go_wp2_with (go_at_call 18; refine Calls.mono (HW.out _) ?_; rintro e w5 ⟨rfl, hb5⟩)
    go_ret
    exact ⟨rfl, (HB4.out.alloc (by omega) _).trans (hb5.mono (by simp <;> omega))⟩
  | true =>
    have hhe' : he = 0 := by rw [hhe, hv]; rfl
    subst hhe'
    replace hmb := hmb hv
    replace hhb := hhb hv
    clear hhe hv
    go_enter Try.func4, Try.ntmps4
    go_upto_region 2 with (go_at_call 25; refine Calls.mono (HM.out _) ?_; rintro e w1 ⟨rfl, hb1⟩)
    have s1_0 : w1.cell? ⟨w.heap.size, 0, none⟩ = some (.int .i64 a) := cell_keep hb1 (by go_simp)
    have s1_1 : w1.cell? ⟨w.heap.size, 1, none⟩ = some (.int .i64 b) := cell_keep hb1 (by go_simp)
    have s1_2 : w1.cell? ⟨w.heap.size + 1, 0, none⟩ = some (.int .i64 c) := cell_keep hb1 (by go_simp)
    have s1_3 : w1.cell? ⟨w.heap.size + 1, 1, none⟩ = some (.int .i64 d) := cell_keep hb1 (by go_simp)
    have g1_0 : w.heap.size < w1.heap.size := World.block_lt_of_cell? _ _ s1_0
    have g1_2 : w.heap.size + 1 < w1.heap.size := World.block_lt_of_cell? _ _ s1_2
    have hbw1 : Below w.heap.size w w1 := Below.trans (by go_grown) (hb1.mono (by simp <;> omega))
    have HB1 := Lib.hid hbw1
    clear hb1 hbw1
    go_upto_region 3 with (go_at_call 26; refine Calls.mono (HM'.out _) ?_; rintro e w2 ⟨rfl, hb2⟩)
    have s2_0 : w2.cell? ⟨w.heap.size, 0, none⟩ = some (.int .i64 a) := cell_keep hb2 (by go_simp)
    have s2_1 : w2.cell? ⟨w.heap.size, 1, none⟩ = some (.int .i64 b) := cell_keep hb2 (by go_simp)
    have s2_2 : w2.cell? ⟨w.heap.size + 1, 0, none⟩ = some (.int .i64 c) := cell_keep hb2 (by go_simp)
    have s2_3 : w2.cell? ⟨w.heap.size + 1, 1, none⟩ = some (.int .i64 d) := cell_keep hb2 (by go_simp)
    have s2_4 : w2.cell? ⟨w1.heap.size, 0, none⟩ = some (.int .i64 m0) := cell_keep hb2 (by go_simp)
    have s2_5 : w2.cell? ⟨w1.heap.size, 1, none⟩ = some (.int .i64 m1) := cell_keep hb2 (by go_simp)
    have g2_0 : w.heap.size < w2.heap.size := World.block_lt_of_cell? _ _ s2_0
    have g2_2 : w.heap.size + 1 < w2.heap.size := World.block_lt_of_cell? _ _ s2_2
    have g2_4 : w1.heap.size < w2.heap.size := World.block_lt_of_cell? _ _ s2_4
    have hbw2 : Below w.heap.size w w2 := (HB1.out.alloc (by omega) _).trans (hb2.mono (by simp <;> omega))
    have HB2 := Lib.hid hbw2
    clear hb2 hbw2 s1_0 s1_1 s1_2 s1_3 g1_0 g1_2
    go_upto_region 4 with (go_at_call 27; refine Calls.mono (HH.out _) ?_; rintro e w3 ⟨rfl, hb3⟩)
    have s3_0 : w3.cell? ⟨w.heap.size, 0, none⟩ = some (.int .i64 a) := cell_keep hb3 (by go_simp)
    have s3_1 : w3.cell? ⟨w.heap.size, 1, none⟩ = some (.int .i64 b) := cell_keep hb3 (by go_simp)
    have s3_2 : w3.cell? ⟨w.heap.size + 1, 0, none⟩ = some (.int .i64 c) := cell_keep hb3 (by go_simp)
    have s3_3 : w3.cell? ⟨w.heap.size + 1, 1, none⟩ = some (.int .i64 d) := cell_keep hb3 (by go_simp)
    have s3_4 : w3.cell? ⟨w1.heap.size, 0, none⟩ = some (.int .i64 m0) := cell_keep hb3 (by go_simp)
    have s3_5 : w3.cell? ⟨w1.heap.size, 1, none⟩ = some (.int .i64 m1) := cell_keep hb3 (by go_simp)
    have s3_6 : w3.cell? ⟨w2.heap.size, 0, none⟩ = some (.int .i64 m0) := cell_keep hb3 (by go_simp)
    have s3_7 : w3.cell? ⟨w2.heap.size, 1, none⟩ = some (.int .i64 m1) := cell_keep hb3 (by go_simp)
    have g3_0 : w.heap.size < w3.heap.size := World.block_lt_of_cell? _ _ s3_0
    have g3_2 : w.heap.size + 1 < w3.heap.size := World.block_lt_of_cell? _ _ s3_2
    have g3_4 : w1.heap.size < w3.heap.size := World.block_lt_of_cell? _ _ s3_4
    have g3_6 : w2.heap.size < w3.heap.size := World.block_lt_of_cell? _ _ s3_6
    have hbw3 : Below w.heap.size w w3 := (HB2.out.alloc (by omega) _).trans (hb3.mono (by simp <;> omega))
    have HB3 := Lib.hid hbw3
    clear hb3 hbw3 s2_0 s2_1 s2_2 s2_3 s2_4 s2_5 g2_0 g2_2 g2_4
    go_upto_region 5 with (go_at_call 28; refine Calls.mono (HH'.out _) ?_; rintro e w4 ⟨rfl, hb4⟩)
    have s4_0 : w4.cell? ⟨w.heap.size, 0, none⟩ = some (.int .i64 a) := cell_keep hb4 (by go_simp)
    have s4_1 : w4.cell? ⟨w.heap.size, 1, none⟩ = some (.int .i64 b) := cell_keep hb4 (by go_simp)
    have s4_2 : w4.cell? ⟨w.heap.size + 1, 0, none⟩ = some (.int .i64 c) := cell_keep hb4 (by go_simp)
    have s4_3 : w4.cell? ⟨w.heap.size + 1, 1, none⟩ = some (.int .i64 d) := cell_keep hb4 (by go_simp)
    have s4_4 : w4.cell? ⟨w1.heap.size, 0, none⟩ = some (.int .i64 m0) := cell_keep hb4 (by go_simp)
    have s4_5 : w4.cell? ⟨w1.heap.size, 1, none⟩ = some (.int .i64 m1) := cell_keep hb4 (by go_simp)
    have s4_6 : w4.cell? ⟨w2.heap.size, 0, none⟩ = some (.int .i64 m0) := cell_keep hb4 (by go_simp)
    have s4_7 : w4.cell? ⟨w2.heap.size, 1, none⟩ = some (.int .i64 m1) := cell_keep hb4 (by go_simp)
    have s4_8 : w4.cell? ⟨w3.heap.size, 0, none⟩ = some (.int .i64 h0) := cell_keep hb4 (by go_simp)
    have s4_9 : w4.cell? ⟨w3.heap.size, 1, none⟩ = some (.int .i64 h1) := cell_keep hb4 (by go_simp)
    have g4_0 : w.heap.size < w4.heap.size := World.block_lt_of_cell? _ _ s4_0
    have g4_2 : w.heap.size + 1 < w4.heap.size := World.block_lt_of_cell? _ _ s4_2
    have g4_4 : w1.heap.size < w4.heap.size := World.block_lt_of_cell? _ _ s4_4
    have g4_6 : w2.heap.size < w4.heap.size := World.block_lt_of_cell? _ _ s4_6
    have g4_8 : w3.heap.size < w4.heap.size := World.block_lt_of_cell? _ _ s4_8
    have hbw4 : Below w.heap.size w w4 := (HB3.out.alloc (by omega) _).trans (hb4.mono (by simp <;> omega))
    have HB4 := Lib.hid hbw4
    clear hb4 hbw4 s3_0 s3_1 s3_2 s3_3 s3_4 s3_5 s3_6 s3_7 g3_0 g3_2 g3_4 g3_6
    have HMB := Lib.hid hmb
    have HHB := Lib.hid hhb
    clear hmb hhb
    go_upto_region 9 with fail
    generalize hW0 : w4.alloc (.cells #[.int .i64 h0, .int .i64 h1] 37) = W0
    have hB0 : Below w.heap.size w W0 := by rw [← hW0]; exact HB4.out.alloc (by omega) _
    have hk : Below w4.heap.size w4 W0 := by rw [← hW0]; exact (Below.refl _ _).alloc (Nat.le_refl _) _
    have k0 := cell_keep hk s4_0
    have k1 := cell_keep hk s4_1
    have k2 := cell_keep hk s4_2
    have k3 := cell_keep hk s4_3
    have k4 := cell_keep hk s4_4
    have k5 := cell_keep hk s4_5
    have k8 := cell_keep hk s4_8
    have k9 := cell_keep hk s4_9
    have HB0 := Lib.hid hB0
    clear hW0 hB0 hk s4_0 s4_1 s4_2 s4_3 s4_4 s4_5 s4_6 s4_7 s4_8 s4_9 HB1 HB2 HB3 HB4 HM HM' HH HH' g4_0 g4_2 g4_4 g4_6 g4_8
    go_cut [15, 16] (fun s15 s16 wx => s15 = .bool (decide (a ≤ x) && decide (x ≤ b)) ∧ s16 = .bool (decide (c ≤ x) && decide (x ≤ d)) ∧ Below W0.heap.size W0 wx)
    case first =>
      have HW' := HW
      clear HW HMB HHB HB0 k4 k5 k8 k9
      by_cases d1 : a ≤ x <;> by_cases d2 : x ≤ b <;> by_cases d3 : c ≤ x <;> by_cases d4 : x ≤ d
      all_goals
        have HD := Lib.hid (And.intro d1 (And.intro d2 (And.intro d3 d4)))
        go_quiet (fail)
        go_wp2_with fail
        go_meet
        obtain ⟨n1, n2, n3, n4⟩ := HD.out
        exact ⟨by simp [n1, n2], by simp [n3, n4], below_drewN (Below.refl _ _) _⟩
    case rest =>
      obtain ⟨rfl, rfl, hbc⟩ := hcut
      have q4 := cell_keep hbc k4
      have q5 := cell_keep hbc k5
      have q8 := cell_keep hbc k8
      have q9 := cell_keep hbc k9
      have HBC := Lib.hid (HB0.out.trans (hbc.mono HB0.out.size))
      have hmb := HMB.out
      have hhb : ((decide (a ≤ x) && decide (x ≤ b)) || (decide (c ≤ x) && decide (x ≤ d))) = true → h0 ≤ x ∧ x ≤ h1 := fun h => HHB.out (by simpa using h)
      clear k0 k1 k2 k3 k4 k5 k8 k9 hbc HMB HHB HB0
      generalize (decide (a ≤ x) && decide (x ≤ b)) = p at *
      generalize (decide (c ≤ x) && decide (x ≤ d)) = q at *
      cases p <;> cases q <;> by_cases e1 : me = 0 <;> by_cases e2 : m0 ≤ x <;> by_cases e3 : x ≤ m1
      all_goals first
        | (exfalso; simp [e1, e2, e3] at hmb; done)
        | (first | obtain ⟨e4, e5⟩ := hhb rfl | clear hhb
           clear hmb
           go_wp2_with (go_at_call 18; refine Calls.mono (HW.out _) ?_; rintro e w5 ⟨rfl, hb5⟩)
           go_ret
           exact ⟨rfl, HBC.out.trans (hb5.mono HBC.out.size)⟩)

end Go.Proofs.Ytjdahphnmeaolaa

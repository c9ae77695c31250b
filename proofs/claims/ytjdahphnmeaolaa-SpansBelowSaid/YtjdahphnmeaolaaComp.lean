/- Add and Times of both sides; floor and ceil of the reference. -/
import Derived.Test.YtjdahphnmeaolaaMeet
import Derived.Test.YtjdahphnmeaolaaInv
namespace Go.Proofs.Ytjdahphnmeaolaa
open Go.RowKit

theorem mul_bd3 {a c M N : Int} (h1 : -M ≤ a) (h2 : a ≤ M) (h3 : -N ≤ c) (h4 : c ≤ N) (hN : 0 ≤ N) : -(M * N) ≤ a * c ∧ a * c ≤ M * N := by
  by_cases h : 0 ≤ a
  · exact mul_bd h h2 h3 h4 hN
  · have := mul_bd (a := -a) (A := M) (by omega) (by omega) h3 h4 hN
    rw [Int.neg_mul] at this
    omega

theorem rfl_neg {a b : Int} (hb : 1 ≤ b) (h : a < 0) : -((-a + b - 1).tdiv b) = fl a b := by
  have h0 : 0 < b := by omega
  have e1 := Int.emod_nonneg a (b := b) (by omega)
  have e2 := Int.emod_lt_of_pos a h0
  have e3 := Int.emod_add_mul_ediv a b
  have hq : (-a + b - 1) / b = -(a / b) ∧ (-a + b - 1) % b = b - 1 - a % b := by
    refine (Int.ediv_emod_unique h0).2 ⟨?_, by omega, by omega⟩
    rw [Int.mul_neg]
    omega
  rw [Int.tdiv_eq_ediv_of_nonneg (by omega), hq.1]
  unfold fl
  omega

theorem rfloor_any (a b : Int) (w : World) (h1 : 1 ≤ b) (h2 : b ≤ 1000000000) (h3 : -1000000000000 ≤ a) (h4 : a ≤ 1000000000000) :
    Calls Try.prog 76 #[.int .i64 a, .int .i64 b] w fun e w' => e = .returned (.int .i64 (fl a b)) ∧ w = w' := by
  have hd := tdiv_bd (b := b) (a := a) (M := 1000000000000) h3 h4
  have hd2 := tdiv_bd (b := b) (a := -a + b - 1) (M := 2000000000000) (by omega) (by omega)
  by_cases h : 0 ≤ a
  · go_enter Try.func76, Try.ntmps76
    go_wp2
    go_ret
    exact ⟨ret_int (by unfold fl; exact Int.tdiv_eq_ediv_of_nonneg h), rfl⟩
  · go_enter Try.func76, Try.ntmps76
    go_wp2
    go_ret
    exact ⟨ret_int (rfl_neg h1 (by omega)), rfl⟩

theorem rceil_any (a b : Int) (w : World) (h1 : 1 ≤ b) (h2 : b ≤ 1000000000) (h3 : -1000000000000 ≤ a) (h4 : a ≤ 1000000000000) :
    Calls Try.prog 77 #[.int .i64 a, .int .i64 b] w fun e w' => e = .returned (.int .i64 (cl a b)) ∧ w = w' := by
  have hd := fl_bd (a := -a) h1 (M := 1000000000000) (by omega) (by omega)
  go_enter Try.func77, Try.ntmps77
  go_wp2_with (go_at_call 76; refine (rfloor_any _ _ _ h1 h2 (by omega) (by omega)).mono ?_; rintro e w' ⟨rfl, rfl⟩)
  go_ret
  exact ⟨rfl, rfl⟩

def madeS (a b : Int) : (Int × Int) × Int := if vI a b then ((a, b), 0) else ((0, 0), 2)

theorem made_any (a b : Int) (w : World) : Calls Try.prog 73 #[.agg #[.int .i64 a, .int .i64 b]] w fun e w' =>
    e = .returned (.tuple #[.agg #[.int .i64 (madeS a b).1.1, .int .i64 (madeS a b).1.2], .int .i64 (madeS a b).2]) ∧ Below w.heap.size w w' := by
  cases h1 : vI a b
  all_goals
    simp only [madeS, h1, if_true, if_false, Bool.false_eq_true]
    have H1 := Lib.hid h1
    clear h1
    go_enter Try.func73, Try.ntmps73
    go_wp2_with (go_at_call 57; refine Calls.mono (rvalid_any a b _) ?_; rintro e w1 ⟨rfl, hb1⟩; rw [H1.out]; have t0 : w1.cell? ⟨w.heap.size, 0, none⟩ = some (.int .i64 a) := cell_keep hb1 (by go_simp); have t1 : w1.cell? ⟨w.heap.size, 1, none⟩ = some (.int .i64 b) := cell_keep hb1 (by go_simp); have t4 : w1.cell? ⟨w.heap.size + 1, 0, none⟩ = some (.int .i64 0) := cell_keep hb1 (by go_simp); have t5 : w1.cell? ⟨w.heap.size + 1, 1, none⟩ = some (.int .i64 0) := cell_keep hb1 (by go_simp); have t6 : w1.frozen? ⟨w.heap.size + 1, 0, none⟩ = false := (hb1.frozen (p := ⟨w.heap.size + 1, 0, none⟩) (by simp <;> omega)).trans (by go_simp); have t7 : w1.frozen? ⟨w.heap.size + 1, 1, none⟩ = false := (hb1.frozen (p := ⟨w.heap.size + 1, 1, none⟩) (by simp <;> omega)).trans (by go_simp); have l2 : w.heap.size + 1 < w1.heap.size := World.block_lt_of_cell? _ _ t4; have hbw : Below w.heap.size w w1 := Below.trans (by go_grown) (hb1.mono (by simp <;> omega)); have HBW := Lib.hid hbw; clear hb1 hbw)
    have z1 : ∀ v, (w1.setCell ⟨w.heap.size + 1, 0, none⟩ v).cell? ⟨w.heap.size + 1, 0, none⟩ = some v := fun v => World.cell?_setCell_same' _ _ _ (by rw [t4]; rfl)
    have z2 : ∀ v u, ((w1.setCell ⟨w.heap.size + 1, 0, none⟩ v).setCell ⟨w.heap.size + 1, 1, none⟩ u).cell? ⟨w.heap.size + 1, 1, none⟩ = some u := fun v u => World.cell?_setCell_same' _ _ _ (by rw [World.cell?_setCell_other _ _ _ _ (by simp), t5]; rfl)
  · refine bodyPost_ret (v := .tuple #[.agg #[.int .i64 0, .int .i64 0], .int .i64 2]) (by simp [results, Try.results73, go_sem, z1, z2]) rfl ?_
    exact ⟨rfl, (HBW.out.setCell (by simp) _).setCell (by simp) _⟩
  · refine bodyPost_ret (v := .tuple #[.agg #[.int .i64 a, .int .i64 b], .int .i64 0]) (by simp [results, Try.results73, go_sem, z1, z2]) rfl ?_
    exact ⟨rfl, (HBW.out.setCell (by simp) _).setCell (by simp) _⟩

theorem bounded_any (a b : Int) (w : World) : Calls Try.prog 72 #[.agg #[.int .i64 a, .int .i64 b]] w fun e w' =>
    e = .returned (.tuple #[.agg #[.int .i64 (madeS a b).1.1, .int .i64 (madeS a b).1.2], .int .i64 (madeS a b).2]) ∧ Below w.heap.size w w' := by
  cases h1 : vI a b
  all_goals
    simp only [madeS, h1, if_true, if_false, Bool.false_eq_true]
    have h2 := h1
    rw [← vS_vI] at h2
    have h3 : [(a, b)].all vS = vS (a, b) := by simp
    rw [h2] at h3
    have H1 := Lib.hid h3
    clear h1 h2 h3
    go_enter Try.func72, Try.ntmps72
    go_wp2_with (go_at_call 65; refine Calls.mono (valid_any _ _ _ _ [(a, b)] _ rfl (le_maxLen (by simp)) ?c3 (RS.new1 (by simp))) ?_; (case c3 => simp); rintro e w1 ⟨rfl, hb1⟩; rw [H1.out]; have t0 : w1.cell? ⟨w.heap.size, 0, none⟩ = some (.int .i64 a) := cell_keep hb1 (by go_simp); have t1 : w1.cell? ⟨w.heap.size, 1, none⟩ = some (.int .i64 b) := cell_keep hb1 (by go_simp); have t4 : w1.cell? ⟨w.heap.size + 1, 0, none⟩ = some (.int .i64 0) := cell_keep hb1 (by go_simp); have t5 : w1.cell? ⟨w.heap.size + 1, 1, none⟩ = some (.int .i64 0) := cell_keep hb1 (by go_simp); have t6 : w1.frozen? ⟨w.heap.size + 1, 0, none⟩ = false := (hb1.frozen (p := ⟨w.heap.size + 1, 0, none⟩) (by simp <;> omega)).trans (by go_simp); have t7 : w1.frozen? ⟨w.heap.size + 1, 1, none⟩ = false := (hb1.frozen (p := ⟨w.heap.size + 1, 1, none⟩) (by simp <;> omega)).trans (by go_simp); have l2 : w.heap.size + 1 < w1.heap.size := World.block_lt_of_cell? _ _ t4; have hbw : Below w.heap.size w w1 := Below.trans (by go_grown) (hb1.mono (by simp <;> omega)); have HBW := Lib.hid hbw; clear hb1 hbw)
    have z1 : ∀ v, (w1.setCell ⟨w.heap.size + 1, 0, none⟩ v).cell? ⟨w.heap.size + 1, 0, none⟩ = some v := fun v => World.cell?_setCell_same' _ _ _ (by rw [t4]; rfl)
    have z2 : ∀ v u, ((w1.setCell ⟨w.heap.size + 1, 0, none⟩ v).setCell ⟨w.heap.size + 1, 1, none⟩ u).cell? ⟨w.heap.size + 1, 1, none⟩ = some u := fun v u => World.cell?_setCell_same' _ _ _ (by rw [World.cell?_setCell_other _ _ _ _ (by simp), t5]; rfl)
  · refine bodyPost_ret (v := .tuple #[.agg #[.int .i64 0, .int .i64 0], .int .i64 2]) (by simp [results, Try.results72, go_sem, z1, z2]) rfl ?_
    exact ⟨rfl, (HBW.out.setCell (by simp) _).setCell (by simp) _⟩
  · refine bodyPost_ret (v := .tuple #[.agg #[.int .i64 a, .int .i64 b], .int .i64 0]) (by simp [results, Try.results72, go_sem, z1, z2]) rfl ?_
    exact ⟨rfl, (HBW.out.setCell (by simp) _).setCell (by simp) _⟩

end Go.Proofs.Ytjdahphnmeaolaa

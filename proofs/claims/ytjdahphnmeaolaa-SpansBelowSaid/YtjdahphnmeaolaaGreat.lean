/- spans.notAbove, under. -/
import Derived.Test.YtjdahphnmeaolaaBound
namespace Go.Proofs.Ytjdahphnmeaolaa
open Go.RowKit

def naS (size p q : Int) : Int × Int :=
  if p < q then (0, min size (fl (-size * p) (q - p))) else if q < p then (max 0 (cl (size * p) (p - q)), size) else if p ≤ 0 then (0, size) else (1, 0)

theorem mul_bd2 {a p A M : Int} (h0 : 0 ≤ a) (hA : a ≤ A) (h1 : -M ≤ p) (h2 : p ≤ M) (hM : 0 ≤ M) : -(A * M) ≤ a * p ∧ a * p ≤ A * M ∧ -(A * M) ≤ -a * p ∧ -a * p ≤ A * M := by
  have := mul_bd h0 hA h1 h2 hM
  have e : -a * p = -(a * p) := by grind
  omega

theorem notAbove_any (size p q : Int) (w : World) (hs0 : 0 ≤ size) (hs1 : size ≤ 10000) (hp1 : -100000000000 ≤ p) (hp2 : p ≤ 100000000000) (hq1 : -100000000000 ≤ q) (hq2 : q ≤ 100000000000) :
    Calls Try.prog 113 #[.int .i64 size, .int .i64 p, .int .i64 q] w fun e w' => e = .returned (.agg #[.int .i64 (naS size p q).1, .int .i64 (naS size p q).2]) ∧ Below w.heap.size w w' := by
  obtain ⟨m1, m2, m3, m4⟩ := mul_bd2 hs0 hs1 hp1 hp2 (by omega)
  by_cases h1 : p < q
  · have e0 : naS size p q = (0, min size (fl (-size * p) (q - p))) := by unfold naS; rw [if_pos h1]
    rw [e0]
    clear e0
    go_enter Try.func113, Try.ntmps113
    go_wp2_with (first
      | (go_at_call 74; refine Calls.mono (floor_any (-size * p) (q - p) _ (by omega) (by omega) (by omega) (by omega)) ?_; rintro e w' ⟨rfl, rfl⟩)
      | (go_at_call 71; refine Calls.mono (span_any _ _ _) ?_; rintro e w1 ⟨rfl, hb1⟩; obtain ⟨hc1, hf1⟩ := bcell hb1; have hz1 := hb1.size; simp [Nat.add_one_le_iff] at hz1))
    have z1 := fun v => World.cell?_setCell_same' w1 ⟨w.heap.size, 0, none⟩ v (by rw [hc1 _ _ (by simp)]; rw [cell_newest]; rfl)
    have z2 := fun v u => World.cell?_setCell_same' (w1.setCell ⟨w.heap.size, 0, none⟩ v) ⟨w.heap.size, 1, none⟩ u (by rw [World.cell?_setCell_other _ _ _ _ (by simp), hc1 _ _ (by simp)]; rw [cell_newest]; rfl)
    refine bodyPost_ret (v := .agg #[.int .i64 0, .int .i64 (min size (fl (-size * p) (q - p)))]) (by simp [results, Try.results113, go_sem, z1, z2]) rfl ?_
    exact ⟨rfl, ((Below.trans (by go_grown) (hb1.mono (by simp))).setCell (by simp) _).setCell (by simp) _⟩
  by_cases h2 : q < p
  · have e0 : naS size p q = (max 0 (cl (size * p) (p - q)), size) := by unfold naS; rw [if_neg h1, if_pos h2]
    rw [e0]
    clear e0
    go_enter Try.func113, Try.ntmps113
    go_wp2_with (first
      | (go_at_call 75; refine Calls.mono (ceil_any (size * p) (p - q) _ (by omega) (by omega) (by omega) (by omega)) ?_; rintro e w' ⟨rfl, rfl⟩)
      | (go_at_call 71; refine Calls.mono (span_any _ _ _) ?_; rintro e w1 ⟨rfl, hb1⟩; obtain ⟨hc1, hf1⟩ := bcell hb1; have hz1 := hb1.size; simp [Nat.add_one_le_iff] at hz1))
    have z1 := fun v => World.cell?_setCell_same' w1 ⟨w.heap.size, 0, none⟩ v (by rw [hc1 _ _ (by simp)]; rw [cell_newest]; rfl)
    have z2 := fun v u => World.cell?_setCell_same' (w1.setCell ⟨w.heap.size, 0, none⟩ v) ⟨w.heap.size, 1, none⟩ u (by rw [World.cell?_setCell_other _ _ _ _ (by simp), hc1 _ _ (by simp)]; rw [cell_newest]; rfl)
    refine bodyPost_ret (v := .agg #[.int .i64 (max 0 (cl (size * p) (p - q))), .int .i64 (size)]) (by simp [results, Try.results113, go_sem, z1, z2]) rfl ?_
    exact ⟨rfl, ((Below.trans (by go_grown) (hb1.mono (by simp))).setCell (by simp) _).setCell (by simp) _⟩
  by_cases h3 : p ≤ 0
  · have e0 : naS size p q = (0, size) := by unfold naS; rw [if_neg h1, if_neg h2, if_pos h3]
    rw [e0]
    clear e0
    go_enter Try.func113, Try.ntmps113
    go_wp2_with (first
      | (go_at_call 71; refine Calls.mono (span_any _ _ _) ?_; rintro e w1 ⟨rfl, hb1⟩; obtain ⟨hc1, hf1⟩ := bcell hb1; have hz1 := hb1.size; simp [Nat.add_one_le_iff] at hz1))
    have z1 := fun v => World.cell?_setCell_same' w1 ⟨w.heap.size, 0, none⟩ v (by rw [hc1 _ _ (by simp)]; rw [cell_newest]; rfl)
    have z2 := fun v u => World.cell?_setCell_same' (w1.setCell ⟨w.heap.size, 0, none⟩ v) ⟨w.heap.size, 1, none⟩ u (by rw [World.cell?_setCell_other _ _ _ _ (by simp), hc1 _ _ (by simp)]; rw [cell_newest]; rfl)
    refine bodyPost_ret (v := .agg #[.int .i64 (0), .int .i64 (size)]) (by simp [results, Try.results113, go_sem, z1, z2]) rfl ?_
    exact ⟨rfl, ((Below.trans (by go_grown) (hb1.mono (by simp))).setCell (by simp) _).setCell (by simp) _⟩
  · have e0 : naS size p q = (1, 0) := by unfold naS; rw [if_neg h1, if_neg h2, if_neg h3]
    rw [e0]
    clear e0
    go_enter Try.func113, Try.ntmps113
    go_wp2_with (first
      | (go_at_call 71; refine Calls.mono (span_any _ _ _) ?_; rintro e w1 ⟨rfl, hb1⟩; obtain ⟨hc1, hf1⟩ := bcell hb1; have hz1 := hb1.size; simp [Nat.add_one_le_iff] at hz1))
    have z1 := fun v => World.cell?_setCell_same' w1 ⟨w.heap.size, 0, none⟩ v (by rw [hc1 _ _ (by simp)]; rw [cell_newest]; rfl)
    have z2 := fun v u => World.cell?_setCell_same' (w1.setCell ⟨w.heap.size, 0, none⟩ v) ⟨w.heap.size, 1, none⟩ u (by rw [World.cell?_setCell_other _ _ _ _ (by simp), hc1 _ _ (by simp)]; rw [cell_newest]; rfl)
    refine bodyPost_ret (v := .agg #[.int .i64 (1), .int .i64 (0)]) (by simp [results, Try.results113, go_sem, z1, z2]) rfl ?_
    exact ⟨rfl, ((Below.trans (by go_grown) (hb1.mono (by simp))).setCell (by simp) _).setCell (by simp) _⟩

end Go.Proofs.Ytjdahphnmeaolaa

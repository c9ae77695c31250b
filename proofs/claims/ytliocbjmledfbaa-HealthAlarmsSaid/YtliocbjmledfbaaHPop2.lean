/- The numbers of a set: plain mathematics. -/
import Derived.Test.YtliocbjmledfbaaHPop
import Derived.Lib.BitFns
namespace Go.Proofs.Ytliocbjmledfbaa

def bl (s n : Nat) : List Int := ((List.range n).filter fun i => s.testBit i).map Int.ofNat
def bitsL (s : Nat) : List Int := bl s 12
theorem bl_all' : ∀ i, i < 64 → ∀ j, j < 64 → Lib.bitLen (i * 64 + j) ≤ 12 ∧ (List.range (Lib.bitLen (i * 64 + j))).filter (fun k => (i * 64 + j).testBit k) = (List.range 12).filter (fun k => (i * 64 + j).testBit k) := by decide +kernel
theorem bl_all {s : Nat} (h : s < 4096) : Lib.bitLen s ≤ 12 ∧ bl s (Lib.bitLen s) = bitsL s := by
  have := bl_all' (s / 64) (by omega) (s % 64) (by omega)
  rw [show s / 64 * 64 + s % 64 = s by omega] at this
  exact ⟨this.1, by unfold bitsL bl; rw [this.2]⟩
theorem bl_yes {s n : Nat} (h : s.testBit n = true) : bl s (n + 1) = bl s n ++ [(n : Int)] := by
  unfold bl
  rw [List.range_succ, List.filter_append]
  simp [h]
theorem bl_no {s n : Nat} (h : s.testBit n = false) : bl s (n + 1) = bl s n := by
  unfold bl
  rw [List.range_succ, List.filter_append]
  simp [h]
theorem bl_len (s n : Nat) : (bl s n).length ≤ n := by
  unfold bl
  rw [List.length_map]
  exact Nat.le_trans (List.length_filter_le _ _) (by simp)
theorem pc_len (s : Nat) : pc s = (bitsL s).length := by unfold pc bitsL bl; simp
end Go.Proofs.Ytliocbjmledfbaa

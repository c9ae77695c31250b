/- The numbers of a set. -/
import Derived.Test.YtliocbjmledfbaaHOwn
import Derived.Test.YtliocbjmledfbaaHBits
import Derived.Test.YtliocbjmledfbaaHPop2
import Derived.Test.YtliocbjmledfbaaHShelf1
namespace Go.Proofs.Ytliocbjmledfbaa
open Go.RowKit

theorem len_any (x : Nat) (w : World) (h : x < 4096) : Calls Try.prog 96 #[.int .u64 x] w fun e w' => e = .returned (.int .i64 (Lib.bitLen x)) ∧ w = w' := by
  refine (Any.bits_Len bitsLen x w (by omega) (by omega)).mono fun e w' ⟨he, hw⟩ => ⟨he.trans ?_, hw.symm⟩
  simp

theorem list_any (s : Nat) (w : World) (h : s < 4096) : Calls Try.prog 82 #[.int .u64 s] w (GivesInts w (bitsL s)) := by
  obtain ⟨b1, b2⟩ := bl_all h
  have HL := Lib.hid (fun W => len_any s W h)
  have HB := Lib.hid b2
  clear b2
  generalize Lib.bitLen s = m at *
  have HH := Lib.hid (fun n W (hn : n < 12) => has_any s n W h hn)
  go_enter Try.func82, Try.ntmps82
  go_wp2_with (go_at_call 96; refine Calls.mono (HL.out _) ?_; rintro e w' ⟨rfl, rfl⟩)
  go_loopw [3, 7] (fun v i wr => ∃ k : Nat, k ≤ m ∧ i = .int .i64 k ∧ OI w.heap.size v (bl s k) wr ∧ Below w.heap.size w wr) (fun _ i _ => m - (intOf i).toNat)
  case atStart => exact ⟨0, Nat.zero_le _, rfl, by simpa [bl] using (OI.nil : OI w.heap.size (.slice none 0 0) [] w), Below.refl _ _⟩
  case round =>
    obtain ⟨k, hk, rfl, hown, hbw⟩ := hrel
    have hsz := hbw.size
    have hl := bl_len s k
    by_cases hlt : k < m
    · have HK := Lib.hid (fun W => HH.out k W (by omega))
      cases ht : s.testBit k with
      | true =>
        rw [ht] at HK
        have HS := Lib.hid (bl_yes ht)
        clear ht
        go_wp2_with (first
          | (go_at_call 86; refine Calls.mono (HK.out _) ?_; rintro e w' ⟨rfl, rfl⟩)
          | (at_builtin; refine wpList_push rfl _ _ rfl w.heap.size _ _ rfl (World.ownsRow.alloc hown _) wr.heap.size k rfl (by rw [cell_newest]; rfl) (by omega) (by simp; omega) ?_))
        intro v' w1 hown' hgrow
        have hb2 := OI.below (World.ownsRow.alloc hown _) hgrow (hbw.alloc hsz _) (by simp; omega) (Nat.le_refl _)
        rw [← HS.out] at hown'
        have HO := Lib.hid hown'
        have HB2 := Lib.hid hb2
        clear hown' hgrow hown hbw hb2
        go_wp2
        go_roundw
        case rel => exact ⟨k + 1, by omega, by go_num, HO.out, HB2.out⟩
        case measure => simp [intOf]; omega
      | false =>
        rw [ht] at HK
        have HS := Lib.hid (bl_no ht)
        have HO := Lib.hid hown
        have HB2 := Lib.hid hbw
        clear ht hown hbw
        go_wp2_with (go_at_call 86; refine Calls.mono (HK.out _) ?_; rintro e w' ⟨rfl, rfl⟩)
        go_roundw
        case rel => exact ⟨k + 1, by omega, by go_num, by rw [HS.out]; exact HO.out, HB2.out⟩
        case measure => simp [intOf]; omega
    · obtain rfl : k = m := by omega
      rw [HB.out] at hown
      obtain ⟨A, c, rfl, hc, hri⟩ := hown.ri
      have HRI := Lib.hid hri
      have HB2 := Lib.hid hbw
      clear hri hbw hown
      go_wp2
      go_ret
      exact ⟨A, c, rfl, hc, HRI.out, HB2.out⟩

end Go.Proofs.Ytliocbjmledfbaa

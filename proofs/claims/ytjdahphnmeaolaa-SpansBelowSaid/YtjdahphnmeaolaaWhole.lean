/- whole.Floor, Ceil, Within. -/
import Derived.Test.YtjdahphnmeaolaaBase
import Derived.Test.YtjdahphnmeaolaaPure
namespace Go.Proofs.Ytjdahphnmeaolaa
open Go.RowKit

theorem floor_any (a b : Int) (w : World) (h1 : 1 ≤ b) (h2 : b ≤ 1000000000000000000) (h3 : -1000000000000000000 ≤ a) (h4 : a ≤ 1000000000000000000) :
    Calls Try.prog 74 #[.int .i64 a, .int .i64 b] w fun e w' => e = .returned (.int .i64 (fl a b)) ∧ w = w' := by
  have hd := tdiv_bd (b := b) h3 h4
  go_enter Try.func74, Try.ntmps74
  go_wp2
  all_goals go_ret
  · exact ⟨ret_int (fl_tdiv_neg h1 (by assumption)), rfl⟩
  · exact ⟨ret_int (fl_tdiv_pos h1 (by assumption)), rfl⟩

theorem ceil_any (a b : Int) (w : World) (h1 : 1 ≤ b) (h2 : b ≤ 1000000000000000000) (h3 : -1000000000000000000 ≤ a) (h4 : a ≤ 1000000000000000000) :
    Calls Try.prog 75 #[.int .i64 a, .int .i64 b] w fun e w' => e = .returned (.int .i64 (cl a b)) ∧ w = w' := by
  have hd := fl_bd (a := -a) h1 (M := 1000000000000000000) (by omega) (by omega)
  go_enter Try.func75, Try.ntmps75
  go_wp2_with (go_at_call 74; refine (floor_any _ _ _ h1 h2 (by omega) (by omega)).mono ?_; rintro e w' ⟨rfl, rfl⟩)
  go_ret
  exact ⟨rfl, rfl⟩

theorem within_any (lo hi : Int) (A : Option Addr) (n c B : Nat) (xs : List Int) (w : World) (hx : xs.length = n) (hn : n ≤ maxLen) (h : RI w B A xs) :
    Calls Try.prog 67 #[.int .i64 lo, .int .i64 hi, .slice A n c] w fun e w' => e = .returned (.bool (wB lo hi xs)) ∧ w = w' := by
  subst hx
  unfold maxLen at hn
  go_enter Try.func67, Try.ntmps67
  go_wp2
  go_loop [11] (fun i => ∃ k : Nat, k ≤ xs.length ∧ i = .int .i64 k ∧ wB lo hi (xs.take k) = true) (fun i => xs.length - (intOf i).toNat)
  case atStart => exact ⟨0, Nat.zero_le _, rfl, by simp [wB]⟩
  case round =>
    obtain ⟨k, hk, rfl, hw⟩ := hrel
    by_cases hlt : k < xs.length
    · obtain ⟨b, off, x, rfl, hb, hx, hc⟩ := h.at_ hlt
      have HX := Lib.hid hx
      clear hx
      by_cases h1 : x < lo
      · go_wp2
        go_ret
        exact ⟨ret_bool (wB_bad HX.out (.inl h1)).symm, rfl⟩
      by_cases h2 : hi < x
      · go_wp2
        go_ret
        exact ⟨ret_bool (wB_bad HX.out (.inr h2)).symm, rfl⟩
      · go_wp2
        go_round
        case rel => exact ⟨k + 1, by omega, by go_num, by rw [wB_step HX.out, hw]; simp; omega⟩
        case measure => simp [intOf]; omega
    · go_wp2
      go_ret
      exact ⟨ret_bool (by rw [← hw, List.take_of_length_le (by omega)]), rfl⟩

end Go.Proofs.Ytjdahphnmeaolaa

/- Sets, bit by bit. -/
import Derived.Test.YtliocbjmledfbaaHPop
import Derived.Laws.Bits64b
namespace Go.Proofs.Ytliocbjmledfbaa
open Go.RowKit

theorem bits_nonneg (op : BinOp) (x y : Int) : 0 ≤ bits op .u64 x y := by
  unfold bits
  exact wrap_u64_nonneg _

theorem ones64_any (x : Nat) (w : World) (h : x < 4096) : Calls Try.prog 127 #[.int .u64 x] w fun e w' => e = .returned (.int .i64 (pc x)) ∧ w = w' := by
  have HO := Lib.hid (on_all x h)
  unfold on1 at HO
  go_enter Try.func127, Try.ntmps127
  go_upto_region 2 with fail
  have p1 : 0 ≤ IntKind.u64.wrap (bits BinOp.and IntKind.u64 (↑x / 2) 6148914691236517205 + bits BinOp.and IntKind.u64 (↑x) 6148914691236517205) := wrap_u64_nonneg _
  generalize IntKind.u64.wrap (bits BinOp.and IntKind.u64 (↑x / 2) 6148914691236517205 + bits BinOp.and IntKind.u64 (↑x) 6148914691236517205) = x1 at *
  unfold on2 at HO
  go_upto_region 3 with fail
  have p2 : 0 ≤ IntKind.u64.wrap (bits .and .u64 (x1 / 4) 3689348814741910323 + bits .and .u64 x1 3689348814741910323) := wrap_u64_nonneg _
  generalize IntKind.u64.wrap (bits .and .u64 (x1 / 4) 3689348814741910323 + bits .and .u64 x1 3689348814741910323) = x2 at *
  unfold on3 at HO
  go_upto_region 4 with fail
  have p3 : 0 ≤ bits .and .u64 (IntKind.u64.wrap (x2 / 16 + x2)) 1085102592571150095 := bits_nonneg _ _ _
  generalize bits .and .u64 (IntKind.u64.wrap (x2 / 16 + x2)) 1085102592571150095 = x3 at *
  unfold on4 at HO
  go_upto_region 5 with fail
  have p4 : 0 ≤ IntKind.u64.wrap (x3 + x3 / 256) := wrap_u64_nonneg _
  generalize IntKind.u64.wrap (x3 + x3 / 256) = x4 at *
  unfold on5 at HO
  go_upto_region 6 with fail
  have p5 : 0 ≤ IntKind.u64.wrap (x4 + x4 / 65536) := wrap_u64_nonneg _
  generalize IntKind.u64.wrap (x4 + x4 / 65536) = x5 at *
  unfold on6 at HO
  go_upto_region 7 with fail
  have p6 : 0 ≤ IntKind.u64.wrap (x5 + x5 / 4294967296) := wrap_u64_nonneg _
  generalize IntKind.u64.wrap (x5 + x5 / 4294967296) = x6 at *
  unfold on7 at HO
  go_wp2
  go_ret
  exact ⟨ret_int (by rw [← HO.out]), rfl⟩

theorem ones_any (x : Nat) (w : World) (h : x < 4096) : Calls Try.prog 112 #[.int .u64 x] w fun e w' => e = .returned (.int .i64 (pc x)) ∧ w = w' := by
  have HO := Lib.hid (fun W => ones64_any x W h)
  go_enter Try.func112, Try.ntmps112
  go_wp2_with (go_at_call 127; refine Calls.mono (HO.out _) ?_; rintro e w' ⟨rfl, rfl⟩)
  go_ret
  exact ⟨rfl, rfl⟩
theorem ssize_any (x : Nat) (w : World) (h : x < 4096) : Calls Try.prog 99 #[.int .u64 x] w fun e w' => e = .returned (.int .i64 (pc x)) ∧ w = w' := by
  have HO := Lib.hid (fun W => ones_any x W h)
  go_enter Try.func99, Try.ntmps99
  go_wp2_with (go_at_call 112; refine Calls.mono (HO.out _) ?_; rintro e w' ⟨rfl, rfl⟩)
  go_ret
  exact ⟨rfl, rfl⟩

theorem bit_and1 (m : Nat) (h : m < 4096) : (bits .and .u64 (m : Int) 1 == 1) = decide (m % 2 = 1) := by
  have e : bits .and .u64 (m : Int) 1 = ((m &&& 1 : Nat) : Int) := bits_and_u64_nat m 1 (by omega) (by omega)
  rw [e, Nat.and_one_is_mod]
  rcases Nat.mod_two_eq_zero_or_one m with h | h <;> simp [h]
theorem has_any (s n : Nat) (w : World) (h : s < 4096) (hn : n < 12) : Calls Try.prog 86 #[.int .u64 s, .int .i64 n] w fun e w' => e = .returned (.bool (s.testBit n)) ∧ w = w' := by
  go_enter Try.func86, Try.ntmps86
  go_wp2
  go_ret
  refine ⟨ret_bool ?_, rfl⟩
  have e : ((s : Int) / 2 ^ n) = ((s / 2 ^ n : Nat) : Int) := by simp
  show (bits .and .u64 ((s : Int) / 2 ^ n) 1 == 1) = _
  rw [e, bit_and1 _ (Nat.lt_of_le_of_lt (Nat.div_le_self _ _) h)]
  rw [Nat.testBit_eq_decide_div_mod_eq]

theorem esize_any (a b : Nat) (w : World) (ha : a < 4096) (hb : b < 4096) : Calls Try.prog 93 #[.agg #[.int .u64 a, .int .u64 b]] w fun e w' => e = .returned (.int .i64 (pc a + pc b)) ∧ Below w.heap.size w w' := by
  have HA := Lib.hid (fun W => ssize_any a W ha)
  have HB := Lib.hid (fun W => ssize_any b W hb)
  have ca : pc a ≤ 12 := Nat.le_trans (List.length_filter_le _ _) (by simp)
  have cb : pc b ≤ 12 := Nat.le_trans (List.length_filter_le _ _) (by simp)
  have i1 : IntKind.i64.wrap ((pc a : Int) + pc b) = (pc a : Int) + pc b := IntWalk.i64_in _ (by omega)
  go_enter Try.func93, Try.ntmps93
  go_wp2
  go_quiet (first
    | (go_at_call_of 99 (Value.int .u64 a); exact quiet_left (HA.out _))
    | (go_at_call 99; exact quiet_left (HB.out _)))
  go_wp2
  go_ret
  exact ⟨rfl, by first | exact below_drewN ((Below.refl _ _).alloc (Nat.le_refl _) _) _ | go_grown⟩
end Go.Proofs.Ytliocbjmledfbaa

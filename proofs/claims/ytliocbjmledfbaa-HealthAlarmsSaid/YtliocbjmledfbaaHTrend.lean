/- cmp.Compare at integers; rises, trend, Trend. -/
import Derived.Test.YtliocbjmledfbaaHWhole
namespace Go.Proofs.Ytliocbjmledfbaa
open Go.RowKit

theorem RI.take {w : World} {B : Nat} {A : Option Addr} {xs : List Int} (h : RI w B A xs) (k : Nat) : RI w B A (xs.take k) := fun hp => by
  obtain ⟨b, off, e, hb, hc⟩ := h (by simp at hp ⊢; omega)
  refine ⟨b, off, e, hb, fun j u hu => hc j u ?_⟩
  rw [List.map_take, List.getElem?_take] at hu
  split at hu
  · exact hu
  · cases hu

theorem isnan_any (a : Int) (w : World) : Calls Try.prog 97 #[.int .i64 a] w fun e w' => e = .returned (.bool false) ∧ w = w' := by
  have h : ((a : Int) != a) = false := by simp
  go_enter Try.func97, Try.ntmps97
  go_wp2
  go_ret
  exact ⟨ret_bool (by simp), rfl⟩

theorem compare_any (a b : Int) (w : World) : Calls Try.prog 90 #[.int .i64 a, .int .i64 b] w fun e w' => e = .returned (.int .i64 (cmpI a b)) ∧ w = w' := by
  have HN := Lib.hid isnan_any
  rcases Int.lt_trichotomy a b with h | h | h
  · have e : cmpI a b = -1 := by unfold cmpI; simp [h]
    rw [e]
    go_enter Try.func90, Try.ntmps90
    go_wp2_with (go_at_call 97; refine Calls.mono (HN.out _ _) ?_; rintro e w' ⟨rfl, rfl⟩)
    go_ret
    exact ⟨rfl, rfl⟩
  · have e : cmpI a b = 0 := by unfold cmpI; simp [h]
    rw [e]
    subst h
    go_enter Try.func90, Try.ntmps90
    go_wp2_with (go_at_call 97; refine Calls.mono (HN.out _ _) ?_; rintro e w' ⟨rfl, rfl⟩)
    go_ret
    exact ⟨rfl, rfl⟩
  · have e : cmpI a b = 1 := by unfold cmpI; rw [if_neg (by omega), if_neg (by omega)]
    rw [e]
    go_enter Try.func90, Try.ntmps90
    go_wp2_with (go_at_call 97; refine Calls.mono (HN.out _ _) ?_; rintro e w' ⟨rfl, rfl⟩)
    go_ret
    exact ⟨rfl, rfl⟩

theorem rises_any (A : Option Addr) (n c B : Nat) (xs : List Int) (v : Int) (w : World) (hx : xs.length = n) (hn : n ≤ 1000) (h : RI w B A xs) :
    Calls Try.prog 88 #[.slice A n c, .int .i64 v] w fun e w' => e = .returned (.int .i64 (risN xs v)) ∧ w = w' := by
  subst hx
  have HC := Lib.hid compare_any
  go_enter Try.func88, Try.ntmps88
  go_wp2
  go_loop [5, 10] (fun s i => ∃ k : Nat, k ≤ xs.length ∧ i = .int .i64 k ∧ s = .int .i64 (risN (xs.take k) v)) (fun _ i => xs.length - (intOf i).toNat)
  case atStart => exact ⟨0, Nat.zero_le _, rfl, by simp [risN]⟩
  case round =>
    obtain ⟨k, hk, rfl, rfl⟩ := hrel
    have hbd := risN_bd (xs.take k) v
    have hl : (xs.take k).length ≤ k := List.length_take_le _ _
    obtain ⟨b1, b2⟩ := hbd
    by_cases hlt : k < xs.length
    · obtain ⟨b, off, x, rfl, hb, hx, hc⟩ := h.at_ hlt
      have HX := Lib.hid (risN_step (v := v) hx)
      have hcm := cmpI_bd v x
      clear hx
      generalize risN (xs.take k) v = r at *
      go_wp2_with (go_at_call 90; refine Calls.mono (HC.out _ _ _) ?_; rintro e w' ⟨rfl, rfl⟩)
      go_round
      case rel => exact ⟨k + 1, by omega, by go_num, by rw [HX.out]⟩
      case measure => simp [intOf]; omega
    · go_wp2
      go_ret
      exact ⟨ret_int (by rw [List.take_of_length_le (by omega)]), rfl⟩

theorem trend_any (A : Option Addr) (n c B : Nat) (xs : List Int) (w : World) (hx : xs.length = n) (hn : n ≤ 1000) (hc : n ≤ c) (h : RI w B A xs) :
    Calls Try.prog 65 #[.slice A n c] w fun e w' => e = .returned (.int .i64 (trL xs)) ∧ w = w' := by
  subst hx
  have HR := Lib.hid (fun (A' : Option Addr) (n' c' : Nat) (ys : List Int) (v : Int) (W : World) => rises_any A' n' c' B ys v W)
  go_enter Try.func65, Try.ntmps65
  go_wp2
  go_loop [3, 8] (fun s i => ∃ k : Nat, k ≤ xs.length ∧ i = .int .i64 k ∧ s = .int .i64 (trN xs k)) (fun _ i => xs.length - (intOf i).toNat)
  case atStart => exact ⟨0, Nat.zero_le _, rfl, rfl⟩
  case round =>
    obtain ⟨k, hk, rfl, rfl⟩ := hrel
    have hbd := trN_bd xs k hk
    have hkk : (k * k : Int) ≤ 1000 * 1000 := Int.mul_le_mul (by omega) (by omega) (by omega) (by omega)
    obtain ⟨b1, b2⟩ := hbd
    have b3 : -1000000 ≤ trN xs k := by omega
    have b4 : trN xs k ≤ 1000000 := by omega
    clear b1 b2 hkk
    by_cases hlt : k < xs.length
    · obtain ⟨b, off, x, rfl, hb, hx, hcell⟩ := h.at_ hlt
      have hl : (xs.take k).length = k := by rw [List.length_take]; omega
      have hrb := risN_bd (xs.take k) x
      rw [hl] at hrb
      obtain ⟨r1, r2⟩ := hrb
      have HX := Lib.hid (show trN xs (k + 1) = trN xs k + risN (xs.take k) x by simp [trN, hx])
      have HC := Lib.hid (HR.out (some ⟨b, off, none⟩) k c (xs.take k) x w hl (by omega) (h.take k))
      clear hx hl h
      generalize trN xs k = r at *
      go_wp2_with (go_at_call 88; refine Calls.mono HC.out ?_; rintro e w' ⟨rfl, rfl⟩)
      go_round
      case rel => exact ⟨k + 1, by omega, by go_num, by rw [HX.out]⟩
      case measure => simp [intOf]; omega
    · go_wp2
      go_ret
      exact ⟨ret_int (by unfold trL; congr 1; omega), rfl⟩

theorem areLevels_any (A : Option Addr) (n c B : Nat) (xs : List Int) (w : World) (hx : xs.length = n) (hn : n ≤ maxLen) (h : RI w B A xs) :
    Calls Try.prog 71 #[.slice A n c] w fun e w' => e = .returned (.bool (wB (-1000000) 1000000 xs)) ∧ w = w' := by
  go_enter Try.func71, Try.ntmps71
  go_wp2_with (go_at_call 54; refine (within_any (-1000000) 1000000 A n c B xs _ hx hn h).mono ?_; rintro e w' ⟨rfl, rfl⟩)
  go_ret
  exact ⟨rfl, rfl⟩

/-- Values of a trend. -/
def valB (xs : List Int) : Bool := decide (1 ≤ xs.length ∧ xs.length ≤ 8) && wB (-1000000) 1000000 xs
theorem wB_len (lo hi x : Int) : wB lo hi [x] = decide (lo ≤ x ∧ x ≤ hi) := by simp [wB]

theorem areValues_any (A : Option Addr) (n c B : Nat) (xs : List Int) (w : World) (hx : xs.length = n) (hn : n ≤ maxLen) (hB : B ≤ w.heap.size) (h : RI w B A xs) :
    Calls Try.prog 64 #[.slice A n c] w fun e w' => e = .returned (.bool (valB xs)) ∧ Below w.heap.size w w' := by
  subst hx
  by_cases h1 : 1 ≤ xs.length ∧ xs.length ≤ 8
  · have H1 := Lib.hid (show wB 1 8 [(xs.length : Int)] = true by rw [wB_len]; simp; omega)
    have HL := Lib.hid (fun W (hW : RI W B A xs) => areLevels_any A _ c B xs W rfl hn hW)
    have e : valB xs = wB (-1000000) 1000000 xs := by unfold valB; simp [h1]
    rw [e]
    clear e
    have hl := h1.2
    clear h1
    go_enter Try.func64, Try.ntmps64
    go_wp2_with (first
      | (go_at_call 54; refine (within_any 1 8 _ 1 _ _ [(xs.length : Int)] _ rfl (le_maxLen (by omega)) (RI.new1 (by simp))).mono ?_; rintro e w' ⟨rfl, rfl⟩; rw [H1.out])
      | (go_at_call 71; refine (HL.out _ (h.below ((Below.refl _ _).alloc hB _))).mono ?_; rintro e w' ⟨rfl, rfl⟩))
    go_ret
    exact ⟨rfl, by go_grown⟩
  · have H1 := Lib.hid (show wB 1 8 [(xs.length : Int)] = false by rw [wB_len]; simp; omega)
    have e : valB xs = false := by unfold valB; simp; omega
    rw [e]
    clear e h1
    go_enter Try.func64, Try.ntmps64
    go_wp2_with (go_at_call 54; refine (within_any 1 8 _ 1 _ _ [(xs.length : Int)] _ rfl (le_maxLen (by omega)) (RI.new1 (by simp))).mono ?_; rintro e w' ⟨rfl, rfl⟩; rw [H1.out])
    go_ret
    exact ⟨rfl, by go_grown⟩

theorem flowest_any (num den : Int) (w : World) (h1 : -4611686018427387904 ≤ num) (h2 : num ≤ 4611686018427387904) (h3 : 1 ≤ den) (h4 : den ≤ 4611686018427387904) :
    Calls Try.prog 69 #[.agg #[.int .i64 num, .int .i64 den]] w fun e w' => e = .returned (.tuple #[.int .i64 (lowN num den).1, .int .i64 (lowN num den).2]) ∧ Below w.heap.size w w' := by
  have HL := Lib.hid (fun W => lowest_any num den W h1 h2 h3 h4)
  go_enter Try.func69, Try.ntmps69
  go_wp2_with (go_at_call 62; refine Calls.mono (HL.out _) ?_; rintro e w1 ⟨rfl, hb1⟩)
  go_ret2
  exact ⟨rfl, Below.trans (by go_grown) (hb1.mono (by simp))⟩

end Go.Proofs.Ytliocbjmledfbaa

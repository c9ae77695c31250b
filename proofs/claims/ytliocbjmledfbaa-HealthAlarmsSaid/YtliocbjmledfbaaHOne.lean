/- slices.SortFunc at one explanation. -/
import Derived.Test.YtliocbjmledfbaaHFew
namespace Go.Proofs.Ytliocbjmledfbaa
open Go.RowKit

theorem insert_one (v f : Value) (w : World) : Calls Try.prog 113 #[v, .int .i64 0, .int .i64 1, f] w fun e w' => e = .returned (.tuple #[]) ∧ w = w' := by
  go_enter Try.func113, Try.ntmps113
  go_wp2
  go_loop [8] (fun i => i = .int .i64 1) (fun _ => 0)
  case atStart => rfl
  case round =>
    subst hrel
    go_wp2
    go_end0
    exact ⟨rfl, rfl⟩
set_option maxRecDepth 100000 in
theorem pdq_one (v f : Value) (l : Int) (w : World) : Calls Try.prog 100 #[v, .int .i64 0, .int .i64 1, .int .i64 l, f] w fun e w' => e = .returned (.tuple #[]) ∧ w = w' := by
  have HI := Lib.hid (insert_one v f)
  go_enter Try.func100, Try.ntmps100
  go_wp2
  go_loop [1, 2] (fun a b => a = .int .i64 0 ∧ b = .int .i64 1) (fun _ _ => 0)
  case atStart => exact ⟨rfl, rfl⟩
  case round =>
    obtain ⟨rfl, rfl⟩ := hrel
    go_wp2_with (go_at_call 113; refine Calls.mono (HI.out _) ?_; rintro e w' ⟨rfl, rfl⟩)
    exact bodyPost_ret (v := .tuple #[]) (by simp [results, Try.results100, go_sem]) rfl ⟨rfl, rfl⟩
theorem sort_one (w : World) (x : Ex) : SortOK w [x] [x] := by
  intro v W hown hb
  obtain ⟨A, c, rfl, _⟩ := OE.form hown
  have HO := Lib.hid (And.intro hown hb)
  have HL := Lib.hid (fun W => len_any 1 W (by omega))
  have HP := Lib.hid (fun l W => pdq_one (.slice A 1 c) (.func (.func 95) #[] #[]) l W)
  clear hown hb
  simp only [List.length_cons, List.length_nil, Nat.zero_add]
  go_enter Try.func94, Try.ntmps94
  go_wp2_with (first
    | (go_at_call 96; refine Calls.mono (HL.out _) ?_; rintro e w' ⟨rfl, rfl⟩)
    | (go_at_call 100; refine Calls.mono (HP.out _ _) ?_; rintro e w' ⟨rfl, rfl⟩))
  go_end0
  exact ⟨rfl, HO.out.1, HO.out.2⟩
end Go.Proofs.Ytliocbjmledfbaa

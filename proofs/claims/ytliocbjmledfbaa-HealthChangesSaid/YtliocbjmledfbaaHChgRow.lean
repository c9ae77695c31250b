/- The law of the changes. -/
import Derived.Test.YtliocbjmledfbaaHChgR
import Derived.Test.YtliocbjmledfbaaHSame
import Derived.Test.YtliocbjmledfbaaHCrestRow
namespace Go.Proofs.Ytliocbjmledfbaa
open Go.RowKit

set_option maxRecDepth 100000 in
set_option maxHeartbeats 1000000 in
theorem law_changes (wk : WK) (w : World) (A : Option Addr) (n c : Nat) (V : List (List Int)) (hV : V.length = n) (hn : n ≤ maxLen) (hvl : ∀ r ∈ V, r.length ≤ maxLen) (rv : RR w w.heap.size A V) (A' : Option Addr) (n' c' : Nat) (W : List (List Int)) (hW : W.length = n') (hn' : n' ≤ maxLen) (hwl : ∀ r ∈ W, r.length ≤ maxLen) (rw_ : RR w w.heap.size A' W) (p : Int) :
    Calls Try.prog 9 #[.slice A n c, .slice A' n' c', .int .i64 p] w fun e w' => e = .returned (.bool true) ∧ Below w.heap.size w w' := by
  have HWK := Lib.hid wk
  have H1 := Lib.hid (changed_any A A' n c n' c' w.heap.size V W p w hV hW hn hn' hvl hwl (Nat.le_refl _) rv rw_)
  have H2 := Lib.hid (fun W1 (hb : Below w.heap.size w W1) => rchanged_any A A' n c n' c' w.heap.size V W p W1 hV hW hn hn' hvl hwl hb.size (rv.below hb) (rw_.below hb))
  have HL := Lib.hid (chN_len (V := V) (W := W) (p := p))
  generalize chN V W p = r at *
  obtain ⟨l, er⟩ := r
  dsimp only at HL
  clear wk rv rw_ hV hW hn hn' hvl hwl
  go_enter Try.func9, Try.ntmps9
  go_wp2_with (first
    | (go_at_call 42; refine Calls.mono H1.out ?_; rintro e w1 ⟨va, rfl, hq1, hb1⟩; have HX1 := Lib.hid hb1; have HQ1 := Lib.hid hq1; clear hq1 hb1; dsimp only)
    | (go_at_call 43; refine Calls.mono (H2.out _ HX1.out) ?_; rintro e w2 ⟨vb, rfl, hq2, hb2⟩; have HX2 := Lib.hid (HX1.out.trans (hb2.mono HX1.out.size)); have HS := Lib.hid (sameCells_any l va vb w2 (HQ1.out.stay hb2) hq2 (le_maxLen (by have := HL.out; omega))); clear hq2 hb2; dsimp only)
    | (go_at_call 44; refine Calls.mono HS.out ?_; rintro e w3 ⟨rfl, hb3⟩; have HX3 := Lib.hid (HX2.out.trans (hb3.mono HX2.out.size)); clear hb3 HS)
    | (go_at_call 22; refine Calls.mono (HWK.out _) ?_; rintro e w9 ⟨rfl, hb9⟩; have HX9 := Lib.hid (HX3.out.trans (hb9.mono HX3.out.size)); clear hb9))
  go_ret
  exact ⟨rfl, HX9.out⟩
end Go.Proofs.Ytliocbjmledfbaa

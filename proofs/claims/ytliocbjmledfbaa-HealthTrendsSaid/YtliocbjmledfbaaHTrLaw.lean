/- The law of the trends. -/
import Derived.Test.YtliocbjmledfbaaHTrendRow
namespace Go.Proofs.Ytliocbjmledfbaa
open Go.RowKit

set_option maxRecDepth 100000 in
set_option maxHeartbeats 1000000 in
theorem law_trends (wk : WK) (w : World) (A : Option Addr) (n c : Nat) (L : List Int) (hl : L.length = n) (hm : n ≤ maxLen ∧ n ≤ c) (hr : RI w w.heap.size A L) :
    Calls Try.prog 6 #[.slice A n c] w fun e w' => e = .returned (.bool true) ∧ Below w.heap.size w w' := by
  have HWK := Lib.hid wk
  have HT1 := Lib.hid (tTrend_any A n c w.heap.size L w hl hm.1 hm.2 (Nat.le_refl _) hr)
  have HT2 := Lib.hid (fun W (hW : Below w.heap.size w W) => rTrend_any A n c w.heap.size L W hl hm.1 (hr.below hW))
  have HC1 := Lib.hid (fun W (hW : Below w.heap.size w W) => tChance_any A n c w.heap.size L W hl hm.1 hm.2 hW.size (hr.below hW))
  have HC2 := Lib.hid (fun W (hW : Below w.heap.size w W) => rChance_any A n c w.heap.size L W hl hm.1 hm.2 hW.size (hr.below hW))
  have HL := Lib.hid (fun W => long_any A n c W hm.1)
  generalize tdN L = td at *
  generalize cnN L = cn at *
  obtain ⟨t0, t1⟩ := td
  obtain ⟨c0, c1, c2⟩ := cn
  simp only at HT1 HT2 HC1 HC2
  clear wk hr hl hm
  cases hlg : longB n with
  | true =>
    rw [hlg] at HL
    clear hlg
    go_enter Try.func6, Try.ntmps6
    go_wp2_with (first
      | (go_at_call 31; refine Calls.mono HT1.out ?_; rintro e w1 ⟨rfl, hb1⟩; have HX1 := Lib.hid hb1; clear hb1)
      | (go_at_call 32; refine Calls.mono (HT2.out _ HX1.out) ?_; rintro e w2 ⟨rfl, hb2⟩; have HX2 := Lib.hid (HX1.out.trans (hb2.mono HX1.out.size)); clear hb2)
      | (go_at_call 33; refine Calls.mono (HL.out _) ?_; rintro e w3 ⟨rfl, rfl⟩)
      | (go_at_call 22; refine Calls.mono (HWK.out _) ?_; rintro e w9 ⟨rfl, hb9⟩; have HX9 := Lib.hid (HX2.out.trans (hb9.mono HX2.out.size)); clear hb9))
    go_ret
    exact ⟨rfl, HX9.out⟩
  | false =>
    rw [hlg] at HL
    clear hlg
    go_enter Try.func6, Try.ntmps6
    go_wp2_with (first
      | (go_at_call 31; refine Calls.mono HT1.out ?_; rintro e w1 ⟨rfl, hb1⟩; have HX1 := Lib.hid hb1; clear hb1)
      | (go_at_call 32; refine Calls.mono (HT2.out _ HX1.out) ?_; rintro e w2 ⟨rfl, hb2⟩; have HX2 := Lib.hid (HX1.out.trans (hb2.mono HX1.out.size)); clear hb2)
      | (go_at_call 33; refine Calls.mono (HL.out _) ?_; rintro e w3 ⟨rfl, rfl⟩)
      | (go_at_call 34; refine Calls.mono (HC1.out _ HX2.out) ?_; rintro e w4 ⟨rfl, hb4⟩; have HX4 := Lib.hid (HX2.out.trans (hb4.mono HX2.out.size)); clear hb4)
      | (go_at_call 35; refine Calls.mono (HC2.out _ HX4.out) ?_; rintro e w5 ⟨rfl, hb5⟩; have HX5 := Lib.hid (HX4.out.trans (hb5.mono HX4.out.size)); clear hb5)
      | (go_at_call 22; refine Calls.mono (HWK.out _) ?_; rintro e w9 ⟨rfl, hb9⟩; have HX9 := Lib.hid (HX5.out.trans (hb9.mono HX5.out.size)); clear hb9))
    go_ret
    exact ⟨rfl, HX9.out⟩
end Go.Proofs.Ytliocbjmledfbaa

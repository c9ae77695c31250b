/- The law of the teeth. -/
import Derived.Test.YtliocbjmledfbaaHAvgRow
import Derived.Test.YtliocbjmledfbaaHRmea
namespace Go.Proofs.Ytliocbjmledfbaa
open Go.RowKit

theorem patN_len {L : List Int} (h : L.length ≤ maxLen) (t : Int) : (patN L t).1.length ≤ maxLen := by
  unfold patN
  split
  · rw [paL_len]
    exact Nat.le_trans (Nat.div_le_self _ _) h
  · exact le_maxLen (by simp)
theorem resN_len {L : List Int} (h : L.length ≤ maxLen) (t : Int) : (resN L t).1.length ≤ maxLen := by
  unfold resN
  split
  · rw [reL_len]
    exact h
  · exact le_maxLen (by simp)

set_option maxRecDepth 100000 in
set_option maxHeartbeats 1000000 in
theorem law_teeth (wk : WK) (w : World) (A : Option Addr) (n c : Nat) (L : List Int) (hl : L.length = n) (hm : n ≤ maxLen ∧ n ≤ c) (hr : RI w w.heap.size A L) (den t : Int) :
    Calls Try.prog 4 #[.slice A n c, .int .i64 den, .int .i64 t] w fun e w' => e = .returned (.bool true) ∧ Below w.heap.size w w' := by
  have HWK := Lib.hid wk
  have HP1 := Lib.hid (fun W (hW : Below w.heap.size w W) => pattern_any A n c w.heap.size L t W hl hm.1 hW.size (hr.below hW))
  have HP2 := Lib.hid (fun W (hW : Below w.heap.size w W) => rpattern_any A n c w.heap.size L t W hl hm.1 hW.size (hr.below hW))
  have HR1 := Lib.hid (fun W (hW : Below w.heap.size w W) => residual_any A n c w.heap.size L t W hl hm.1 hW.size (hr.below hW))
  have HR2 := Lib.hid (fun W (hW : Below w.heap.size w W) => rresidual_any A n c w.heap.size L t W hl hm.1 hW.size (hr.below hW))
  have HM1 := Lib.hid (fun W (hW : Below w.heap.size w W) => measure_any A n c w.heap.size L den t W hl hm.1 hW.size (hr.below hW))
  have HM2 := Lib.hid (fun W (hW : Below w.heap.size w W) => rmeasure_any A n c w.heap.size L den t W hl hm.1 hW.size (hr.below hW))
  have HLP := Lib.hid (patN_len (show L.length ≤ maxLen by omega) t)
  have HLR := Lib.hid (resN_len (show L.length ≤ maxLen by omega) t)
  generalize patN L t = pa at *
  generalize resN L t = re at *
  generalize meaN L den t = me at *
  obtain ⟨pl, pe⟩ := pa
  obtain ⟨rl, re⟩ := re
  obtain ⟨m0, m1, m2, m3, m4⟩ := me
  dsimp only at HLP HLR
  clear wk hr hl hm
  go_enter Try.func4, Try.ntmps4
  go_wp2_with (first
    | (go_at_call 23; refine Calls.mono (HP1.out _ (Below.refl _ _)) ?_; rintro e w1 ⟨va, rfl, hq1, hb1⟩; have HX1 := Lib.hid hb1; have HQ1 := Lib.hid hq1; clear hq1 hb1; dsimp only)
    | (go_at_call 24; refine Calls.mono (HP2.out _ HX1.out) ?_; rintro e w2 ⟨vb, rfl, hq2, hb2⟩; have HX2 := Lib.hid (HX1.out.trans (hb2.mono HX1.out.size)); have HS := Lib.hid (same_QI (HQ1.out.stay hb2) hq2 HLP.out); clear hq2 hb2 HLP; dsimp only)
    | (go_at_call 21; refine Calls.mono HS.out ?_; rintro e w3 ⟨rfl, hb3⟩; have HX3 := Lib.hid (HX2.out.trans (hb3.mono HX2.out.size)); clear hb3 HS)
    | (go_at_call 25; refine Calls.mono (HR1.out _ HX3.out) ?_; rintro e w4 ⟨vc, rfl, hq4, hb4⟩; have HX4 := Lib.hid (HX3.out.trans (hb4.mono HX3.out.size)); have HQ4 := Lib.hid hq4; clear hq4 hb4; dsimp only)
    | (go_at_call 26; refine Calls.mono (HR2.out _ HX4.out) ?_; rintro e w5 ⟨vd, rfl, hq5, hb5⟩; have HX5 := Lib.hid (HX4.out.trans (hb5.mono HX4.out.size)); have HT := Lib.hid (same_QI (HQ4.out.stay hb5) hq5 HLR.out); clear hq5 hb5 HLR; dsimp only)
    | (go_at_call 21; refine Calls.mono HT.out ?_; rintro e w6 ⟨rfl, hb6⟩; have HX6 := Lib.hid (HX5.out.trans (hb6.mono HX5.out.size)); clear hb6 HT)
    | (go_at_call 27; refine Calls.mono (HM1.out _ HX6.out) ?_; rintro e w7 ⟨rfl, hb7⟩; have HX7 := Lib.hid (HX6.out.trans (hb7.mono HX6.out.size)); clear hb7; dsimp only [meV])
    | (go_at_call 28; refine Calls.mono (HM2.out _ (HX7.out.alloc HX7.out.size (.cells #[.int .i64 m0, .int .i64 m1, .int .i64 m2, .int .i64 m3] 35))) ?_; rintro e w8 ⟨rfl, hb8⟩; have hg := (LB.new w7 m0 m1 m2 m3).stay hb8; have c0 := hg.c0; have c1 := hg.c1; have c2 := hg.c2; have c3 := hg.c3; have hlt := hg.lt; have HX8 := Lib.hid ((HX7.out.alloc HX7.out.size (.cells #[.int .i64 m0, .int .i64 m1, .int .i64 m2, .int .i64 m3] 35)).trans (hb8.mono (by have := HX7.out.size; simp; omega))); clear hb8 hg; dsimp only [meV])
    | (go_at_call 22; refine Calls.mono (HWK.out _) ?_; rintro e w9 ⟨rfl, hb9⟩; have HX9 := Lib.hid ((HX8.out.alloc HX8.out.size (.cells #[.int .i64 m0, .int .i64 m1, .int .i64 m2, .int .i64 m3] 35)).trans (hb9.mono (by have := HX8.out.size; simp; omega))); clear hb9))
  go_ret
  exact ⟨rfl, HX9.out⟩
end Go.Proofs.Ytliocbjmledfbaa

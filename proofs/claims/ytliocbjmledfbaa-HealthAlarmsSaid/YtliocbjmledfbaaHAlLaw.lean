/- The law of the alarms. -/
import Derived.Test.YtliocbjmledfbaaHAlR
namespace Go.Proofs.Ytliocbjmledfbaa
open Go.RowKit

set_option maxRecDepth 100000 in
set_option maxHeartbeats 1000000 in
theorem law_alarms (wk : WK) (w : World) (A : Option Addr) (n c : Nat) (L : List Int) (hl : L.length = n) (hm : n ≤ maxLen ∧ n ≤ c) (hr : RI w w.heap.size A L) (lim num den : Int) :
    Calls Try.prog 7 #[.slice A n c, .agg #[.int .i64 lim, .int .i64 num, .int .i64 den]] w fun e w' => e = .returned (.bool true) ∧ Below w.heap.size w w' := by
  have HWK := Lib.hid wk
  have H1 := Lib.hid (fun W (hW : Below w.heap.size w W) => alarm_any A n c w.heap.size L lim num den W hl hm.1 hm.2 hW.size (hr.below hW))
  have H2 := Lib.hid (fun W (hW : Below w.heap.size w W) => ralarm_any A n c w.heap.size L lim num den W hl hm.1 hm.2 hW.size (hr.below hW))
  have hnn := hm.1
  unfold maxLen at hnn
  generalize amN L lim num den = am at *
  obtain ⟨a0, a1⟩ := am
  simp only at H1 H2
  have HB0 := Lib.hid ((Below.refl w.heap.size w).alloc (Nat.le_refl _) (.cells #[.int .i64 lim, .int .i64 num, .int .i64 den] 47))
  have t0 : (w.alloc (.cells #[.int .i64 lim, .int .i64 num, .int .i64 den] 47)).cell? ⟨w.heap.size, 0, none⟩ = some (.int .i64 lim) := by rw [cell_newest]; rfl
  have t1 : (w.alloc (.cells #[.int .i64 lim, .int .i64 num, .int .i64 den] 47)).cell? ⟨w.heap.size, 1, none⟩ = some (.int .i64 num) := by rw [cell_newest]; rfl
  have t2 : (w.alloc (.cells #[.int .i64 lim, .int .i64 num, .int .i64 den] 47)).cell? ⟨w.heap.size, 2, none⟩ = some (.int .i64 den) := by rw [cell_newest]; rfl
  clear wk hr hl hm
  by_cases g : 6 < n ∧ n ≤ 64
  · obtain ⟨g1, g2⟩ := g
    go_enter Try.func7, Try.ntmps7
    go_wp2_with (go_at_call 22; refine Calls.mono (HWK.out _) ?_; rintro e w9 ⟨rfl, hb9⟩; have HX9 := Lib.hid (HB0.out.trans (hb9.mono HB0.out.size)); clear hb9)
    go_ret
    exact ⟨rfl, HX9.out⟩
  · by_cases g1 : 6 < n
    · have g2 : ¬ n ≤ 64 := by omega
      clear g
      go_enter Try.func7, Try.ntmps7
      go_wp2_with (first
        | (go_at_call 36; refine Calls.mono (H1.out _ HB0.out) ?_; rintro e w1 ⟨rfl, hb1⟩; have r0 := cell_keep hb1 t0; have r1 := cell_keep hb1 t1; have r2 := cell_keep hb1 t2; have HX1 := Lib.hid (HB0.out.trans (hb1.mono HB0.out.size)); clear hb1)
        | (go_at_call 37; refine Calls.mono (H2.out _ HX1.out) ?_; rintro e w2 ⟨rfl, hb2⟩; have HX2 := Lib.hid (HX1.out.trans (hb2.mono HX1.out.size)); clear hb2)
        | (go_at_call 22; refine Calls.mono (HWK.out _) ?_; rintro e w9 ⟨rfl, hb9⟩; have HX9 := Lib.hid (HX2.out.trans (hb9.mono HX2.out.size)); clear hb9))
      go_ret
      exact ⟨rfl, HX9.out⟩
    · clear g
      go_enter Try.func7, Try.ntmps7
      go_wp2_with (first
        | (go_at_call 36; refine Calls.mono (H1.out _ HB0.out) ?_; rintro e w1 ⟨rfl, hb1⟩; have r0 := cell_keep hb1 t0; have r1 := cell_keep hb1 t1; have r2 := cell_keep hb1 t2; have HX1 := Lib.hid (HB0.out.trans (hb1.mono HB0.out.size)); clear hb1)
        | (go_at_call 37; refine Calls.mono (H2.out _ HX1.out) ?_; rintro e w2 ⟨rfl, hb2⟩; have HX2 := Lib.hid (HX1.out.trans (hb2.mono HX1.out.size)); clear hb2)
        | (go_at_call 22; refine Calls.mono (HWK.out _) ?_; rintro e w9 ⟨rfl, hb9⟩; have HX9 := Lib.hid (HX2.out.trans (hb9.mono HX2.out.size)); clear hb9))
      go_ret
      exact ⟨rfl, HX9.out⟩
end Go.Proofs.Ytliocbjmledfbaa

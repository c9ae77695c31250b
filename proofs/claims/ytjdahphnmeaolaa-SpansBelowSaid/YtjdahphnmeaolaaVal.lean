/- spans.part, onKnot, at. -/
import Derived.Test.YtjdahphnmeaolaaTab
import Derived.Test.YtjdahphnmeaolaaPure2
namespace Go.Proofs.Ytjdahphnmeaolaa
open Go.RowKit

theorem part_any (A : Option Addr) (n c B : Nat) (X : List Int) (y : Int) (w : World) (hx : X.length = n) (hn : n ≤ maxLen) (h2 : 2 ≤ n) (h : RI w B A X) :
    Calls Try.prog 108 #[.slice A n c, .int .i64 y] w fun e w' => e = .returned (.int .i64 (partN X y : Nat)) ∧ w = w' := by
  subst hx
  unfold maxLen at hn
  have i1 : IntKind.i64.wrap ((X.length : Int) - 2) = (X.length : Int) - 2 := IntWalk.i64_in _ (by omega)
  go_enter Try.func108, Try.ntmps108
  go_wp2
  go_loop [5] (fun i => ∃ k : Nat, k + 2 ≤ X.length ∧ i = .int .i64 k ∧ partN X y = k + partN (X.drop k) y) (fun i => X.length - (intOf i).toNat)
  case atStart => exact ⟨0, by omega, rfl, by simp⟩
  case round =>
    obtain ⟨k, hk, rfl, hw⟩ := hrel
    have HW := Lib.hid hw
    clear hw
    by_cases hlt : k + 2 < X.length
    · obtain ⟨b, off, x, rfl, hb, hx, hc⟩ := h.at_ (k := k + 1) (by omega)
      have HX := Lib.hid hx
      clear hx
      have hlt' : decide ((k : Int) < (X.length : Int) - 2) = true := by simp; omega
      have i4 : (k : Int) + 1 < X.length := by omega
      by_cases hle : x ≤ y
      · go_wp2
        go_round
        case rel => exact ⟨k + 1, by omega, by go_num, by rw [HW.out, partN_go hlt HX.out hle]; omega⟩
        case measure => simp [intOf]; omega
      · go_wp2
        go_ret
        exact ⟨ret_int (by rw [HW.out, partN_stop hlt HX.out (by omega)]; omega), rfl⟩
    · have hlt' : decide ((k : Int) < (X.length : Int) - 2) = false := by simp; omega
      go_wp2
      go_ret
      exact ⟨ret_int (by rw [HW.out, partN_end (by omega)]; omega), rfl⟩

set_option maxHeartbeats 800000 in
set_option maxRecDepth 100000 in
theorem onKnot_any (AX AY AV : Option Addr) (nx cx ny cy nv cv B : Nat) (X Y : List Int) (V : List (List Int)) (i y : Int) (w : World) (hx : X.length = nx) (hy : Y.length = ny) (hv : V.length = nv)
    (hB : B ≤ w.heap.size) (h : TB w B AX AY AV X Y V) (hct : ctB X Y V = true) (hi0 : 0 ≤ i) (hi : i < X.length) (ho : On Y y) :
    Calls Try.prog 109 #[.agg #[.slice AX nx cx, .slice AY ny cy, .slice AV nv cv], .int .i64 i, .int .i64 y] w fun e w' =>
      e = .returned (.agg #[.int .i64 (kNum Y V i.toNat y), .int .i64 (kDen Y y)]) ∧ Below w.heap.size w w' := by
  subst hx hy hv
  obtain ⟨i, rfl⟩ := Int.eq_ofNat_of_zero_le hi0
  rw [Int.toNat_natCast]
  obtain ⟨ha, hb, hl, _⟩ := ctB_get hct
  obtain ⟨p1, p2, p3, p4⟩ := axB_get hb
  obtain ⟨q1, q2, _, _⟩ := axB_get ha
  obtain ⟨r1, r2⟩ := row_get hct (i := i) (by omega)
  have s := seg_of hb ho.1 ho.2
  have sl := s.lt
  have slo := s.lo
  have shi := s.hi
  have sd1 := s.d1
  have sd2 := s.d2
  obtain ⟨bv, ov, r, A', c', rfl, hbv, hr, hcr, hri⟩ := h.v.at_ (k := i) (by omega)
  have er : gr V i = r := gr_of hr
  obtain ⟨by1, oy, y0, rfl, hby, hy0, hcy0⟩ := h.y.at_ (k := partN Y y) (by omega)
  obtain ⟨by2, oy2, y1, hA, _, hy1, hcy1⟩ := h.y.at_ (k := partN Y y + 1) (by omega)
  obtain ⟨rfl, rfl⟩ : by2 = by1 ∧ oy2 = oy := by simpa [eq_comm] using hA
  have ey0 : gz Y (partN Y y) = y0 := gz_of hy0
  have ey1 : gz Y (partN Y y + 1) = y1 := gz_of hy1
  rw [er] at r1 r2
  obtain ⟨br, or, v0, rfl, hbr, hv0, hcv0⟩ := hri.at_ (k := partN Y y) (by omega)
  obtain ⟨br2, or2, v1, hA', _, hv1, hcv1⟩ := hri.at_ (k := partN Y y + 1) (by omega)
  obtain ⟨rfl, rfl⟩ : br2 = br ∧ or2 = or := by simpa [eq_comm] using hA'
  have ev0 : gz r (partN Y y) = v0 := gz_of hv0
  have ev1 : gz r (partN Y y + 1) = v1 := gz_of hv1
  have e1 : kNum Y V i y = (y1 - y) * v0 + (y - y0) * v1 := by unfold kNum; rw [er, ev0, ev1, ey0, ey1]
  have e2 : kDen Y y = y1 - y0 := by unfold kDen; rw [ey0, ey1]
  rw [e1, e2]
  rw [ey0, ey1] at sd1 sd2
  rw [ey0] at slo
  rw [ey1] at shi
  obtain ⟨u1, u2⟩ := wB_mem r2 hv0
  obtain ⟨u3, u4⟩ := wB_mem r2 hv1
  obtain ⟨u5, u6⟩ := wB_mem p3 hy0
  obtain ⟨u7, u8⟩ := wB_mem p3 hy1
  have m1 := mul_bd (a := y1 - y) (A := 10000) (M := 1000000) (by omega) (by omega) u1 u2 (by omega)
  have m2 := mul_bd (a := y - y0) (A := 10000) (M := 1000000) (by omega) (by omega) u3 u4 (by omega)
  obtain ⟨m11, m12⟩ := m1
  obtain ⟨m21, m22⟩ := m2
  generalize hk : partN Y y = k at *
  have HK := Lib.hid hk
  have hYl : Y.length ≤ maxLen := le_maxLen (by omega)
  have hY2 := p1
  have hpart : ∀ W, RI W B (some ⟨by2, oy2, none⟩) Y → Calls Try.prog 108 #[.slice (some ⟨by2, oy2, none⟩) Y.length cy, .int .i64 y] W fun e w' => e = .returned (.int .i64 (k : Nat)) ∧ W = w' := fun W hW => by
    rw [← HK.out]; exact part_any _ _ _ B Y y W rfl hYl hY2 hW
  have HP := Lib.hid hpart
  have HT := Lib.hid h.y
  have f1 : (i : Int) < V.length := by omega
  have f2 : (k : Int) < r.length := by omega
  have f3 : (k : Int) + 1 < r.length := by omega
  have f4 : (k : Int) < Y.length := by omega
  have f5 : (k : Int) + 1 < Y.length := by omega
  have f6 : IntKind.i64.wrap ((k : Int) + 1) = (k : Int) + 1 := IntWalk.i64_in _ (by omega)
  have f7 : ((k : Int) + 1).toNat = k + 1 := by omega
  have f8 : (0 : Int) ≤ (k : Int) + 1 := by omega
  have g1 : by2 < w.heap.size := by omega
  have g2 : bv < w.heap.size := by omega
  have g3 : br2 < w.heap.size := by omega
  clear hk hpart h hA hA' hr hy0 hy1 hv0 hv1 er ey0 ey1 ev0 ev1 e1 e2 ha hb hl hct p3 p4 r2 r1 s ho hri
  go_enter Try.func109, Try.ntmps109
  go_wp2_with (go_at_call 108; refine (HP.out _ (HT.out.below (by go_grown))).mono ?_; rintro e w' ⟨rfl, rfl⟩)
  go_quiet (fail)
  go_wp2
  refine region_tail 33 (by kernel_rfl) (by kernel_rfl) ?_
  simp only [List.take_succ_cons, List.take_zero, List.drop_succ_cons, List.drop_zero]
  repeat still_step
  refine wpStill_nil ?_
  go_wp2
  go_returns
  exact ⟨rfl, by go_grown <;> (refine below_drewN ?_ _; go_grown)⟩

end Go.Proofs.Ytjdahphnmeaolaa

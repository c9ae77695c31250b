/- spans.at. -/
import Derived.Test.YtjdahphnmeaolaaVal
namespace Go.Proofs.Ytjdahphnmeaolaa
open Go.RowKit

def AtMid (W0 : World) (a0 a1 d : Int) (s8 s9 : Value) (wx : World) : Prop :=
  ∃ g8 g9 : Nat, s8 = .pointer (some ⟨g8, 0, none⟩) ∧ s9 = .pointer (some ⟨g9, 0, none⟩) ∧ wx.cell? ⟨g8, 0, none⟩ = some (.int .i64 a0) ∧ wx.cell? ⟨g8, 1, none⟩ = some (.int .i64 d) ∧
    wx.cell? ⟨g9, 0, none⟩ = some (.int .i64 a1) ∧ wx.cell? ⟨g9, 1, none⟩ = some (.int .i64 d) ∧ Below W0.heap.size W0 wx

set_option maxHeartbeats 4000000 in
set_option maxRecDepth 100000 in
theorem at_any (AX AY AV : Option Addr) (nx cx ny cy nv cv B : Nat) (X Y : List Int) (V : List (List Int)) (x y : Int) (w : World) (hx : X.length = nx) (hy : Y.length = ny) (hv : V.length = nv)
    (hB : B ≤ w.heap.size) (h : TB w B AX AY AV X Y V) (hct : ctB X Y V = true) (ho' : On X x) (ho : On Y y) :
    Calls Try.prog 90 #[.agg #[.slice AX nx cx, .slice AY ny cy, .slice AV nv cv], .int .i64 x, .int .i64 y] w fun e w' =>
      e = .returned (.agg #[.int .i64 (atN X Y V x y), .int .i64 (atD X Y x y)]) ∧ Below w.heap.size w w' := by
  subst hx hy hv
  obtain ⟨ha, hb, hl, _⟩ := ctB_get hct
  obtain ⟨q1, q2, q3, q4⟩ := axB_get ha
  have s := seg_of ha ho'.1 ho'.2
  have sl := s.lt
  have slo := s.lo
  have shi := s.hi
  have sd1 := s.d1
  have sd2 := s.d2
  have kd := kDen_bd hb ho
  obtain ⟨kd1, kd2⟩ := kd
  obtain ⟨n1, n2⟩ := kNum_bd (i := partN X x) hct (by omega) ho
  obtain ⟨n3, n4⟩ := kNum_bd (i := partN X x + 1) hct (by omega) ho
  obtain ⟨bx, ox, x0, rfl, hbx, hx0, hcx0⟩ := h.x.at_ (k := partN X x) (by omega)
  obtain ⟨bx2, ox2, x1, hA, _, hx1, hcx1⟩ := h.x.at_ (k := partN X x + 1) (by omega)
  obtain ⟨rfl, rfl⟩ : bx2 = bx ∧ ox2 = ox := by simpa [eq_comm] using hA
  have ex0 : gz X (partN X x) = x0 := gz_of hx0
  have ex1 : gz X (partN X x + 1) = x1 := gz_of hx1
  have hon : ∀ (W0 : World) (i : Nat) (j : Int) W, Below w.heap.size w W0 → j = (i : Int) → i < X.length → Below W0.heap.size W0 W → Calls Try.prog 109 #[.agg #[.slice (some ⟨bx2, ox2, none⟩) X.length cx, .slice AY Y.length cy, .slice AV V.length cv], .int .i64 j, .int .i64 y] W fun e w' =>
      e = .returned (.agg #[.int .i64 (kNum Y V i y), .int .i64 (kDen Y y)]) ∧ Below W0.heap.size W0 w' ∧ Below W.heap.size W w' := fun W0 i j W hW0 hj hi hW => by
    subst hj
    have hs := hW0.size
    have hs' := hW.size
    have := onKnot_any _ AY AV _ cx _ cy _ cv B X Y V (i : Nat) y W rfl rfl rfl (by omega) ((h.below (hW0.mono hB)).below (hW.mono (by omega))) hct (by omega) (by omega) ho
    rw [Int.toNat_natCast] at this
    exact this.mono fun e w' ⟨h1, h2⟩ => ⟨h1, hW.trans (h2.mono hs'), h2⟩
  have e1 : atN X Y V x y = (x1 - x) * kNum Y V (partN X x) y + (x - x0) * kNum Y V (partN X x + 1) y := by unfold atN; rw [ex0, ex1]
  have e2 : atD X Y x y = (x1 - x0) * kDen Y y := by unfold atD; rw [ex0, ex1]
  rw [e1, e2]
  rw [ex0, ex1] at sd1 sd2
  rw [ex0] at slo
  rw [ex1] at shi
  obtain ⟨u5, u6⟩ := wB_mem q3 hx0
  obtain ⟨u7, u8⟩ := wB_mem q3 hx1
  have hon1 := fun W0 W hW0 => hon W0 (partN X x) (partN X x : Nat) W hW0 rfl (by omega)
  have hon2 := fun W0 W hW0 => hon W0 (partN X x + 1) ((partN X x : Nat) + 1) W hW0 (by omega) (by omega)
  generalize hk : partN X x = k at *
  have HK := Lib.hid hk
  generalize kNum Y V k y = a0 at *
  generalize kNum Y V (k + 1) y = a1 at *
  generalize kDen Y y = d at *
  have m1 := mul_bd (a := x1 - x) (u := a0) (A := 10000) (M := 10000000000) (by omega) (by omega) (by omega) (by omega) (by omega)
  have m2 := mul_bd (a := x - x0) (u := a1) (A := 10000) (M := 10000000000) (by omega) (by omega) (by omega) (by omega) (by omega)
  have m3 := mul_bd (a := x1 - x0) (u := d) (A := 10000) (M := 10000) (by omega) (by omega) (by omega) (by omega) (by omega)
  obtain ⟨m11, m12⟩ := m1
  obtain ⟨m21, m22⟩ := m2
  obtain ⟨m31, m32⟩ := m3
  have hXl : X.length ≤ maxLen := le_maxLen (by omega)
  have hX2 := q1
  have hpart : ∀ W, RI W B (some ⟨bx2, ox2, none⟩) X → Calls Try.prog 108 #[.slice (some ⟨bx2, ox2, none⟩) X.length cx, .int .i64 x] W fun e w' => e = .returned (.int .i64 (k : Nat)) ∧ W = w' := fun W hW => by
    rw [← HK.out]; exact part_any _ _ _ B X x W rfl hXl hX2 hW
  have HP := Lib.hid hpart
  have HT := Lib.hid h.x
  have HO1 := Lib.hid hon1
  have HO2 := Lib.hid hon2
  have hk1 : k < X.length := by omega
  have f4 : (k : Int) < X.length := by omega
  have f5 : (k : Int) + 1 < X.length := by omega
  have f6 : IntKind.i64.wrap ((k : Int) + 1) = (k : Int) + 1 := IntWalk.i64_in _ (by omega)
  have f7 : ((k : Int) + 1).toNat = k + 1 := by omega
  have f8 : (0 : Int) ≤ (k : Int) + 1 := by omega
  have g1 : bx2 < w.heap.size := by omega
  clear hk hpart h hA hx0 hx1 ex0 ex1 e1 e2 ha hb hl hct q3 q4 s ho ho' hon hon1 hon2
  go_enter Try.func90, Try.ntmps90
  go_upto_region 2 with (go_at_call 108; refine (HP.out _ (HT.out.below (by go_grown))).mono ?_; rintro e w' ⟨rfl, rfl⟩)
  generalize hW0 : ((w.alloc _).alloc _) = W0
  have hs0 : W0.heap.size = w.heap.size + 2 := by rw [← hW0]; simp
  have k0 : W0.cell? ⟨w.heap.size, 0, none⟩ = some (.slice (some ⟨bx2, ox2, none⟩) X.length cx) := by rw [← hW0]; simp [go_sem]
  have k1 : W0.cell? ⟨w.heap.size, 1, none⟩ = some (.slice AY Y.length cy) := by rw [← hW0]; simp [go_sem]
  have k2 : W0.cell? ⟨w.heap.size, 2, none⟩ = some (.slice AV V.length cv) := by rw [← hW0]; simp [go_sem]
  have k3 : W0.frozen? ⟨w.heap.size + 1, 0, none⟩ = false := by rw [← hW0]; simp [go_sem]
  have k4 : W0.frozen? ⟨w.heap.size + 1, 1, none⟩ = false := by rw [← hW0]; simp [go_sem]
  have k5 : W0.cell? ⟨w.heap.size + 1, 0, none⟩ = some (.int .i64 0) := by rw [← hW0]; simp [go_sem]
  have k6 : W0.cell? ⟨w.heap.size + 1, 1, none⟩ = some (.int .i64 0) := by rw [← hW0]; simp [go_sem]
  have k7 : W0.cell? ⟨bx2, ox2 + k, none⟩ = some (.int .i64 x0) := by rw [← hW0]; simp [go_sem, hcx0, g1]
  have k8 : W0.cell? ⟨bx2, ox2 + (k + 1), none⟩ = some (.int .i64 x1) := by rw [← hW0]; simp [go_sem, hcx1, g1]
  have hB0 : Below w.heap.size w W0 := by rw [← hW0]; go_grown
  have HB0 := Lib.hid hB0
  have hbx : ∀ wx : World, Below W0.heap.size W0 wx → wx.cell? ⟨w.heap.size, 0, none⟩ = some (.slice (some ⟨bx2, ox2, none⟩) X.length cx) ∧ wx.cell? ⟨w.heap.size, 1, none⟩ = some (.slice AY Y.length cy) ∧ wx.cell? ⟨w.heap.size, 2, none⟩ = some (.slice AV V.length cv) :=
    fun wx hb => ⟨cell_keep hb k0, cell_keep hb k1, cell_keep hb k2⟩
  have HBX := Lib.hid hbx
  clear hbx hW0 hcx0 hcx1 hB0
  go_cut [8, 9] (fun s8 s9 wx => AtMid W0 a0 a1 d s8 s9 wx)
  case first =>
    have hg0 : W0.heap.size ≤ W0.heap.size := Nat.le_refl _
    have hs1 : w.heap.size < W0.heap.size := by omega
    have HS0 := Lib.hid hs0
    clear hs0
    go_region_held3 (fun w' => w'.cell? ⟨w.heap.size, 0, none⟩ = some (.slice (some ⟨bx2, ox2, none⟩) X.length cx) ∧ w'.cell? ⟨w.heap.size, 1, none⟩ = some (.slice AY Y.length cy) ∧ w'.cell? ⟨w.heap.size, 2, none⟩ = some (.slice AV V.length cv))
      ((refine HBX.out _ ?_; go_grown))
      (first
        | (go_at_call_of 109 (Value.int .i64 (k : Int)); go_must (refine Calls.mono (HO1.out W0 _ HB0.out ?c1) ?_; (case c1 => (go_grown; done))); go_must (rintro e w1 ⟨rfl, hbb1, hb1⟩); have hz1 := hbb1.size; have hs2 := Nat.lt_of_lt_of_le hs1 hz1; obtain ⟨y0, y1, y2⟩ := HBX.out _ hbb1; obtain ⟨hc1, hf1⟩ := bcell hb1; have hy1 := hb1.size; (try simp [Nat.add_one_le_iff] at hy1); (try have hy1' := Nat.lt_of_succ_lt hy1))
        | (go_at_call 109; go_must (refine Calls.mono (HO2.out W0 _ HB0.out ?c1) ?_; (case c1 => (go_grown; done))); rintro e w2 ⟨rfl, hbb2, hb2⟩; have hz2 := hbb2.size; obtain ⟨hc2, hf2⟩ := bcell hb2; have hy2 := hb2.size; (try simp [Nat.add_one_le_iff] at hy2); (try have hy2' := Nat.lt_of_succ_lt hy2); (try have hq1 := Nat.lt_of_lt_of_le hy1 hy2); (try have hq2 := Nat.lt_trans hy1 hy2); (try have hq3 := Nat.lt_of_lt_of_le hy1' hy2); (try have hq4 := Nat.lt_trans hy1' hy2); (try have hq5 := Nat.lt_of_le_of_lt hy1 hy2)))
    all_goals (go_wp2_with fail; go_meet)
    all_goals
      refine ⟨_, _, rfl, rfl, ?_, ?_, ?_, ?_, ?_⟩
      · first | (go_simp; done) | (go_simp; refine World.cell?_setCell_same' _ _ _ ?_; go_simp)
      · first | (go_simp; done) | (go_simp; refine World.cell?_setCell_same' _ _ _ ?_; go_simp)
      · first | (go_simp; done) | (go_simp; refine World.cell?_setCell_same' _ _ _ ?_; go_simp)
      · first | (go_simp; done) | (go_simp; refine World.cell?_setCell_same' _ _ _ ?_; go_simp)
      · go_grown
  case rest =>
    obtain ⟨g8, g9, rfl, rfl, c1, c2, c3, c4, hbw⟩ := hcut
    obtain ⟨y0, y1, y2⟩ := HBX.out _ hbw
    have e5 := cell_keep hbw k7
    have e6 := cell_keep hbw k8
    have f1 : wc.frozen? ⟨w.heap.size + 1, 0, none⟩ = false := (hbw.frozen (p := ⟨w.heap.size + 1, 0, none⟩) (by simp; omega)).trans k3
    have f2 : wc.frozen? ⟨w.heap.size + 1, 1, none⟩ = false := (hbw.frozen (p := ⟨w.heap.size + 1, 1, none⟩) (by simp; omega)).trans k4
    have e7 := cell_keep hbw k5
    have e8 := cell_keep hbw k6
    have hbw' := Lib.hid (HB0.out.trans (hbw.mono (by omega)))
    clear k0 k1 k2 k3 k4 k5 k6 k7 k8 hs0 hbw HO1 HO2 HP HT
    go_wp2
    refine region_tail 38 (by kernel_rfl) (by kernel_rfl) ?_
    simp only [List.take_succ_cons, List.take_zero, List.drop_succ_cons, List.drop_zero]
    repeat still_step
    refine wpStill_nil ?_
    go_wp2
    have z1 : ∀ v, (wc.setCell ⟨w.heap.size + 1, 0, none⟩ v).cell? ⟨w.heap.size + 1, 0, none⟩ = some v := fun v => World.cell?_setCell_same' _ _ _ (by rw [e7]; rfl)
    have z2 : ∀ v u, ((wc.setCell ⟨w.heap.size + 1, 0, none⟩ v).setCell ⟨w.heap.size + 1, 1, none⟩ u).cell? ⟨w.heap.size + 1, 1, none⟩ = some u := fun v u => World.cell?_setCell_same' _ _ _ (by rw [World.cell?_setCell_other _ _ _ _ (by simp), e8]; rfl)
    refine bodyPost_ret (v := .agg #[.int .i64 ((x1 - x) * a0 + (x - x0) * a1), .int .i64 ((x1 - x0) * d)]) (by simp [results, Try.results90, go_sem, z1, z2]) rfl ?_
    have hb2 := hbw'.out
    exact ⟨rfl, by go_grown⟩

end Go.Proofs.Ytjdahphnmeaolaa

/- spans.under. -/
import Derived.Test.YtjdahphnmeaolaaGreat
namespace Go.Proofs.Ytjdahphnmeaolaa
open Go.RowKit

def unP (Y : List Int) (V : List (List Int)) (i : Nat) (limit k : Int) : Int := kNum Y V i k - limit * kDen Y k
def unStep (size : Int) (Y : List Int) (V : List (List Int)) (i : Nat) (limit : Int) (s : Int × Int) (k : Int) : Int × Int :=
  (max s.1 (naS size (unP Y V i limit k) (unP Y V (i + 1) limit k)).1, min s.2 (naS size (unP Y V i limit k) (unP Y V (i + 1) limit k)).2)
def unL (size : Int) (Y : List Int) (V : List (List Int)) (i : Nat) (limit : Int) (l : List Int) : Int × Int := l.foldl (unStep size Y V i limit) (0, size)
theorem unL_step {size : Int} {Y : List Int} {V : List (List Int)} {i : Nat} {limit : Int} {l : List Int} {a : Nat} {x : Int} (h : l[a]? = some x) :
    unL size Y V i limit (l.take (a + 1)) = unStep size Y V i limit (unL size Y V i limit (l.take a)) x := by
  unfold unL
  rw [List.take_add_one, h]
  simp

theorem unP_bd {X Y : List Int} {V : List (List Int)} {i : Nat} {limit k : Int} (h : ctB X Y V = true) (hi : i < X.length) (hk : On Y k) (h1 : -1000001 ≤ limit) (h2 : limit ≤ 1000001) :
    -100000000000 ≤ unP Y V i limit k ∧ unP Y V i limit k ≤ 100000000000 ∧ -10000010000 ≤ limit * kDen Y k ∧ limit * kDen Y k ≤ 10000010000 ∧ -10000000000 ≤ kNum Y V i k ∧ kNum Y V i k ≤ 10000000000 := by
  obtain ⟨_, b, _, _⟩ := ctB_get h
  obtain ⟨d1, d2⟩ := kDen_bd b hk
  obtain ⟨n1, n2⟩ := kNum_bd h hi hk
  have m := mul_bd (a := kDen Y k) (u := limit) (A := 10000) (M := 1000001) (by omega) d2 h1 h2 (by omega)
  have e : limit * kDen Y k = kDen Y k * limit := Int.mul_comm _ _
  unfold unP
  omega

set_option maxRecDepth 100000 in
set_option maxHeartbeats 4000000 in
theorem under_any (AX AY AV : Option Addr) (nx cx ny cy nv cv B : Nat) (X Y : List Int) (V : List (List Int)) (i y1 y2 limit : Int) (w : World) (hx : X.length = nx) (hy : Y.length = ny) (hv : V.length = nv)
    (hB : B ≤ w.heap.size) (h : TB w B AX AY AV X Y V) (hct : ctB X Y V = true) (hi0 : 0 ≤ i) (hi : i + 1 < X.length) (ho1 : On Y y1) (ho2 : On Y y2) (hl1 : -1000001 ≤ limit) (hl2 : limit ≤ 1000001) :
    Calls Try.prog 101 #[.agg #[.slice AX nx cx, .slice AY ny cy, .slice AV nv cv], .int .i64 i, .agg #[.int .i64 y1, .int .i64 y2], .int .i64 limit] w fun e w' =>
      e = .returned (.agg #[.int .i64 (unL (gz X (i.toNat + 1) - gz X i.toNat) Y V i.toNat limit (endsL Y y1 y2)).1, .int .i64 (unL (gz X (i.toNat + 1) - gz X i.toNat) Y V i.toNat limit (endsL Y y1 y2)).2]) ∧ Below w.heap.size w w' := by
  subst hx hy hv
  obtain ⟨i, rfl⟩ := Int.eq_ofNat_of_zero_le hi0
  rw [Int.toNat_natCast]
  obtain ⟨ha, hb, hl, hrw⟩ := ctB_get hct
  obtain ⟨q1, q2, q3, q4⟩ := axB_get ha
  obtain ⟨p1, p2, p3, p4⟩ := axB_get hb
  obtain ⟨bx, ox, x0, rfl, hbx, hx0, hcx0⟩ := h.x.at_ (k := i) (by omega)
  obtain ⟨bx2, ox2, x1, hA, _, hx1, hcx1⟩ := h.x.at_ (k := i + 1) (by omega)
  obtain ⟨rfl, rfl⟩ : bx = bx2 ∧ ox = ox2 := by simpa using hA
  have ex0 : gz X i = x0 := gz_of hx0
  have ex1 : gz X (i + 1) = x1 := gz_of hx1
  have sd := stN_get q4 (m := i) (by omega)
  have sd' : 1 ≤ x1 - x0 ∧ x1 - x0 ≤ 10000 := by rw [hx0, hx1] at sd; exact sd
  obtain ⟨sd1, sd2⟩ := sd'
  rw [ex0, ex1]
  obtain ⟨u5, u6⟩ := wB_mem q3 hx0
  obtain ⟨u7, u8⟩ := wB_mem q3 hx1
  have f4 : (i : Int) < X.length := by omega
  have f5 : (i : Int) + 1 < X.length := by omega
  have f6 : IntKind.i64.wrap ((i : Int) + 1) = (i : Int) + 1 := IntWalk.i64_in _ (by omega)
  have f7 : ((i : Int) + 1).toNat = i + 1 := by omega
  have f8 : (0 : Int) ≤ (i : Int) + 1 := by omega
  have f9 : (0 : Int) ≤ (i : Int) := by omega
  have g1 : bx < w.heap.size := by omega
  have f10 : IntKind.i64.wrap (x1 - x0) = x1 - x0 := IntWalk.i64_in _ (by omega)
  clear hx0 hx1 ex0 ex1 sd hA q3 q4 p3 p4 ha hb hl hrw
  go_enter Try.func101, Try.ntmps101
  go_upto_region 1 with fail
  generalize hW0 : (((w.alloc _).alloc _).alloc _) = W0
  have hs0 : W0.heap.size = w.heap.size + 3 := by rw [← hW0]; clear hW0; simp
  have k0 : W0.cell? ⟨w.heap.size, 0, none⟩ = some (.slice (some ⟨bx, ox, none⟩) X.length cx) := by rw [← hW0]; clear hW0; go_simp
  have k1 : W0.cell? ⟨w.heap.size, 1, none⟩ = some (.slice AY Y.length cy) := by rw [← hW0]; clear hW0; go_simp
  have k2 : W0.cell? ⟨w.heap.size, 2, none⟩ = some (.slice AV V.length cv) := by rw [← hW0]; clear hW0; go_simp
  have k3 : W0.cell? ⟨w.heap.size + 1, 0, none⟩ = some (.int .i64 y1) := by rw [← hW0]; clear hW0; go_simp
  have k4 : W0.cell? ⟨w.heap.size + 1, 1, none⟩ = some (.int .i64 y2) := by rw [← hW0]; clear hW0; go_simp
  have k5 : W0.cell? ⟨w.heap.size + 1 + 1, 0, none⟩ = some (.int .i64 0) := by rw [← hW0]; clear hW0; go_simp
  have k6 : W0.cell? ⟨w.heap.size + 1 + 1, 1, none⟩ = some (.int .i64 0) := by rw [← hW0]; clear hW0; go_simp
  have k7 : W0.frozen? ⟨w.heap.size + 1 + 1, 0, none⟩ = false := by rw [← hW0]; clear hW0; simp [go_sem]
  have k8 : W0.frozen? ⟨w.heap.size + 1 + 1, 1, none⟩ = false := by rw [← hW0]; clear hW0; simp [go_sem]
  have hB0 : Below w.heap.size w W0 := by rw [← hW0]; clear hW0; go_grown
  have k9 : W0.cell? ⟨bx, ox + i, none⟩ = some (.int .i64 x0) := (hB0.cell (p := ⟨bx, ox + i, none⟩) g1).trans hcx0
  have k10 : W0.cell? ⟨bx, ox + (i + 1), none⟩ = some (.int .i64 x1) := (hB0.cell (p := ⟨bx, ox + (i + 1), none⟩) g1).trans hcx1
  clear hW0 hcx0 hcx1
  have HB0 := Lib.hid hB0
  have HS0 := Lib.hid hs0
  have HT := Lib.hid h
  clear hB0 hs0 h
  go_quiet (fail)
  have hg2 : w.heap.size < W0.heap.size := by rw [HS0.out]; omega
  have hg3 : w.heap.size + 1 < W0.heap.size := by rw [HS0.out]; omega
  go_upto_region 3 with (go_at_call 71; refine Calls.mono (span_any 0 (x1 - x0) _) ?_; rintro e w1 ⟨rfl, hb1⟩; obtain ⟨hc1, hf1⟩ := bcell hb1; have hz1 := hb1.size; simp at hz1; have hgg2 := Nat.lt_of_lt_of_le hg2 hz1; have hgg3 := Nat.lt_of_lt_of_le hg3 hz1)
  have hcA : ∀ b o v, W0.cell? ⟨b, o, none⟩ = some v → w1.cell? ⟨b, o, none⟩ = some v := fun b o v h => (hc1 b o (World.block_lt_of_cell? W0 _ h)).trans h
  have hfA : ∀ b o v, W0.cell? ⟨b, o, none⟩ = some v → W0.frozen? ⟨b, o, none⟩ = false → w1.frozen? ⟨b, o, none⟩ = false := fun b o v h hf => (hf1 b o (World.block_lt_of_cell? W0 _ h)).trans hf
  replace k7 := hfA _ _ _ k5 k7
  replace k8 := hfA _ _ _ k6 k8
  replace k0 := hcA _ _ _ k0
  replace k1 := hcA _ _ _ k1
  replace k2 := hcA _ _ _ k2
  replace k3 := hcA _ _ _ k3
  replace k4 := hcA _ _ _ k4
  replace k5 := hcA _ _ _ k5
  replace k6 := hcA _ _ _ k6
  have l0 := World.block_lt_of_cell? w1 _ k0
  have l3 := World.block_lt_of_cell? w1 _ k3
  have l5 := World.block_lt_of_cell? w1 _ k5
  simp only at l0 l3 l5
  have hB1 : Below w.heap.size w w1 := HB0.out.trans (Below.trans (below_drewN (Below.refl _ _) nq) (hb1.mono (by rw [World.heap_drewN]; exact HB0.out.size)))
  clear hcA hfA hc1 hf1 hb1 HB0 HS0 k9 k10
  have HB1 := Lib.hid hB1
  clear hB1
  go_wp2_with (go_at_call 112; refine Calls.mono (ends_any AY _ cy B Y y1 y2 _ rfl (by omega) ?c1 ?c2) ?_)
  case c1 => have := HB1.out.size; simp; omega
  case c2 => exact HT.out.y.below ((HB1.out.trans (by go_grown)).mono hB)
  rintro e w2 ⟨g, c2, rfl, hg, hri, hb2⟩
  have HRI := Lib.hid hri
  clear hri
  have hz2 := hb2.size
  simp at hz2
  have k11 : w2.cell? ⟨w1.heap.size, 0, none⟩ = some (.int .i64 0) := cell_keep hb2 (by go_simp)
  have k12 : w2.cell? ⟨w1.heap.size, 1, none⟩ = some (.int .i64 (x1 - x0)) := cell_keep hb2 (by go_simp)
  have k13 : w2.frozen? ⟨w1.heap.size, 0, none⟩ = false := (hb2.frozen (p := ⟨w1.heap.size, 0, none⟩) (by simp)).trans (by go_simp)
  have k14 : w2.frozen? ⟨w1.heap.size, 1, none⟩ = false := (hb2.frozen (p := ⟨w1.heap.size, 1, none⟩) (by simp)).trans (by go_simp)
  replace k7 : w2.frozen? ⟨w.heap.size + 1 + 1, 0, none⟩ = false := (hb2.frozen (p := ⟨w.heap.size + 1 + 1, 0, none⟩) (by simp; omega)).trans (by go_simp)
  replace k8 : w2.frozen? ⟨w.heap.size + 1 + 1, 1, none⟩ = false := (hb2.frozen (p := ⟨w.heap.size + 1 + 1, 1, none⟩) (by simp; omega)).trans (by go_simp)
  replace k0 : w2.cell? ⟨w.heap.size, 0, none⟩ = some (.slice (some ⟨bx, ox, none⟩) X.length cx) := cell_keep hb2 (by go_simp)
  replace k1 : w2.cell? ⟨w.heap.size, 1, none⟩ = some (.slice AY Y.length cy) := cell_keep hb2 (by go_simp)
  replace k2 : w2.cell? ⟨w.heap.size, 2, none⟩ = some (.slice AV V.length cv) := cell_keep hb2 (by go_simp)
  replace k5 : w2.cell? ⟨w.heap.size + 1 + 1, 0, none⟩ = some (.int .i64 0) := cell_keep hb2 (by go_simp)
  replace k6 : w2.cell? ⟨w.heap.size + 1 + 1, 1, none⟩ = some (.int .i64 0) := cell_keep hb2 (by go_simp)
  have hn0 : w.heap.size < w1.heap.size := l0
  have hn5 : w.heap.size + 1 + 1 < w1.heap.size := l5
  have hB2 : Below w.heap.size w w2 := (HB1.out.trans (by go_grown)).trans (hb2.mono (by simp; omega))
  clear hb2 k3 k4 l0 l3 l5 hz1 hgg2 hgg3 hg2 hg3
  generalize hEL : endsL Y y1 y2 = EL at *
  have hEon : ∀ n ∈ EL, On Y n := by rw [← hEL]; exact endsL_on ho1 ho2
  have hElen : EL.length ≤ 14 := by have := endsL_len Y y1 y2; rw [hEL] at this; omega
  have hgg : w1.heap.size < g := by simp at hg; omega
  have HEL := Lib.hid hEL
  clear hEL hg
  go_wp2_with fail
  go_loopw [34] (fun j wr => ∃ k : Nat, k ≤ EL.length ∧ j = .int .i64 k ∧ (wr.cell? ⟨w1.heap.size, 0, none⟩ = some (.int .i64 (unL (x1 - x0) Y V i limit (EL.take k)).1) ∧ wr.cell? ⟨w1.heap.size, 1, none⟩ = some (.int .i64 (unL (x1 - x0) Y V i limit (EL.take k)).2)) ∧
    (∀ p : Addr, p.block < w2.heap.size → p.block ≠ w1.heap.size → wr.cell? p = w2.cell? p) ∧ (∀ p : Addr, p.block < w2.heap.size → wr.frozen? p = w2.frozen? p) ∧ w2.heap.size ≤ wr.heap.size ∧ Below w.heap.size w wr) (fun j _ => EL.length - (intOf j).toNat)
  case atStart => exact ⟨0, by omega, rfl, ⟨k11, k12⟩, fun _ _ _ => rfl, fun _ _ => rfl, Nat.le_refl _, hB2⟩
  case round =>
    obtain ⟨k, hk, rfl, ⟨d0, d1⟩, hfr, hff, hsr, hbr⟩ := hrel
    have q0 : wr.cell? ⟨w.heap.size, 0, none⟩ = some (.slice (some ⟨bx, ox, none⟩) X.length cx) := (hfr ⟨w.heap.size, 0, none⟩ (by simp; omega) (by simp; omega)).trans k0
    have q1 : wr.cell? ⟨w.heap.size, 1, none⟩ = some (.slice AY Y.length cy) := (hfr ⟨w.heap.size, 1, none⟩ (by simp; omega) (by simp; omega)).trans k1
    have q2 : wr.cell? ⟨w.heap.size, 2, none⟩ = some (.slice AV V.length cv) := (hfr ⟨w.heap.size, 2, none⟩ (by simp; omega) (by simp; omega)).trans k2
    have q5 : wr.cell? ⟨w.heap.size + 1 + 1, 0, none⟩ = some (.int .i64 0) := (hfr ⟨w.heap.size + 1 + 1, 0, none⟩ (by simp; omega) (by simp; omega)).trans k5
    have q6 : wr.cell? ⟨w.heap.size + 1 + 1, 1, none⟩ = some (.int .i64 0) := (hfr ⟨w.heap.size + 1 + 1, 1, none⟩ (by simp; omega) (by simp; omega)).trans k6
    have q7 : wr.frozen? ⟨w.heap.size + 1 + 1, 0, none⟩ = false := (hff ⟨w.heap.size + 1 + 1, 0, none⟩ (by simp; omega)).trans k7
    have q8 : wr.frozen? ⟨w.heap.size + 1 + 1, 1, none⟩ = false := (hff ⟨w.heap.size + 1 + 1, 1, none⟩ (by simp; omega)).trans k8
    have d2 : wr.frozen? ⟨w1.heap.size, 0, none⟩ = false := (hff ⟨w1.heap.size, 0, none⟩ (by simp; omega)).trans k13
    have d3 : wr.frozen? ⟨w1.heap.size, 1, none⟩ = false := (hff ⟨w1.heap.size, 1, none⟩ (by simp; omega)).trans k14
    have HFR := Lib.hid hfr
    have HFF := Lib.hid hff
    have HBR := Lib.hid hbr
    clear k0 k1 k2 k5 k6 k7 k8 k11 k12 k13 k14 hfr hff hbr
    by_cases hlt : k < EL.length
    · obtain ⟨gb, go, x, hA, hgb, hx, hcx⟩ := HRI.out.at_ (k := k) hlt
      obtain ⟨rfl, rfl⟩ : g = gb ∧ 0 = go := by simpa using hA
      have hcx' : wr.cell? ⟨g, 0 + k, none⟩ = some (.int .i64 x) := (HFR.out ⟨g, 0 + k, none⟩ hgb (by simp; omega)).trans hcx
      have hcx'' : wr.cell? ⟨g, k, none⟩ = some (.int .i64 x) := by rw [Nat.zero_add] at hcx'; exact hcx'
      have hox := hEon x (List.mem_of_getElem? hx)
      obtain ⟨v1, v2, v3, v4, v5, v6⟩ := unP_bd (i := i) hct (by omega) hox hl1 hl2
      obtain ⟨v11, v12, v13, v14, v15, v16⟩ := unP_bd (i := i + 1) hct (by omega) hox hl1 hl2
      have hust : unL (x1 - x0) Y V i limit (EL.take (k + 1)) = unStep (x1 - x0) Y V i limit (unL (x1 - x0) Y V i limit (EL.take k)) x := unL_step hx
      have HU := Lib.hid hust
      have hon : ∀ (j : Nat) (j' : Int) W, j' = (j : Int) → j < X.length → Below wr.heap.size wr W → Calls Try.prog 109 #[.agg #[.slice (some ⟨bx, ox, none⟩) X.length cx, .slice AY Y.length cy, .slice AV V.length cv], .int .i64 j', .int .i64 x] W fun e w' =>
          e = .returned (.agg #[.int .i64 (kNum Y V j x), .int .i64 (kDen Y x)]) ∧ Below wr.heap.size wr w' ∧ Below W.heap.size W w' := fun j j' W hj hi hW => by
        subst hj
        have hs := HBR.out.size
        have hs' := hW.size
        have := onKnot_any _ AY AV _ cx _ cy _ cv B X Y V (j : Nat) x W rfl rfl rfl (by omega) ((HT.out.below (HBR.out.mono hB)).below (hW.mono (by omega))) hct (by omega) (by omega) hox
        rw [Int.toNat_natCast] at this
        exact this.mono fun e w' ⟨h1, h2⟩ => ⟨h1, hW.trans (h2.mono hs'), h2⟩
      have HO1 := Lib.hid (fun W hW => hon i i W rfl (by omega) hW)
      have HO2 := Lib.hid (fun W hW => hon (i + 1) ((i : Int) + 1) W (by omega) (by omega) hW)
      have HP1 := Lib.hid (show _ ∧ _ from ⟨v1, v2⟩)
      have HP2 := Lib.hid (show _ ∧ _ from ⟨v11, v12⟩)
      have hW1 : IntKind.i64.wrap (limit * kDen Y x) = limit * kDen Y x := IntWalk.i64_in _ (by omega)
      have hW2 : IntKind.i64.wrap (kNum Y V i x - limit * kDen Y x) = unP Y V i limit x := by unfold unP at v1 v2 ⊢; exact IntWalk.i64_in _ (by omega)
      have hW3 : IntKind.i64.wrap (kNum Y V (i + 1) x - limit * kDen Y x) = unP Y V (i + 1) limit x := by unfold unP at v11 v12 ⊢; exact IntWalk.i64_in _ (by omega)
      have HW1 := Lib.hid hW1
      have HW2 := Lib.hid hW2
      have HW3 := Lib.hid hW3
      generalize hP1e : unP Y V i limit x = P0 at *
      generalize hP2e : unP Y V (i + 1) limit x = P1 at *
      have HP1e := Lib.hid hP1e
      have HP2e := Lib.hid hP2e
      generalize kNum Y V i x = a0 at *
      generalize kNum Y V (i + 1) x = a1 at *
      generalize kDen Y x = d at *
      have hbx : ∀ wx : World, Below wr.heap.size wr wx → wx.cell? ⟨w.heap.size, 0, none⟩ = some (.slice (some ⟨bx, ox, none⟩) X.length cx) ∧ wx.cell? ⟨w.heap.size, 1, none⟩ = some (.slice AY Y.length cy) ∧ wx.cell? ⟨w.heap.size, 2, none⟩ = some (.slice AV V.length cv) :=
        fun wx hb => ⟨cell_keep hb q0, cell_keep hb q1, cell_keep hb q2⟩
      have HBX := Lib.hid hbx
      clear hbx hcx hcx' hA hP1e hP2e hW1 hW2 hW3 hust hon v1 v2 v3 v4 v5 v6 v11 v12 v13 v14 v15 v16 hx
      go_upto_region 6 with fail
      go_cut [13, 14] (fun s8 s9 wx => AtMid wr a0 a1 d s8 s9 wx)
      case first =>
        have hg0 : wr.heap.size ≤ wr.heap.size := Nat.le_refl _
        have hs1 : w.heap.size < wr.heap.size := World.block_lt_of_cell? wr _ q0
        clear q0 q1 q2 q5 q6 q7 q8 d0 d1 d2 d3 HFR HFF hcx''
        go_region_held3 (fun w' => w'.cell? ⟨w.heap.size, 0, none⟩ = some (.slice (some ⟨bx, ox, none⟩) X.length cx) ∧ w'.cell? ⟨w.heap.size, 1, none⟩ = some (.slice AY Y.length cy) ∧ w'.cell? ⟨w.heap.size, 2, none⟩ = some (.slice AV V.length cv))
          ((refine HBX.out _ ?_; go_grown))
          (first
            | (go_at_call_of 109 (Value.int .i64 (i : Int)); go_must (refine Calls.mono (HO1.out _ ?c1) ?_; (case c1 => (go_grown; done))); go_must (rintro e w1 ⟨rfl, hbb1, hb1⟩); have hz1 := hbb1.size; have hs2 := Nat.lt_of_lt_of_le hs1 hz1; obtain ⟨y0, y1, y2⟩ := HBX.out _ hbb1; obtain ⟨hc1, hf1⟩ := bcell hb1; have hy1 := hb1.size; (try simp [Nat.add_one_le_iff] at hy1); (try have hy1' := Nat.lt_of_succ_lt hy1))
            | (go_at_call 109; go_must (refine Calls.mono (HO2.out _ ?c1) ?_; (case c1 => (go_grown; done))); rintro e w2 ⟨rfl, hbb2, hb2⟩; have hz2 := hbb2.size; obtain ⟨hc2, hf2⟩ := bcell hb2; have hy2 := hb2.size; (try simp [Nat.add_one_le_iff] at hy2); (try have hy2' := Nat.lt_of_succ_lt hy2); (try have hq1 := Nat.lt_of_lt_of_le hy1 hy2); (try have hq2 := Nat.lt_trans hy1 hy2); (try have hq3 := Nat.lt_of_lt_of_le hy1' hy2); (try have hq4 := Nat.lt_trans hy1' hy2); (try have hq5 := Nat.lt_of_le_of_lt hy1 hy2)))
        all_goals (go_wp2_with fail; go_meet)
        all_goals
          refine ⟨_, _, rfl, rfl, ?_, ?_, ?_, ?_, ?_⟩
          · first | (go_simp; done) | (go_simp; refine World.cell?_setCell_same' _ _ _ ?_; go_simp)
          · first | (go_simp; done) | (go_simp; refine World.cell?_setCell_same' _ _ _ ?_; go_simp)
          · first | (go_simp; done) | (go_simp; refine World.cell?_setCell_same' _ _ _ ?_; go_simp)
          · first | (go_simp; done) | (go_simp; refine World.cell?_setCell_same' _ _ _ ?_; go_simp)
          · go_grown
      case rest =>
        obtain ⟨g8, g9, rfl, rfl, m0, m1, m2, m3, hbw⟩ := hcut
        have HBW := Lib.hid hbw
        replace d0 := cell_keep hbw d0
        replace d1 := cell_keep hbw d1
        replace d2 : wc.frozen? ⟨w1.heap.size, 0, none⟩ = false := (hbw.frozen (p := ⟨w1.heap.size, 0, none⟩) (by simp; omega)).trans d2
        replace d3 : wc.frozen? ⟨w1.heap.size, 1, none⟩ = false := (hbw.frozen (p := ⟨w1.heap.size, 1, none⟩) (by simp; omega)).trans d3
        clear hbw q0 q1 q2 q5 q6 q7 q8 hcx'' HBX HO1 HO2
        have hlw := World.block_lt_of_cell? wc _ d0
        simp only at hlw
        generalize hue : unL (x1 - x0) Y V i limit (EL.take k) = un at *
        obtain ⟨s0, s1⟩ := un
        have HUE := Lib.hid hue
        clear hue
        simp only at d0 d1
        go_upto_region 7 with fail
        refine wpIn_wide.1 (region_inv (n := 9) (by kernel_rfl) (fun i => match i with
            | 0 => .agg #[.int .i64 s0, .int .i64 s1] | 1 => .int .i64 (x1 - x0) | 2 => .pointer (some ⟨g8, 0, none⟩) | 3 => .int .i64 a0 | 4 => .int .i64 limit | 5 => .pointer (some ⟨g8, 1, none⟩) | 6 => .int .i64 d | 7 => .int .i64 (limit * d) | 8 => .int .i64 P0
            | 9 => .pointer (some ⟨g9, 0, none⟩) | 10 => .int .i64 a1 | 11 => .int .i64 limit | 12 => .pointer (some ⟨g9, 1, none⟩) | 13 => .int .i64 d | 14 => .int .i64 (limit * d) | 15 => .int .i64 P1
            | 16 => .agg #[.int .i64 (naS (x1 - x0) P0 P1).1, .int .i64 (naS (x1 - x0) P0 P1).2] | 17 => .agg #[.int .i64 (max s0 (naS (x1 - x0) P0 P1).1), .int .i64 (min s1 (naS (x1 - x0) P0 P1).2)] | _ => undef)
          (fun L x => (L.getD 18 false = false → Below wc.heap.size wc x) ∧ (L.getD 18 false = true → ∃ y, Below wc.heap.size wc y ∧ x = (y.setCell ⟨w1.heap.size, 0, none⟩ (.int .i64 (max s0 (naS (x1 - x0) P0 P1).1))).setCell ⟨w1.heap.size, 1, none⟩ (.int .i64 (min s1 (naS (x1 - x0) P0 P1).2))))
          (by kernel_rfl) rfl ⟨fun _ => (Below.refl _ _).drew, fun h => by simp at h⟩ ?hstep ?hend)
        case hstep =>
          intro i' o ho L b x' hF hR hpre hl
          match i', ho with
          | 0, ho =>
            simp at ho
            subst ho
            refine step_plain rfl ?_
            have e10 := hF.was 10 (by kernel_rfl) rfl
            have hN := hF.later hl 18 rfl (e := ⟨0, .phase⟩) (by simp) rfl rfl
            have hM := hR.1 hN
            rw [Array.getD_eq_getD_getElem?] at hN
            clear hF hpre hl hR
            have q0 := cell_keep hM d0
            have q1 := cell_keep hM d1
            have q2 := cell_keep hM m0
            have q3 := cell_keep hM m1
            have q4 := cell_keep hM m2
            have q5 := cell_keep hM m3
            first | (go_simp; done) | (go_simp; exact hM) | (go_simp; rw [HW1.out]) | (go_simp; rw [HW2.out]) | (go_simp; rw [HW3.out])
          | 1, ho =>
            simp at ho
            subst ho
            refine step_plain rfl ?_
            have e9 := hF.was 9 (by kernel_rfl) rfl
            have hN := hF.later hl 18 rfl (e := ⟨1, .phase⟩) (by simp) rfl rfl
            have hM := hR.1 hN
            rw [Array.getD_eq_getD_getElem?] at hN
            clear hF hpre hl hR
            first | (go_simp; done) | (go_simp; exact hM) | (go_simp; rw [HW1.out]) | (go_simp; rw [HW2.out]) | (go_simp; rw [HW3.out])
          | 2, ho =>
            simp at ho
            subst ho
            refine step_plain rfl ?_
            have e13 := hF.was 13 (by kernel_rfl) rfl
            have hN := hF.later hl 18 rfl (e := ⟨2, .phase⟩) (by simp) rfl rfl
            have hM := hR.1 hN
            rw [Array.getD_eq_getD_getElem?] at hN
            clear hF hpre hl hR
            first | (go_simp; done) | (go_simp; exact hM) | (go_simp; rw [HW1.out]) | (go_simp; rw [HW2.out]) | (go_simp; rw [HW3.out])
          | 3, ho =>
            simp at ho
            subst ho
            refine step_plain rfl ?_
            have e49 := hF.gave 2 rfl (hpre ⟨2, .data⟩ (by simp) rfl) rfl
            have hN := hF.later hl 18 rfl (e := ⟨3, .phase⟩) (by simp) rfl rfl
            have hM := hR.1 hN
            rw [Array.getD_eq_getD_getElem?] at hN
            clear hF hpre hl hR
            have q0 := cell_keep hM d0
            have q1 := cell_keep hM d1
            have q2 := cell_keep hM m0
            have q3 := cell_keep hM m1
            have q4 := cell_keep hM m2
            have q5 := cell_keep hM m3
            first | (go_simp; done) | (go_simp; exact hM) | (go_simp; rw [HW1.out]) | (go_simp; rw [HW2.out]) | (go_simp; rw [HW3.out])
          | 4, ho =>
            simp at ho
            subst ho
            refine step_plain rfl ?_
            have e3 := hF.was 3 (by kernel_rfl) rfl
            have hN := hF.later hl 18 rfl (e := ⟨4, .phase⟩) (by simp) rfl rfl
            have hM := hR.1 hN
            rw [Array.getD_eq_getD_getElem?] at hN
            clear hF hpre hl hR
            first | (go_simp; done) | (go_simp; exact hM) | (go_simp; rw [HW1.out]) | (go_simp; rw [HW2.out]) | (go_simp; rw [HW3.out])
          | 5, ho =>
            simp at ho
            subst ho
            refine step_plain rfl ?_
            have e13 := hF.was 13 (by kernel_rfl) rfl
            have hN := hF.later hl 18 rfl (e := ⟨5, .phase⟩) (by simp) rfl rfl
            have hM := hR.1 hN
            rw [Array.getD_eq_getD_getElem?] at hN
            clear hF hpre hl hR
            first | (go_simp; done) | (go_simp; exact hM) | (go_simp; rw [HW1.out]) | (go_simp; rw [HW2.out]) | (go_simp; rw [HW3.out])
          | 6, ho =>
            simp at ho
            subst ho
            refine step_plain rfl ?_
            have e52 := hF.gave 5 rfl (hpre ⟨5, .data⟩ (by simp) rfl) rfl
            have hN := hF.later hl 18 rfl (e := ⟨6, .phase⟩) (by simp) rfl rfl
            have hM := hR.1 hN
            rw [Array.getD_eq_getD_getElem?] at hN
            clear hF hpre hl hR
            have q0 := cell_keep hM d0
            have q1 := cell_keep hM d1
            have q2 := cell_keep hM m0
            have q3 := cell_keep hM m1
            have q4 := cell_keep hM m2
            have q5 := cell_keep hM m3
            first | (go_simp; done) | (go_simp; exact hM) | (go_simp; rw [HW1.out]) | (go_simp; rw [HW2.out]) | (go_simp; rw [HW3.out])
          | 7, ho =>
            simp at ho
            subst ho
            refine step_plain rfl ?_
            have e51 := hF.gave 4 rfl (hpre ⟨4, .data⟩ (by simp) rfl) rfl
            have e53 := hF.gave 6 rfl (hpre ⟨6, .data⟩ (by simp) rfl) rfl
            have hN := hF.later hl 18 rfl (e := ⟨7, .phase⟩) (by simp) rfl rfl
            have hM := hR.1 hN
            rw [Array.getD_eq_getD_getElem?] at hN
            clear hF hpre hl hR
            first | (go_simp; done) | (go_simp; exact hM) | (go_simp; rw [HW1.out]) | (go_simp; rw [HW2.out]) | (go_simp; rw [HW3.out])
          | 8, ho =>
            simp at ho
            subst ho
            refine step_plain rfl ?_
            have e50 := hF.gave 3 rfl (hpre ⟨3, .data⟩ (by simp) rfl) rfl
            have e54 := hF.gave 7 rfl (hpre ⟨7, .data⟩ (by simp) rfl) rfl
            have hN := hF.later hl 18 rfl (e := ⟨8, .phase⟩) (by simp) rfl rfl
            have hM := hR.1 hN
            rw [Array.getD_eq_getD_getElem?] at hN
            clear hF hpre hl hR
            first | (go_simp; done) | (go_simp; exact hM) | (go_simp; rw [HW1.out]) | (go_simp; rw [HW2.out]) | (go_simp; rw [HW3.out])
          | 9, ho =>
            simp at ho
            subst ho
            refine step_plain rfl ?_
            have e14 := hF.was 14 (by kernel_rfl) rfl
            have hN := hF.later hl 18 rfl (e := ⟨9, .phase⟩) (by simp) rfl rfl
            have hM := hR.1 hN
            rw [Array.getD_eq_getD_getElem?] at hN
            clear hF hpre hl hR
            first | (go_simp; done) | (go_simp; exact hM) | (go_simp; rw [HW1.out]) | (go_simp; rw [HW2.out]) | (go_simp; rw [HW3.out])
          | 10, ho =>
            simp at ho
            subst ho
            refine step_plain rfl ?_
            have e56 := hF.gave 9 rfl (hpre ⟨9, .data⟩ (by simp) rfl) rfl
            have hN := hF.later hl 18 rfl (e := ⟨10, .phase⟩) (by simp) rfl rfl
            have hM := hR.1 hN
            rw [Array.getD_eq_getD_getElem?] at hN
            clear hF hpre hl hR
            have q0 := cell_keep hM d0
            have q1 := cell_keep hM d1
            have q2 := cell_keep hM m0
            have q3 := cell_keep hM m1
            have q4 := cell_keep hM m2
            have q5 := cell_keep hM m3
            first | (go_simp; done) | (go_simp; exact hM) | (go_simp; rw [HW1.out]) | (go_simp; rw [HW2.out]) | (go_simp; rw [HW3.out])
          | 11, ho =>
            simp at ho
            subst ho
            refine step_plain rfl ?_
            have e3 := hF.was 3 (by kernel_rfl) rfl
            have hN := hF.later hl 18 rfl (e := ⟨11, .phase⟩) (by simp) rfl rfl
            have hM := hR.1 hN
            rw [Array.getD_eq_getD_getElem?] at hN
            clear hF hpre hl hR
            first | (go_simp; done) | (go_simp; exact hM) | (go_simp; rw [HW1.out]) | (go_simp; rw [HW2.out]) | (go_simp; rw [HW3.out])
          | 12, ho =>
            simp at ho
            subst ho
            refine step_plain rfl ?_
            have e14 := hF.was 14 (by kernel_rfl) rfl
            have hN := hF.later hl 18 rfl (e := ⟨12, .phase⟩) (by simp) rfl rfl
            have hM := hR.1 hN
            rw [Array.getD_eq_getD_getElem?] at hN
            clear hF hpre hl hR
            first | (go_simp; done) | (go_simp; exact hM) | (go_simp; rw [HW1.out]) | (go_simp; rw [HW2.out]) | (go_simp; rw [HW3.out])
          | 13, ho =>
            simp at ho
            subst ho
            refine step_plain rfl ?_
            have e59 := hF.gave 12 rfl (hpre ⟨12, .data⟩ (by simp) rfl) rfl
            have hN := hF.later hl 18 rfl (e := ⟨13, .phase⟩) (by simp) rfl rfl
            have hM := hR.1 hN
            rw [Array.getD_eq_getD_getElem?] at hN
            clear hF hpre hl hR
            have q0 := cell_keep hM d0
            have q1 := cell_keep hM d1
            have q2 := cell_keep hM m0
            have q3 := cell_keep hM m1
            have q4 := cell_keep hM m2
            have q5 := cell_keep hM m3
            first | (go_simp; done) | (go_simp; exact hM) | (go_simp; rw [HW1.out]) | (go_simp; rw [HW2.out]) | (go_simp; rw [HW3.out])
          | 14, ho =>
            simp at ho
            subst ho
            refine step_plain rfl ?_
            have e58 := hF.gave 11 rfl (hpre ⟨11, .data⟩ (by simp) rfl) rfl
            have e60 := hF.gave 13 rfl (hpre ⟨13, .data⟩ (by simp) rfl) rfl
            have hN := hF.later hl 18 rfl (e := ⟨14, .phase⟩) (by simp) rfl rfl
            have hM := hR.1 hN
            rw [Array.getD_eq_getD_getElem?] at hN
            clear hF hpre hl hR
            first | (go_simp; done) | (go_simp; exact hM) | (go_simp; rw [HW1.out]) | (go_simp; rw [HW2.out]) | (go_simp; rw [HW3.out])
          | 15, ho =>
            simp at ho
            subst ho
            refine step_plain rfl ?_
            have e57 := hF.gave 10 rfl (hpre ⟨10, .data⟩ (by simp) rfl) rfl
            have e61 := hF.gave 14 rfl (hpre ⟨14, .data⟩ (by simp) rfl) rfl
            have hN := hF.later hl 18 rfl (e := ⟨15, .phase⟩) (by simp) rfl rfl
            have hM := hR.1 hN
            rw [Array.getD_eq_getD_getElem?] at hN
            clear hF hpre hl hR
            first | (go_simp; done) | (go_simp; exact hM) | (go_simp; rw [HW1.out]) | (go_simp; rw [HW2.out]) | (go_simp; rw [HW3.out])
          | 16, ho =>
            simp at ho
            subst ho
            refine step_plain rfl ?_
            have e48 := hF.gave 1 rfl (hpre ⟨1, .data⟩ (by simp) rfl) rfl
            have e55 := hF.gave 8 rfl (hpre ⟨8, .data⟩ (by simp) rfl) rfl
            have e62 := hF.gave 15 rfl (hpre ⟨15, .data⟩ (by simp) rfl) rfl
            have hN := hF.later hl 18 rfl (e := ⟨16, .phase⟩) (by simp) rfl rfl
            have hM := hR.1 hN
            rw [Array.getD_eq_getD_getElem?] at hN
            clear hF hpre hl hR
            have q0 := cell_keep hM d0
            have q1 := cell_keep hM d1
            have q2 := cell_keep hM m0
            have q3 := cell_keep hM m1
            have q4 := cell_keep hM m2
            have q5 := cell_keep hM m3
            go_simp
            refine ⟨trivial, ?_⟩
            refine CallsIn.mono (callsIn_wide.2 (notAbove_any (x1 - x0) P0 P1 _ (by omega) (by omega) HP1.out.1 HP1.out.2 HP2.out.1 HP2.out.2)) ?_
            rintro e y ⟨rfl, hy⟩
            have hs := hM.size
            exact ⟨rfl, hM.trans (hy.mono hs)⟩
          | 17, ho =>
            simp at ho
            subst ho
            refine step_plain rfl ?_
            have e47 := hF.gave 0 rfl (hpre ⟨0, .data⟩ (by simp) rfl) rfl
            have e63 := hF.gave 16 rfl (hpre ⟨16, .data⟩ (by simp) rfl) rfl
            have hN := hF.later hl 18 rfl (e := ⟨17, .phase⟩) (by simp) rfl rfl
            have hM := hR.1 hN
            rw [Array.getD_eq_getD_getElem?] at hN
            clear hF hpre hl hR
            have q0 := cell_keep hM d0
            have q1 := cell_keep hM d1
            have q2 := cell_keep hM m0
            have q3 := cell_keep hM m1
            have q4 := cell_keep hM m2
            have q5 := cell_keep hM m3
            go_simp
            refine ⟨trivial, ?_⟩
            refine CallsIn.mono (callsIn_wide.2 (common_any _ _ _ _ _)) ?_
            rintro e y ⟨rfl, hy⟩
            have hs := hM.size
            exact ⟨rfl, hM.trans (hy.mono hs)⟩
          | 18, ho =>
            simp at ho
            subst ho
            refine step_plain rfl ?_
            have e10 := hF.was 10 (by kernel_rfl) rfl
            have e64 := hF.gave 17 rfl (hpre ⟨17, .data⟩ (by simp) rfl) rfl
            have hls := hF.lsize
            have hls' : 18 < L.size := by rw [hls]; decide
            have hM := hR.1 (by rw [← getD_same hls']; exact hl)
            clear hF hpre hl hR hls
            have q0 := cell_keep hM d0
            have q1 := cell_keep hM d1
            have q4 := (cell_frozen hM d0).trans d2
            have q5 := (cell_frozen hM d1).trans d3
            go_simp
            exact ⟨x', hM, rfl⟩
          | i + 19, ho => simp at ho
        case hend =>
          intro L b x' hF hall hR
          obtain ⟨y, hy, rfl⟩ := hR.2 (hall 18 (by decide))
          have e := hF.all (by kernel_rfl) hall
          subst e
          simp [final, dstOf, List.range, List.range.loop]
          have hys := hy.size
          have z0 := cell_keep hy d0
          have z1 := cell_keep hy d1
          have hbwy : Below w.heap.size w ((y.setCell ⟨w1.heap.size, 0, none⟩ (.int .i64 (max s0 (naS (x1 - x0) P0 P1).1))).setCell ⟨w1.heap.size, 1, none⟩ (.int .i64 (min s1 (naS (x1 - x0) P0 P1).2))) :=
            (((HBR.out.trans (HBW.out.mono HBR.out.size)).trans (hy.mono (Nat.le_trans HBR.out.size HBW.out.size))).setCell (by simp; omega) _).setCell (by simp; omega) _
          have hby : Below wr.heap.size wr y := HBW.out.trans (hy.mono HBW.out.size)
          have hsy := hby.size
          clear hF hall hR
          go_wp2
          go_roundw
          case rel =>
            refine ⟨k + 1, by omega, by go_num, ?_, fun p hp hne => ?_, fun p hp => ?_, by simp; omega, hbwy⟩
            · rw [HU.out]
              unfold unStep
              rw [HP1e.out, HP2e.out]
              exact ⟨by rw [World.cell?_setCell_other _ _ _ _ (by simp)]; exact World.cell?_setCell_same' _ _ _ (by rw [z0]; rfl), World.cell?_setCell_same' _ _ _ (by rw [World.cell?_setCell_other _ _ _ _ (by simp), z1]; rfl)⟩
            · rw [World.cell?_setCell_other _ _ _ _ (fun e => hne (by first | rw [e] | rw [← e])), World.cell?_setCell_other _ _ _ _ (fun e => hne (by first | rw [e] | rw [← e]))]
              exact (hby.cell (by omega)).trans (HFR.out p hp hne)
            · rw [World.frozen?_setCell, World.frozen?_setCell]
              exact (hby.frozen (by omega)).trans (HFF.out p hp)
          case measure => simp [intOf]; omega
    · obtain rfl : k = EL.length := by omega
      rw [List.take_length] at d0 d1
      go_wp2
      have z1 : ∀ v, (wr.setCell ⟨w.heap.size + 1 + 1, 0, none⟩ v).cell? ⟨w.heap.size + 1 + 1, 0, none⟩ = some v := fun v => World.cell?_setCell_same' _ _ _ (by rw [q5]; rfl)
      have z2 : ∀ v u, ((wr.setCell ⟨w.heap.size + 1 + 1, 0, none⟩ v).setCell ⟨w.heap.size + 1 + 1, 1, none⟩ u).cell? ⟨w.heap.size + 1 + 1, 1, none⟩ = some u := fun v u => World.cell?_setCell_same' _ _ _ (by rw [World.cell?_setCell_other _ _ _ _ (by simp), q6]; rfl)
      refine bodyPost_ret (v := .agg #[.int .i64 (unL (x1 - x0) Y V i limit EL).1, .int .i64 (unL (x1 - x0) Y V i limit EL).2]) (by simp [results, Try.results101, go_sem, z1, z2]) rfl ?_
      rw [HEL.out]
      exact ⟨rfl, (HBR.out.setCell (by simp; omega) _).setCell (by simp; omega) _⟩
end Go.Proofs.Ytjdahphnmeaolaa

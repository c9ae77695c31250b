/- The reference's part, Value, Between. -/
import Derived.Test.YtjdahphnmeaolaaMeet
import Derived.Test.YtjdahphnmeaolaaComp
namespace Go.Proofs.Ytjdahphnmeaolaa
open Go.RowKit

theorem rprt_any (A : Option Addr) (n c B : Nat) (X : List Int) (y : Int) (w : World) (hx : X.length = n) (hn : n ≤ 1000000) (h2 : 2 ≤ n) (h : RI w B A X) :
    Calls Try.prog 110 #[.slice A n c, .int .i64 y] w fun e w' => e = .returned (.int .i64 (partN X y : Nat)) ∧ w = w' := by
  subst hx
  go_enter Try.func110, Try.ntmps110
  go_wp2
  go_loop [5] (fun i => ∃ k : Nat, k + 2 ≤ X.length ∧ i = .int .i64 k ∧ partN X y = k + partN (X.drop k) y) (fun i => X.length - (intOf i).toNat)
  case atStart => exact ⟨0, by omega, rfl, by simp⟩
  case round =>
    obtain ⟨k, hk, rfl, hw⟩ := hrel
    have HW := Lib.hid hw
    clear hw
    by_cases hlt : k + 2 < X.length
    · obtain ⟨b, off, x, rfl, hb, hx, hc⟩ := h.at_ (k := k + 1) (by omega)
      have HX := Lib.hid hx
      clear hx
      have hlt' : (k : Int) + 2 < (X.length : Int) := by omega
      have i4 : (k : Int) + 1 < X.length := by omega
      by_cases hle : x ≤ y
      · go_wp2
        go_round
        case rel => exact ⟨k + 1, by omega, by go_num, by rw [HW.out, partN_go hlt HX.out hle]; omega⟩
        case measure => simp [intOf]; omega
      · go_wp2
        go_ret
        exact ⟨ret_int (by rw [HW.out, partN_stop hlt HX.out (by omega)]; omega), rfl⟩
    · have hlt' : ¬ (k : Int) + 2 < (X.length : Int) := by omega
      go_wp2
      go_ret
      exact ⟨ret_int (by rw [HW.out, partN_end (by omega)]; omega), rfl⟩

/-- Between. -/
def btB (X : List Int) (a b : Int) : Bool := decide (gz X 0 ≤ a) && decide (b ≤ gz X (X.length - 1))

theorem between_any (A : Option Addr) (n c B : Nat) (X : List Int) (a b : Int) (w : World) (hx : X.length = n) (hn : n ≤ 1000000) (h1 : 1 ≤ n) (hB : B ≤ w.heap.size) (h : RI w B A X) :
    Calls Try.prog 93 #[.slice A n c, .agg #[.int .i64 a, .int .i64 b]] w fun e w' => e = .returned (.bool (btB X a b)) ∧ Below w.heap.size w w' := by
  subst hx
  obtain ⟨b0, o0, x0, rfl, hb0, hx0, hc0⟩ := h.at_ (k := 0) (by omega)
  obtain ⟨b1, o1, x1, hA, hb1, hx1, hc1⟩ := h.at_ (k := X.length - 1) (by omega)
  obtain ⟨rfl, rfl⟩ : b0 = b1 ∧ o0 = o1 := by simpa using hA
  have e1 : btB X a b = (decide (x0 ≤ a) && decide (b ≤ x1)) := by unfold btB; rw [gz_of hx0, gz_of hx1]
  rw [e1]
  simp only [Nat.add_zero] at hc0
  have i0 : (0 : Int) < (X.length : Int) := by omega
  have i1 : IntKind.i64.wrap ((X.length : Int) - 1) = (X.length : Int) - 1 := IntWalk.i64_in _ (by omega)
  have i2 : ((X.length : Int) - 1).toNat = X.length - 1 := by omega
  have i3 : (0 : Int) ≤ (X.length : Int) - 1 := by omega
  have i4 : (X.length : Int) - 1 < (X.length : Int) := by omega
  have hbb : b0 < w.heap.size := by omega
  clear hx0 hx1 e1 hA h hb1
  by_cases g1 : x0 ≤ a <;> by_cases g2 : b ≤ x1
  all_goals
    have G := Lib.hid (And.intro g1 g2)
    go_enter Try.func93, Try.ntmps93
    go_upto_region 1 with fail
    go_quiet (fail)
    go_wp2
    go_ret
    obtain ⟨g1', g2'⟩ := G.out
    exact ⟨ret_bool (by simp [g1', g2']), below_drewN (by go_grown) _⟩

set_option maxHeartbeats 4000000 in
set_option maxRecDepth 100000 in
theorem rvalue_any (AX AY AV : Option Addr) (nx cx ny cy nv cv B : Nat) (X Y : List Int) (V : List (List Int)) (x y : Int) (w : World) (hx : X.length = nx) (hy : Y.length = ny) (hv : V.length = nv)
    (hB : B ≤ w.heap.size) (h : TB w B AX AY AV X Y V) (hct : ctB X Y V = true) (ho' : On X x) (ho : On Y y) :
    Calls Try.prog 94 #[.agg #[.slice AX nx cx, .slice AY ny cy, .slice AV nv cv], .int .i64 x, .int .i64 y] w fun e w' =>
      e = .returned (.tuple #[.int .i64 (atN X Y V x y), .int .i64 (atD X Y x y)]) ∧ Below w.heap.size w w' := by
  subst hx hy hv
  obtain ⟨ha, hb, hl, _⟩ := ctB_get hct
  obtain ⟨q1, q2, q3, q4⟩ := axB_get ha
  obtain ⟨p1, p2, p3, p4⟩ := axB_get hb
  have s := seg_of ha ho'.1 ho'.2
  have t := seg_of hb ho.1 ho.2
  have sl := s.lt
  have tl := t.lt
  have hxp : ∀ W, RI W B AX X → Calls Try.prog 110 #[.slice AX X.length cx, .int .i64 x] W fun e w' => e = .returned (.int .i64 (partN X x : Nat)) ∧ W = w' := fun W hW => rprt_any _ _ _ B X x W rfl (by omega) q1 hW
  have hyp : ∀ W, RI W B AY Y → Calls Try.prog 110 #[.slice AY Y.length cy, .int .i64 y] W fun e w' => e = .returned (.int .i64 (partN Y y : Nat)) ∧ W = w' := fun W hW => rprt_any _ _ _ B Y y W rfl (by omega) p1 hW
  obtain ⟨bx, ox, x0, hAX, hbx, hx0, hcx0⟩ := h.x.at_ (k := partN X x) (by omega)
  obtain ⟨bx2, ox2, x1, hA, _, hx1, hcx1⟩ := h.x.at_ (k := partN X x + 1) (by omega)
  obtain ⟨rfl, rfl⟩ : bx = bx2 ∧ ox = ox2 := by rw [hAX] at hA; simpa using hA
  obtain ⟨by1, oy, y0, hAY, hby, hy0, hcy0⟩ := h.y.at_ (k := partN Y y) (by omega)
  obtain ⟨by2, oy2, y1, hA', _, hy1, hcy1⟩ := h.y.at_ (k := partN Y y + 1) (by omega)
  obtain ⟨rfl, rfl⟩ : by1 = by2 ∧ oy = oy2 := by rw [hAY] at hA'; simpa using hA'
  obtain ⟨r1, r2⟩ := row_get hct (i := partN X x) (by omega)
  obtain ⟨r3, r4⟩ := row_get hct (i := partN X x + 1) (by omega)
  obtain ⟨bv, ov, r, A0, c0, hAV, hbv, hr, hcr, hri⟩ := h.v.at_ (k := partN X x) (by omega)
  obtain ⟨bv2, ov2, r', A1, c1, hA'', _, hr', hcr', hri'⟩ := h.v.at_ (k := partN X x + 1) (by omega)
  obtain ⟨rfl, rfl⟩ : bv = bv2 ∧ ov = ov2 := by rw [hAV] at hA''; simpa using hA''
  have er : gr V (partN X x) = r := gr_of hr
  have er' : gr V (partN X x + 1) = r' := gr_of hr'
  rw [er] at r1 r2
  rw [er'] at r3 r4
  obtain ⟨g0, o0, v00, rfl, hg0, hv00, hc00⟩ := hri.at_ (k := partN Y y) (by omega)
  obtain ⟨g0', o0', v01, hB0, _, hv01, hc01⟩ := hri.at_ (k := partN Y y + 1) (by omega)
  obtain ⟨rfl, rfl⟩ : g0 = g0' ∧ o0 = o0' := by simpa using hB0
  obtain ⟨g1, o1, v10, rfl, hg1, hv10, hc10⟩ := hri'.at_ (k := partN Y y) (by omega)
  obtain ⟨g1', o1', v11, hB1, _, hv11, hc11⟩ := hri'.at_ (k := partN Y y + 1) (by omega)
  obtain ⟨rfl, rfl⟩ : g1 = g1' ∧ o1 = o1' := by simpa using hB1
  have e1 : atN X Y V x y = (x1 - x) * (y1 - y) * v00 + (x - x0) * (y1 - y) * v10 + (x1 - x) * (y - y0) * v01 + (x - x0) * (y - y0) * v11 := by
    unfold atN kNum
    rw [gz_of hx0, gz_of hx1, gz_of hy0, gz_of hy1, er, er', gz_of hv00, gz_of hv01, gz_of hv10, gz_of hv11]
    grind
  have e2 : atD X Y x y = (x1 - x0) * (y1 - y0) := by unfold atD kDen; rw [gz_of hx0, gz_of hx1, gz_of hy0, gz_of hy1]
  rw [e1, e2]
  have sd1 := s.d1; have sd2 := s.d2; have slo := s.lo; have shi := s.hi
  have td1 := t.d1; have td2 := t.d2; have tlo := t.lo; have thi := t.hi
  rw [gz_of hx0, gz_of hx1] at sd1 sd2
  rw [gz_of hx0] at slo
  rw [gz_of hx1] at shi
  rw [gz_of hy0, gz_of hy1] at td1 td2
  rw [gz_of hy0] at tlo
  rw [gz_of hy1] at thi
  obtain ⟨a1, a2⟩ := wB_mem q3 hx0
  obtain ⟨a3, a4⟩ := wB_mem q3 hx1
  obtain ⟨a5, a6⟩ := wB_mem p3 hy0
  obtain ⟨a7, a8⟩ := wB_mem p3 hy1
  obtain ⟨b1, b2⟩ := wB_mem r2 hv00
  obtain ⟨b3, b4⟩ := wB_mem r2 hv01
  obtain ⟨b5, b6⟩ := wB_mem r4 hv10
  obtain ⟨b7, b8⟩ := wB_mem r4 hv11
  have lx0 : (partN X x : Int) < X.length := by omega
  have lx1 : (partN X x : Int) + 1 < X.length := by omega
  have ly0 : (partN Y y : Int) < Y.length := by omega
  have ly1 : (partN Y y : Int) + 1 < Y.length := by omega
  have lv0 : (partN X x : Int) < V.length := by omega
  have lv1 : (partN X x : Int) + 1 < V.length := by omega
  have lr0 : (partN Y y : Int) < r.length := by omega
  have lr1 : (partN Y y : Int) + 1 < r.length := by omega
  have lr2 : (partN Y y : Int) < r'.length := by omega
  have lr3 : (partN Y y : Int) + 1 < r'.length := by omega
  have bk : partN X x ≤ 100 := by omega
  have bm : partN Y y ≤ 100 := by omega
  have hgx : bx < w.heap.size := by omega
  have hgy : by1 < w.heap.size := by omega
  have hgv : bv < w.heap.size := by omega
  have hgr0 : g0 < w.heap.size := by omega
  have hgr1 : g1 < w.heap.size := by omega
  have HTX := Lib.hid h.x
  have HTY := Lib.hid h.y
  rw [hAX] at HTX hxp ⊢
  rw [hAY] at HTY hyp ⊢
  rw [hAV]
  generalize hk : partN X x = k at *
  generalize hm : partN Y y = m at *
  clear hk hm s t hct ha hb hl q1 q2 q3 q4 p1 p2 p3 p4 e1 e2 er er' hr hr' hri hri' h hx0 hx1 hy0 hy1 hv00 hv01 hv10 hv11 r1 r2 r3 r4 hA hA' hA'' hAX hAY hAV hB0 hB1 ho ho' sl tl
  have HXP := Lib.hid hxp
  have HYP := Lib.hid hyp
  clear hxp hyp
  have f1 : IntKind.i64.wrap ((k : Int) + 1) = (k : Int) + 1 := IntWalk.i64_in _ (by omega)
  have f2 : ((k : Int) + 1).toNat = k + 1 := by omega
  have f3 : (0 : Int) ≤ (k : Int) + 1 := by omega
  have f4 : IntKind.i64.wrap ((m : Int) + 1) = (m : Int) + 1 := IntWalk.i64_in _ (by omega)
  have f5 : ((m : Int) + 1).toNat = m + 1 := by omega
  have f6 : (0 : Int) ≤ (m : Int) + 1 := by omega
  generalize hda : x1 - x = da at *
  generalize hdb : x - x0 = db at *
  generalize hdc : y1 - y = dc at *
  generalize hdd : y - y0 = dd at *
  generalize hdx : x1 - x0 = dx at *
  generalize hdy : y1 - y0 = dy at *
  have w1 : IntKind.i64.wrap (x1 - x) = da := by rw [hda]; exact IntWalk.i64_in _ (by omega)
  have w2 : IntKind.i64.wrap (x - x0) = db := by rw [hdb]; exact IntWalk.i64_in _ (by omega)
  have w3 : IntKind.i64.wrap (y1 - y) = dc := by rw [hdc]; exact IntWalk.i64_in _ (by omega)
  have w4 : IntKind.i64.wrap (y - y0) = dd := by rw [hdd]; exact IntWalk.i64_in _ (by omega)
  have w5 : IntKind.i64.wrap (x1 - x0) = dx := by rw [hdx]; exact IntWalk.i64_in _ (by omega)
  have w6 : IntKind.i64.wrap (y1 - y0) = dy := by rw [hdy]; exact IntWalk.i64_in _ (by omega)
  have m1 := mul_bd (a := da) (u := dc) (A := 10000) (M := 10000) (by omega) (by omega) (by omega) (by omega) (by omega)
  have m2 := mul_bd (a := db) (u := dc) (A := 10000) (M := 10000) (by omega) (by omega) (by omega) (by omega) (by omega)
  have m3 := mul_bd (a := da) (u := dd) (A := 10000) (M := 10000) (by omega) (by omega) (by omega) (by omega) (by omega)
  have m4 := mul_bd (a := db) (u := dd) (A := 10000) (M := 10000) (by omega) (by omega) (by omega) (by omega) (by omega)
  have m5 := mul_bd (a := dx) (u := dy) (A := 10000) (M := 10000) (by omega) (by omega) (by omega) (by omega) (by omega)
  have n1 : 0 ≤ da * dc := Int.mul_nonneg (by omega) (by omega)
  have n2 : 0 ≤ db * dc := Int.mul_nonneg (by omega) (by omega)
  have n3 : 0 ≤ da * dd := Int.mul_nonneg (by omega) (by omega)
  have n4 : 0 ≤ db * dd := Int.mul_nonneg (by omega) (by omega)
  have w7 : IntKind.i64.wrap (da * dc) = da * dc := IntWalk.i64_in _ (by omega)
  have w8 : IntKind.i64.wrap (db * dc) = db * dc := IntWalk.i64_in _ (by omega)
  have w9 : IntKind.i64.wrap (da * dd) = da * dd := IntWalk.i64_in _ (by omega)
  have w10 : IntKind.i64.wrap (db * dd) = db * dd := IntWalk.i64_in _ (by omega)
  have w11 : IntKind.i64.wrap (dx * dy) = dx * dy := IntWalk.i64_in _ (by omega)
  generalize hg_s1 : da * dc = s1 at *
  generalize hg_s2 : db * dc = s2 at *
  generalize hg_s3 : da * dd = s3 at *
  generalize hg_s4 : db * dd = s4 at *
  generalize hg_s5 : dx * dy = s5 at *
  have m6 := mul_bd (a := s1) (u := v00) (A := 100000000) (M := 1000000) (by omega) (by omega) (by omega) (by omega) (by omega)
  have m7 := mul_bd (a := s2) (u := v10) (A := 100000000) (M := 1000000) (by omega) (by omega) (by omega) (by omega) (by omega)
  have m8 := mul_bd (a := s3) (u := v01) (A := 100000000) (M := 1000000) (by omega) (by omega) (by omega) (by omega) (by omega)
  have m9 := mul_bd (a := s4) (u := v11) (A := 100000000) (M := 1000000) (by omega) (by omega) (by omega) (by omega) (by omega)
  have w12 : IntKind.i64.wrap (s1 * v00) = s1 * v00 := IntWalk.i64_in _ (by omega)
  have w13 : IntKind.i64.wrap (s2 * v10) = s2 * v10 := IntWalk.i64_in _ (by omega)
  have w14 : IntKind.i64.wrap (s3 * v01) = s3 * v01 := IntWalk.i64_in _ (by omega)
  have w15 : IntKind.i64.wrap (s4 * v11) = s4 * v11 := IntWalk.i64_in _ (by omega)
  generalize hg_t1 : s1 * v00 = t1 at *
  generalize hg_t2 : s2 * v10 = t2 at *
  generalize hg_t3 : s3 * v01 = t3 at *
  generalize hg_t4 : s4 * v11 = t4 at *
  have w16 : IntKind.i64.wrap (t1 + t2) = t1 + t2 := IntWalk.i64_in _ (by omega)
  have w17 : IntKind.i64.wrap (t1 + t2 + t3) = t1 + t2 + t3 := IntWalk.i64_in _ (by omega)
  have w18 : IntKind.i64.wrap (t1 + t2 + t3 + t4) = t1 + t2 + t3 + t4 := IntWalk.i64_in _ (by omega)
  clear m1 m2 m3 m4 m5 m6 m7 m8 m9 n1 n2 n3 n4 a1 a2 a3 a4 a5 a6 a7 a8 b1 b2 b3 b4 b5 b6 b7 b8 hda hdb hdc hdd hdx hdy sd1 sd2 slo shi td1 td2 tlo thi
  go_enter Try.func94, Try.ntmps94
  go_upto_region 1 with fail
  go_quiet (first
    | (go_at_call_of 110 (Value.int .i64 x); exact quiet_left (HXP.out _ (RI.drewN (HTX.out.below (by go_grown)) _)))
    | (go_at_call_of 110 (Value.int .i64 y); exact quiet_left (HYP.out _ (RI.drewN (HTY.out.below (by go_grown)) _))))
  go_wp2_with fail
  go_quiet (fail)
  go_wp2_with fail
  go_quiet (fail)
  go_wp2_with fail
  go_quiet (fail)
  go_wp2
  go_ret2
  exact ⟨rfl, below_drewN (below_drewN ((Below.refl _ _).alloc (Nat.le_refl _) _) _) _⟩

end Go.Proofs.Ytjdahphnmeaolaa

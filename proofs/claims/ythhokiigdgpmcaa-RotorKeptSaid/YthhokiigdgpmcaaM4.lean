/- Contracts of the functions that the statement reaches: Rct, AtS, Guard, Rbound, Knot. -/
import Derived.Test.YthhokiigdgpmcaaM2
import Derived.Test.YthhokiigdgpmcaaM3
import Derived.Test.YthhokiigdgpmcaaM1

/- The reference's knots and CheckTable. -/
namespace Go.Proofs.Ythhokiigdgpmcaa
open Go.RowKit

theorem from_yes {a b c : Int} (h1 : b ≤ a) (h2 : a ≤ c) (w : World) : Calls Try.prog 103 #[.int .i64 a, .int .i64 b, .int .i64 c] w fun e w' => e = .returned (.bool true) ∧ w = w' := by
  have := from_any a b c w
  rwa [show (decide (b ≤ a) && decide (a ≤ c)) = true by simp [h1, h2]] at this
theorem from_no {a b c : Int} (h : ¬ (b ≤ a ∧ a ≤ c)) (w : World) : Calls Try.prog 103 #[.int .i64 a, .int .i64 b, .int .i64 c] w fun e w' => e = .returned (.bool false) ∧ w = w' := by
  have := from_any a b c w
  rwa [show (decide (b ≤ a) && decide (a ≤ c)) = false by simp; omega] at this

theorem axB_bad1 {X : List Int} {k : Nat} {x : Int} (hx : X[k]? = some x) (h : ¬ (-1000000 ≤ x ∧ x ≤ 1000000)) : axB X = false := by
  unfold axB
  rw [wB_bad hx (by omega)]
  simp
theorem axB_bad2 {X : List Int} {k : Nat} {x y : Int} (hx : X[k + 1]? = some x) (hy : X[k]? = some y) (h : ¬ (1 ≤ x - y ∧ x - y ≤ 10000)) : axB X = false := by
  unfold axB
  have hk : k + 1 < X.length := (List.getElem?_eq_some_iff.1 hx).1
  have : stN X (X.length - 1) = false := stN_bad (m := k) (by omega) (by rw [hx, hy]; simp; omega)
  rw [this]
  simp
theorem axB_good {X : List Int} (h1 : 2 ≤ X.length) (h2 : X.length ≤ 12) (h3 : wB (-1000000) 1000000 X = true) (h4 : stN X (X.length - 1) = true) : axB X = true := by
  unfold axB
  simp [h1, h2, h3, h4]

set_option maxRecDepth 100000 in
theorem knots_any (A : Option Addr) (n c B : Nat) (X : List Int) (w : World) (hx : X.length = n) (hn : n ≤ maxLen) (hB : B ≤ w.heap.size) (h : RI w B A X) :
    Calls Try.prog 126 #[.slice A n c] w fun e w' => e = .returned (.bool (axB X)) ∧ Below w.heap.size w w' := by
  subst hx
  unfold maxLen at hn
  by_cases h1 : 2 ≤ X.length ∧ X.length ≤ 12
  · obtain ⟨h1, h2⟩ := h1
    have HF := Lib.hid (from_yes (a := (X.length : Int)) (b := 2) (c := 12) (by omega) (by omega))
    have HL := Lib.hid (And.intro h1 h2)
    have HI := Lib.hid h
    clear h1 h2 h
    go_enter Try.func126, Try.ntmps126
    go_wp2_with (go_at_call 103; refine Calls.mono (HF.out _) ?_; rintro e w1 ⟨rfl, rfl⟩)
    go_loopw [3] (fun i wr => ∃ k : Nat, k ≤ X.length ∧ i = .int .i64 k ∧ wB (-1000000) 1000000 (X.take k) = true ∧ stN X (k - 1) = true ∧ Below w.heap.size w wr) (fun i _ => X.length - (intOf i).toNat)
    case atStart => exact ⟨0, by omega, rfl, by simp [wB], by simp [stN], by go_grown⟩
    case round =>
      obtain ⟨k, hk, rfl, hw, hs, hbw⟩ := hrel
      have HBW := Lib.hid hbw
      have HJ := Lib.hid ((HI.out.more hB).below hbw)
      have HW := Lib.hid (And.intro hw hs)
      clear hw hs
      by_cases hlt : k < X.length
      · obtain ⟨b, off, x, rfl, hb, hx, hc⟩ := HJ.out.at_ hlt
        clear hbw
        have HX := Lib.hid hx
        have hk0 : (k : Int) < X.length := by omega
        by_cases g1 : -1000000 ≤ x ∧ x ≤ 1000000
        · have HF1 := Lib.hid (from_yes (a := x) (b := -1000000) (c := 1000000) g1.1 g1.2)
          cases k with
          | zero =>
            simp only [Nat.add_zero] at hc
            clear hx
            go_upto_region 6 with fail
            go_quiet ((go_at_call 103; exact quiet_left (HF1.out _)))
            go_wp2
            go_roundw
            case rel => exact ⟨1, by omega, by go_num, by rw [wB_step HX.out]; simp [wB, g1.1, g1.2], by simp [stN], below_drewN HBW.out _⟩
            case measure => simp [intOf]; omega
          | succ k =>
            obtain ⟨b', off', y, hA, hb', hy, hc2⟩ := HJ.out.at_ (k := k) (by omega)
            obtain ⟨rfl, rfl⟩ : b = b' ∧ off = off' := by simpa using hA
            have HY := Lib.hid hy
            have hyb := wB_mem HW.out.1 (show (X.take (k + 1))[k]? = some y by rw [List.getElem?_take_of_lt (by omega)]; exact hy)
            obtain ⟨y1, y2⟩ := hyb
            obtain ⟨x1, x2⟩ := g1
            have i1 : ((k + 1 : Nat) : Int) - 1 = k := by omega
            have i2 : IntKind.i64.wrap (((k + 1 : Nat) : Int) - 1) = k := by rw [IntWalk.i64_in _ (by omega)]; omega
            have i3 : IntKind.i64.wrap (x - y) = x - y := IntWalk.i64_in _ (by omega)
            have i4 : (0 : Int) < ((k + 1 : Nat) : Int) := by omega
            have i5 : (k : Int) < X.length := by omega
            have i6 : (0 : Int) ≤ (k : Int) := by omega
            have i7 : (k : Int) + 1 - 1 = k := by omega
            have i8 : IntKind.i64.wrap (k : Int) = k := IntWalk.i64_in _ (by omega)
            have i9 : ((k : Int) + 1).toNat = k + 1 := by omega
            have i10 : (0 : Int) ≤ (k : Int) + 1 := by omega
            have i11 : (0 : Int) < (k : Int) + 1 := by omega
            have i12 : (k : Int) + 1 < X.length := by omega
            clear hx hy hA
            by_cases g2 : 1 ≤ x - y ∧ x - y ≤ 10000
            · have HF2 := Lib.hid (from_yes (a := x - y) (b := 1) (c := 10000) g2.1 g2.2)
              go_upto_region 6 with fail
              go_quiet (first
                | (go_at_call_of 103 (Value.int .i64 10000); exact quiet_left (HF2.out _))
                | (go_at_call 103; exact quiet_left (HF1.out _)))
              go_wp2
              go_roundw
              case rel => exact ⟨k + 1 + 1, by omega, by go_num, by rw [wB_step HX.out, HW.out.1]; simp [x1, x2], by have hs := HW.out.2; simp only [Nat.add_sub_cancel] at hs; show stN X (k + 1) = true; rw [stN_step, hs, HX.out, HY.out]; simp [g2.1, g2.2], below_drewN HBW.out _⟩
              case measure => simp [intOf]; omega
            · have HF2 := Lib.hid (from_no (a := x - y) (b := 1) (c := 10000) g2)
              have G2 := Lib.hid g2
              clear g2
              go_upto_region 6 with fail
              go_quiet (first
                | (go_at_call_of 103 (Value.int .i64 10000); exact quiet_left (HF2.out _))
                | (go_at_call 103; exact quiet_left (HF1.out _)))
              go_wp2
              go_ret
              exact ⟨ret_bool (axB_bad2 HX.out HY.out G2.out).symm, below_drewN HBW.out _⟩
        · have HF1 := Lib.hid (from_no (a := x) (b := -1000000) (c := 1000000) g1)
          have G1 := Lib.hid g1
          clear g1 hx
          go_upto_region 6 with fail
          go_quiet ((go_at_call 103; exact quiet_left (HF1.out _)))
          go_wp2
          go_ret
          exact ⟨ret_bool (axB_bad1 HX.out G1.out).symm, below_drewN HBW.out _⟩
      · obtain rfl : k = X.length := by omega
        go_wp2
        go_ret
        exact ⟨ret_bool (axB_good HL.out.1 HL.out.2 (by have := HW.out.1; rwa [List.take_of_length_le (by omega)] at this) HW.out.2).symm, HBW.out⟩
  · have HF := Lib.hid (from_no (a := (X.length : Int)) (b := 2) (c := 12) (by omega))
    have e1 : axB X = false := by unfold axB; simp; omega
    rw [e1]
    clear h1 e1
    go_enter Try.func126, Try.ntmps126
    go_wp2_with (go_at_call 103; refine Calls.mono (HF.out _) ?_; rintro e w1 ⟨rfl, rfl⟩)
    go_ret
    exact ⟨rfl, by go_grown⟩

set_option maxRecDepth 100000 in
set_option maxHeartbeats 1000000 in
theorem rct_any (AX AY AV : Option Addr) (nx cx ny cy nv cv B : Nat) (X Y : List Int) (V : List (List Int)) (w : World) (hx : X.length = nx) (hy : Y.length = ny) (hv : V.length = nv) (hnx : nx ≤ maxLen) (hny : ny ≤ maxLen) (hnv : nv ≤ maxLen) (hnr : ∀ r ∈ V, r.length ≤ maxLen)
    (hB : B ≤ w.heap.size) (h : TB w B AX AY AV X Y V) :
    Calls Try.prog 109 #[.agg #[.slice AX nx cx, .slice AY ny cy, .slice AV nv cv]] w fun e w' => e = .returned (.int .i64 (ctE X Y V)) ∧ Below w.heap.size w w' := by
  subst hx hy hv
  unfold maxLen at hnr
  cases h1 : axB X with
  | false =>
    rw [ctE_no (by unfold ctB; simp [h1])]
    have H1 := Lib.hid h1
    clear h1
    go_enter Try.func109, Try.ntmps109
    go_wp2_with (go_at_call 126; refine Calls.mono (knots_any AX _ _ B X _ rfl hnx (by simp; omega) (h.x.below (by go_grown))) ?_; rintro e w1 ⟨rfl, hb1⟩; rw [H1.out])
    go_ret
    exact ⟨rfl, Below.trans (by go_grown) (hb1.mono (by simp))⟩
  | true =>
  cases h2 : axB Y with
  | false =>
    rw [ctE_no (by unfold ctB; simp [h2])]
    have H1 := Lib.hid h1
    have H2 := Lib.hid h2
    clear h1 h2
    go_enter Try.func109, Try.ntmps109
    go_wp2_with (first
      | (go_at_call_of 126 (Value.slice AX X.length cx); refine Calls.mono (knots_any AX _ _ B X _ rfl hnx (by simp; omega) (h.x.below (by go_grown))) ?_; rintro e w1 ⟨rfl, hb1⟩; rw [H1.out]; obtain ⟨hc1, hf1⟩ := bcell hb1; have hB1 := hb1.size; simp at hB1; have hz1 : w.heap.size < w1.heap.size := by omega)
      | (go_at_call_of 126 (Value.slice AY Y.length cy); refine Calls.mono (knots_any AY _ _ B Y _ rfl hny (by omega) ((h.y.below (by go_grown)).below (hb1.mono (by simp; omega)))) ?_; rintro e w2 ⟨rfl, hb2⟩; rw [H2.out]))
    go_ret
    exact ⟨rfl, (Below.trans (by go_grown) (hb1.mono (by simp))).trans (hb2.mono (by omega))⟩
  | true =>
  by_cases h3 : V.length = X.length
  · have h3' : ((V.length : Int) != (X.length : Int)) = false := by rw [bne_eq_false_iff_eq]; omega
    have H3 := Lib.hid h3
    have H1 := Lib.hid h1
    have H2 := Lib.hid h2
    clear h3 h1 h2
    have hnv' := hnv
    unfold maxLen at hnv'
    go_enter Try.func109, Try.ntmps109
    go_wp2_with (first
      | (go_at_call_of 126 (Value.slice AX X.length cx); refine Calls.mono (knots_any AX _ _ B X _ rfl hnx (by simp; omega) (h.x.below (by go_grown))) ?_; rintro e w1 ⟨rfl, hb1⟩; rw [H1.out]; obtain ⟨hc1, hf1⟩ := bcell hb1; have hB1 := hb1.size; simp at hB1; have hz1 : w.heap.size < w1.heap.size := by omega)
      | (go_at_call_of 126 (Value.slice AY Y.length cy); refine Calls.mono (knots_any AY _ _ B Y _ rfl hny (by omega) ((h.y.below (by go_grown)).below (hb1.mono (by simp; omega)))) ?_; rintro e w2 ⟨rfl, hb2⟩; rw [H2.out]; obtain ⟨hc2, hf2⟩ := bcell hb2; have hB2 := hb2.size; have hz2 : w.heap.size < w2.heap.size := by omega))
    have hbw : Below w.heap.size w w2 := (Below.trans (by go_grown) (hb1.mono (by simp))).trans (hb2.mono (by omega))
    have hbox1 : w2.cell? ⟨w.heap.size, 1, none⟩ = some (.slice AY Y.length cy) := by rw [hc2 _ _ hz1, hc1 _ _ (by simp)]; rw [cell_newest]; rfl
    have hbox2 : w2.cell? ⟨w.heap.size, 2, none⟩ = some (.slice AV V.length cv) := by rw [hc2 _ _ hz1, hc1 _ _ (by simp)]; rw [cell_newest]; rfl
    have HV := Lib.hid (h.v.below (hbw.mono hB))
    have HBW := Lib.hid hbw
    clear hc1 hf1 hc2 hf2 hb1 hb2 h h3' hbw hB1 hB2 hz1
    go_loopw [3] (fun i wr => ∃ k : Nat, k ≤ V.length ∧ i = .int .i64 k ∧ rowsB Y.length (V.take k) = true ∧ Below w2.heap.size w2 wr) (fun i _ => V.length - (intOf i).toNat)
    case atStart => exact ⟨0, by omega, rfl, by simp [rowsB], Below.refl _ _⟩
    case round =>
      obtain ⟨k, hk, rfl, hw, hwr⟩ := hrel
      have c1 : wr.cell? ⟨w.heap.size, 1, none⟩ = some (.slice AY Y.length cy) := cell_keep hwr hbox1
      have c2 : wr.cell? ⟨w.heap.size, 2, none⟩ = some (.slice AV V.length cv) := cell_keep hwr hbox2
      have hV : RR wr B AV V := HV.out.below (hwr.mono (by have := HBW.out.size; omega))
      have HWR := Lib.hid hwr
      have HW := Lib.hid hw
      clear hw hwr
      by_cases hlt : k < V.length
      · obtain ⟨b, off, r, A', c', rfl, hb, hr, hc, hri⟩ := hV.at_ hlt
        have hrl := hnr r (List.mem_of_getElem? hr)
        have HR := Lib.hid hr
        have HRI := Lib.hid hri
        have hk0 : (k : Int) < V.length := by omega
        clear hr hri hV
        by_cases g1 : r.length = Y.length
        · have g1' : ((r.length : Int) != (Y.length : Int)) = false := by rw [bne_eq_false_iff_eq]; omega
          have G1 := Lib.hid g1
          clear g1
          go_upto_region 6 with fail
          go_quiet (fail)
          generalize hwq : wr.drewN nq = wq
          have d1 : wq.cell? ⟨w.heap.size, 1, none⟩ = some (.slice AY Y.length cy) := by rw [← hwq]; exact c1
          have d2 : wq.cell? ⟨w.heap.size, 2, none⟩ = some (.slice (some ⟨b, off, none⟩) V.length cv) := by rw [← hwq]; exact c2
          have dc : wq.cell? ⟨b, off + k, none⟩ = some (.slice A' r.length c') := by rw [← hwq]; exact hc
          have HRQ := Lib.hid (show RI wq B A' r by rw [← hwq]; exact HRI.out)
          have HWQ := Lib.hid (show Below w2.heap.size w2 wq by rw [← hwq]; exact below_drewN HWR.out nq)
          clear hwq c1 c2 hc
          go_wp2_with fail
          go_loopw [4] (fun i wr => ∃ j : Nat, j ≤ r.length ∧ i = .int .i64 j ∧ wB (-1000000) 1000000 (r.take j) = true ∧ wr = wq) (fun i _ => r.length - (intOf i).toNat)
          case atStart => exact ⟨0, by omega, rfl, by simp [wB], rfl⟩
          case round =>
            obtain ⟨j, hj, rfl, hwb, rfl⟩ := hrel
            have HWB := Lib.hid hwb
            clear hwb
            by_cases hjt : j < r.length
            · obtain ⟨b2, off2, x, rfl, hb2, hx, hcx⟩ := HRQ.out.at_ hjt
              have HX := Lib.hid hx
              have hj0 : (j : Int) < r.length := by omega
              clear hx
              by_cases g2 : -1000000 ≤ x ∧ x ≤ 1000000
              · have HF := Lib.hid (from_yes (a := x) (b := -1000000) (c := 1000000) g2.1 g2.2)
                obtain ⟨x1, x2⟩ := g2
                go_wp2_with (go_at_call 103; refine Calls.mono (HF.out _) ?_; rintro e w9 ⟨rfl, rfl⟩)
                go_roundw
                case rel => exact ⟨j + 1, by omega, by go_num, by rw [wB_step HX.out, HWB.out]; simp [x1, x2], by first | rfl | trivial⟩
                case measure => simp [intOf]; omega
              · have HF := Lib.hid (from_no (a := x) (b := -1000000) (c := 1000000) g2)
                have G2 := Lib.hid g2
                clear g2
                go_wp2_with (go_at_call 103; refine Calls.mono (HF.out _) ?_; rintro e w9 ⟨rfl, rfl⟩)
                go_ret
                exact ⟨ret_int (ctE_no (by unfold ctB; rw [rowsB_bad HR.out (n := Y.length) (by rw [wB_bad HX.out (by have := G2.out; omega)]; simp)]; simp)).symm, HBW.out.trans (HWQ.out.mono HBW.out.size)⟩
            · obtain rfl : j = r.length := by omega
              go_wp2_with fail
              go_roundw
              case rel => exact ⟨k + 1, by omega, by go_num, by have hwb := HWB.out; rw [List.take_of_length_le (by omega)] at hwb; rw [rowsB_step HR.out, HW.out, hwb, G1.out]; simp, HWQ.out⟩
              case measure => simp [intOf]; omega
        · have g1' : ((r.length : Int) != (Y.length : Int)) = true := by rw [bne_iff_ne]; omega
          have G1 := Lib.hid g1
          clear g1
          go_upto_region 6 with fail
          go_quiet (fail)
          go_wp2
          go_ret
          exact ⟨ret_int (ctE_no (by unfold ctB; rw [rowsB_bad HR.out (n := Y.length) (by simp [G1.out])]; simp)).symm, HBW.out.trans ((below_drewN HWR.out nq).mono HBW.out.size)⟩
      · obtain rfl : k = V.length := by omega
        go_wp2_with fail
        go_ret
        exact ⟨ret_int (ctE_yes (by have hw := HW.out; rw [List.take_of_length_le (by omega)] at hw; unfold ctB; simp [H1.out, H2.out, H3.out, hw])).symm, HBW.out.trans (HWR.out.mono HBW.out.size)⟩
  · rw [ctE_no (by unfold ctB; simp [h3])]
    have h3' : ((V.length : Int) != (X.length : Int)) = true := by rw [bne_iff_ne]; omega
    have H1 := Lib.hid h1
    have H2 := Lib.hid h2
    clear h1 h2 h3
    go_enter Try.func109, Try.ntmps109
    go_wp2_with (first
      | (go_at_call_of 126 (Value.slice AX X.length cx); refine Calls.mono (knots_any AX _ _ B X _ rfl hnx (by simp; omega) (h.x.below (by go_grown))) ?_; rintro e w1 ⟨rfl, hb1⟩; rw [H1.out]; obtain ⟨hc1, hf1⟩ := bcell hb1; have hB1 := hb1.size; simp at hB1; have hz1 : w.heap.size < w1.heap.size := by omega)
      | (go_at_call_of 126 (Value.slice AY Y.length cy); refine Calls.mono (knots_any AY _ _ B Y _ rfl hny (by omega) ((h.y.below (by go_grown)).below (hb1.mono (by simp; omega)))) ?_; rintro e w2 ⟨rfl, hb2⟩; rw [H2.out]; obtain ⟨hc2, hf2⟩ := bcell hb2; have hB2 := hb2.size; have hz2 : w.heap.size < w2.heap.size := by omega))
    go_ret
    exact ⟨rfl, (Below.trans (by go_grown) (hb1.mono (by simp))).trans (hb2.mono (by omega))⟩

end Go.Proofs.Ythhokiigdgpmcaa

/- At of both sides. -/
namespace Go.Proofs.Ythhokiigdgpmcaa
open Go.RowKit

def atS (X Y : List Int) (V : List (List Int)) (x y : Int) : (Int × Int) × Int :=
  if ctB X Y V then (if onB X [x] && onB Y [y] then ((fl (atN X Y V x y) (atD X Y x y), cl (atN X Y V x y) (atD X Y x y)), 0) else ((0, 0), 1)) else ((0, 0), 11)
theorem onB_on {X : List Int} {x : Int} : onB X [x] = true ↔ On X x := by
  unfold onB On wB gz
  simp
theorem btB_on (X : List Int) (x : Int) : btB X x x = onB X [x] := by
  unfold onB btB wB gz
  simp

/-- The table's box and the result's. -/
structure Two (w W : World) (AX : Option Addr) (nx cx : Nat) (AY : Option Addr) (ny cy : Nat) (AV : Option Addr) (nv cv : Nat) : Prop where
  k0 : W.cell? ⟨w.heap.size, 0, none⟩ = some (.slice AX nx cx)
  k1 : W.cell? ⟨w.heap.size, 1, none⟩ = some (.slice AY ny cy)
  k2 : W.cell? ⟨w.heap.size, 2, none⟩ = some (.slice AV nv cv)
  k3 : W.cell? ⟨w.heap.size + 1, 0, none⟩ = some (.int .i64 0)
  k4 : W.cell? ⟨w.heap.size + 1, 1, none⟩ = some (.int .i64 0)
  k5 : W.frozen? ⟨w.heap.size + 1, 0, none⟩ = false
  k6 : W.frozen? ⟨w.heap.size + 1, 1, none⟩ = false
  l : w.heap.size + 1 < W.heap.size
  b : Below w.heap.size w W
theorem Two.next {w W W' : World} {AX AY AV : Option Addr} {nx cx ny cy nv cv : Nat} (h : Two w W AX nx cx AY ny cy AV nv cv) (hb : Below W.heap.size W W') : Two w W' AX nx cx AY ny cy AV nv cv :=
  ⟨cell_keep hb h.k0, cell_keep hb h.k1, cell_keep hb h.k2, cell_keep hb h.k3, cell_keep hb h.k4, (hb.frozen (p := ⟨w.heap.size + 1, 0, none⟩) h.l).trans h.k5, (hb.frozen (p := ⟨w.heap.size + 1, 1, none⟩) h.l).trans h.k6,
    Nat.lt_of_lt_of_le h.l hb.size, h.b.trans (hb.mono h.b.size)⟩
theorem Two.start (w : World) (AX AY AV : Option Addr) (nx cx ny cy nv cv : Nat) (T T' : TypeId) : Two w ((w.alloc (.cells #[.slice AX nx cx, .slice AY ny cy, .slice AV nv cv] T)).alloc (.cells #[.int .i64 0, .int .i64 0] T')) AX nx cx AY ny cy AV nv cv :=
  ⟨by go_simp, by go_simp, by go_simp, by go_simp, by go_simp, by go_simp, by go_simp, by simp, by go_grown⟩
/-- The result's box, written. -/
theorem Two.res {w W : World} {AX AY AV : Option Addr} {nx cx ny cy nv cv : Nat} (h : Two w W AX nx cx AY ny cy AV nv cv) :
    (∀ v, (W.setCell ⟨w.heap.size + 1, 0, none⟩ v).cell? ⟨w.heap.size + 1, 0, none⟩ = some v) ∧ (∀ v u, ((W.setCell ⟨w.heap.size + 1, 0, none⟩ v).setCell ⟨w.heap.size + 1, 1, none⟩ u).cell? ⟨w.heap.size + 1, 1, none⟩ = some u) ∧
    ∀ v u, Below w.heap.size w ((W.setCell ⟨w.heap.size + 1, 0, none⟩ v).setCell ⟨w.heap.size + 1, 1, none⟩ u) :=
  ⟨fun v => World.cell?_setCell_same' _ _ _ (by rw [h.k3]; rfl), fun v u => World.cell?_setCell_same' _ _ _ (by rw [World.cell?_setCell_other _ _ _ _ (by simp), h.k4]; rfl),
    fun v u => (h.b.setCell (by simp) _).setCell (by simp) _⟩

theorem Two.next2 {w W W' : World} {AX AY AV : Option Addr} {nx cx ny cy nv cv : Nat} {o : Obj} (h : Two w W AX nx cx AY ny cy AV nv cv) (hb : Below (W.alloc o).heap.size (W.alloc o) W') : Two w W' AX nx cx AY ny cy AV nv cv :=
  (h.next ((Below.refl _ _).alloc (Nat.le_refl _) o)).next hb

theorem rfloor_wide (a b : Int) (w : World) (h1 : 1 ≤ b) (h2 : b ≤ 1000000000) (h3 : -1000000000000000 ≤ a) (h4 : a ≤ 1000000000000000) :
    Calls Try.prog 118 #[.int .i64 a, .int .i64 b] w fun e w' => e = .returned (.int .i64 (fl a b)) ∧ w = w' := by
  have hd := tdiv_bd (b := b) (a := a) (M := 1000000000000000) h3 h4
  have hd2 := tdiv_bd (b := b) (a := -a + b - 1) (M := 2000000000000000) (by omega) (by omega)
  by_cases h : 0 ≤ a
  · go_enter Try.func118, Try.ntmps118
    go_wp2
    go_ret
    exact ⟨ret_int (by unfold fl; exact Int.tdiv_eq_ediv_of_nonneg h), rfl⟩
  · go_enter Try.func118, Try.ntmps118
    go_wp2
    go_ret
    exact ⟨ret_int (rfl_neg h1 (by omega)), rfl⟩

theorem rceil_wide (a b : Int) (w : World) (h1 : 1 ≤ b) (h2 : b ≤ 1000000000) (h3 : -1000000000000000 ≤ a) (h4 : a ≤ 1000000000000000) :
    Calls Try.prog 119 #[.int .i64 a, .int .i64 b] w fun e w' => e = .returned (.int .i64 (cl a b)) ∧ w = w' := by
  have hd := fl_bd (a := -a) h1 (M := 1000000000000000) (by omega) (by omega)
  go_enter Try.func119, Try.ntmps119
  go_wp2_with (go_at_call 118; refine (rfloor_wide _ _ _ h1 h2 (by omega) (by omega)).mono ?_; rintro e w' ⟨rfl, rfl⟩)
  go_ret
  exact ⟨rfl, rfl⟩

set_option maxRecDepth 100000 in
set_option maxHeartbeats 4000000 in
theorem at_s (AX AY AV : Option Addr) (nx cx ny cy nv cv B : Nat) (X Y : List Int) (V : List (List Int)) (x y : Int) (w : World) (hx : X.length = nx) (hy : Y.length = ny) (hv : V.length = nv) (hnx : nx ≤ maxLen) (hny : ny ≤ maxLen) (hnv : nv ≤ maxLen) (hnr : ∀ r ∈ V, r.length ≤ maxLen)
    (hB : B ≤ w.heap.size) (h : TB w B AX AY AV X Y V) :
    Calls Try.prog 47 #[.agg #[.slice AX nx cx, .slice AY ny cy, .slice AV nv cv], .int .i64 x, .int .i64 y] w fun e w' =>
      e = .returned (.tuple #[.agg #[.int .i64 (atS X Y V x y).1.1, .int .i64 (atS X Y V x y).1.2], .int .i64 (atS X Y V x y).2]) ∧ Below w.heap.size w w' := by
  subst hx hy hv
  have HT := Lib.hid h
  have HCT := Lib.hid (fun (W : World) (hW : Below w.heap.size w W) => checkTable_any AX AY AV _ cx _ cy _ cv B X Y V W rfl rfl rfl hnx hny hnv hnr (by have := hW.size; omega) (h.below (hW.mono hB)))
  have S0 := Two.start w AX AY AV X.length cx Y.length cy V.length cv 25 34
  have HS0 := Lib.hid S0
  clear h S0
  cases hct : ctB X Y V with
  | false =>
    rw [show atS X Y V x y = ((0, 0), 11) by unfold atS; rw [hct]; rfl]
    have HE := Lib.hid (ctE_no hct)
    clear hct
    go_enter Try.func47, Try.ntmps47
    go_wp2_with (go_at_call 104; refine Calls.mono (HCT.out _ (by go_grown)) ?_; rintro e w1 ⟨rfl, hb1⟩; rw [HE.out]; have S1 := HS0.out.next hb1; obtain ⟨k0, k1, k2, k3, k4, k5, k6, l1, _⟩ := S1; have S1 := HS0.out.next hb1; have HS1 := Lib.hid S1; clear S1 hb1)
    obtain ⟨z1, z2, z3⟩ := HS1.out.res
    refine bodyPost_ret (v := .tuple #[.agg #[.int .i64 0, .int .i64 0], .int .i64 11]) (by simp [results, Try.results47, go_sem, z1, z2]) rfl ?_
    exact ⟨rfl, z3 _ _⟩
  | true =>
  obtain ⟨ha, hb, hlv, hrw⟩ := ctB_get hct
  obtain ⟨q1, q2, _, _⟩ := axB_get ha
  obtain ⟨p1, p2, _, _⟩ := axB_get hb
  have HE := Lib.hid (ctE_yes hct)
  have HOX := Lib.hid (fun (W : World) (hW : Below w.heap.size w W) (g : Nat) (T : TypeId) (hg : g = W.heap.size) => hg ▸ (onAxis_any AX (some ⟨W.heap.size, 0, none⟩) _ cx 1 1 B _ X [x] (W.alloc (.cells #[.int .i64 x] T)) rfl hnx q1 rfl (le_maxLen (by omega)) ((HT.out.x.below (hW.mono hB)).below ((Below.refl _ _).alloc (by have := hW.size; omega) _)) (RI.new1 rfl)))
  have HOY := Lib.hid (fun (W : World) (hW : Below w.heap.size w W) (g : Nat) (T : TypeId) (hg : g = W.heap.size) => hg ▸ (onAxis_any AY (some ⟨W.heap.size, 0, none⟩) _ cy 1 1 B _ Y [y] (W.alloc (.cells #[.int .i64 y] T)) rfl hny p1 rfl (le_maxLen (by omega)) ((HT.out.y.below (hW.mono hB)).below ((Below.refl _ _).alloc (by have := hW.size; omega) _)) (RI.new1 rfl)))
  cases hX : onB X [x] with
  | false =>
    rw [show atS X Y V x y = ((0, 0), 1) by unfold atS; rw [hct, hX]; rfl]
    have HX := Lib.hid hX
    clear hct hX ha hb hlv hrw q1 q2 p1 p2
    go_enter Try.func47, Try.ntmps47
    go_wp2_with (first
      | (go_at_call 104; refine Calls.mono (HCT.out _ (by go_grown)) ?_; rintro e w1 ⟨rfl, hb1⟩; rw [HE.out]; have S1 := HS0.out.next hb1; obtain ⟨k0, k1, k2, k3, k4, k5, k6, l1, _⟩ := S1; have S1 := HS0.out.next hb1; have HS1 := Lib.hid S1; clear S1 hb1)
      | (go_at_call_of 105 (Value.slice AX X.length cx); refine Calls.mono (HOX.out _ HS1.out.b _ _ rfl) ?_; rintro e w2 ⟨rfl, hb2⟩; rw [HX.out]; have S2 := HS1.out.next2 hb2; obtain ⟨m0, m1, m2, m3, m4, m5, m6, l2, _⟩ := S2; have S2 := HS1.out.next2 hb2; have HS2 := Lib.hid S2; clear S2 hb2))
    obtain ⟨z1, z2, z3⟩ := HS2.out.res
    refine bodyPost_ret (v := .tuple #[.agg #[.int .i64 0, .int .i64 0], .int .i64 1]) (by simp [results, Try.results47, go_sem, z1, z2]) rfl ?_
    exact ⟨rfl, z3 _ _⟩
  | true =>
  cases hY : onB Y [y] with
  | false =>
    rw [show atS X Y V x y = ((0, 0), 1) by unfold atS; rw [hct, hX, hY]; rfl]
    have HX := Lib.hid hX
    have HY := Lib.hid hY
    clear hct hX hY ha hb hlv hrw q1 q2 p1 p2
    go_enter Try.func47, Try.ntmps47
    go_wp2_with (first
      | (go_at_call 104; refine Calls.mono (HCT.out _ (by go_grown)) ?_; rintro e w1 ⟨rfl, hb1⟩; rw [HE.out]; have S1 := HS0.out.next hb1; obtain ⟨k0, k1, k2, k3, k4, k5, k6, l1, _⟩ := S1; have S1 := HS0.out.next hb1; have HS1 := Lib.hid S1; clear S1 hb1)
      | (go_at_call_of 105 (Value.slice AX X.length cx); refine Calls.mono (HOX.out _ HS1.out.b _ _ rfl) ?_; rintro e w2 ⟨rfl, hb2⟩; rw [HX.out]; have S2 := HS1.out.next2 hb2; obtain ⟨m0, m1, m2, m3, m4, m5, m6, l2, _⟩ := S2; have S2 := HS1.out.next2 hb2; have HS2 := Lib.hid S2; clear S2 hb2)
      | (go_at_call_of 105 (Value.slice AY Y.length cy); refine Calls.mono (HOY.out _ HS2.out.b _ _ rfl) ?_; rintro e w3 ⟨rfl, hb3⟩; rw [HY.out]; have S3 := HS2.out.next2 hb3; obtain ⟨n0, n1, n2, n3, n4, n5, n6, l3, _⟩ := S3; have S3 := HS2.out.next2 hb3; have HS3 := Lib.hid S3; clear S3 hb3))
    obtain ⟨z1, z2, z3⟩ := HS3.out.res
    refine bodyPost_ret (v := .tuple #[.agg #[.int .i64 0, .int .i64 0], .int .i64 1]) (by simp [results, Try.results47, go_sem, z1, z2]) rfl ?_
    exact ⟨rfl, z3 _ _⟩
  | true =>
    rw [show atS X Y V x y = ((fl (atN X Y V x y) (atD X Y x y), cl (atN X Y V x y) (atD X Y x y)), 0) by unfold atS; rw [hct, hX, hY]; rfl]
    have HX := Lib.hid hX
    have HY := Lib.hid hY
    have hoX := onB_on.1 hX
    have hoY := onB_on.1 hY
    obtain ⟨d1, d2⟩ := atD_bd ha hb hoX hoY
    obtain ⟨e1, e2⟩ := atN_bd hct hoX hoY
    have HA := Lib.hid (fun (W : World) (hW : Below w.heap.size w W) => at_any AX AY AV _ cx _ cy _ cv B X Y V x y W rfl rfl rfl (by have := hW.size; omega) (HT.out.below (hW.mono hB)) hct hoX hoY)
    clear hct hX hY ha hb hlv hrw q1 q2 p1 p2 hoX hoY
    generalize atN X Y V x y = N at *
    generalize atD X Y x y = D at *
    have e3 : -100000000000000 ≤ N := by omega
    have e4 : N ≤ 100000000000000 := by omega
    clear e1 e2
    go_enter Try.func47, Try.ntmps47
    go_upto_region 7 with (first
      | (go_at_call 104; refine Calls.mono (HCT.out _ (by go_grown)) ?_; rintro e w1 ⟨rfl, hb1⟩; rw [HE.out]; have S1 := HS0.out.next hb1; obtain ⟨k0, k1, k2, k3, k4, k5, k6, l1, _⟩ := S1; have S1 := HS0.out.next hb1; have HS1 := Lib.hid S1; clear S1 hb1)
      | (go_at_call_of 105 (Value.slice AX X.length cx); refine Calls.mono (HOX.out _ HS1.out.b _ _ rfl) ?_; rintro e w2 ⟨rfl, hb2⟩; rw [HX.out]; have S2 := HS1.out.next2 hb2; obtain ⟨m0, m1, m2, m3, m4, m5, m6, l2, _⟩ := S2; have S2 := HS1.out.next2 hb2; have HS2 := Lib.hid S2; clear S2 hb2)
      | (go_at_call_of 105 (Value.slice AY Y.length cy); refine Calls.mono (HOY.out _ HS2.out.b _ _ rfl) ?_; rintro e w3 ⟨rfl, hb3⟩; rw [HY.out]; have S3 := HS2.out.next2 hb3; obtain ⟨n0, n1, n2, n3, n4, n5, n6, l3, _⟩ := S3; have S3 := HS2.out.next2 hb3; have HS3 := Lib.hid S3; clear S3 hb3)
      | (go_at_call 106; refine Calls.mono (HA.out _ HS3.out.b) ?_; rintro e w4 ⟨rfl, hb4⟩; have S4 := HS3.out.next hb4; have HS4 := Lib.hid S4; clear S4 hb4))
    have S5 := HS4.out.next ((Below.refl _ _).alloc (Nat.le_refl _) (.cells #[.int .i64 N, .int .i64 D] 109))
    have c0 : (w4.alloc (.cells #[.int .i64 N, .int .i64 D] 109)).cell? ⟨w4.heap.size, 0, none⟩ = some (.int .i64 N) := by go_simp
    have c1 : (w4.alloc (.cells #[.int .i64 N, .int .i64 D] 109)).cell? ⟨w4.heap.size, 1, none⟩ = some (.int .i64 D) := by go_simp
    generalize hW5 : w4.alloc (.cells #[.int .i64 N, .int .i64 D] 109) = w5 at *
    obtain ⟨t0, t1, t2, t3, t4, t5, t6, l5, _⟩ := S5
    have S5 := hW5 ▸ HS4.out.next ((Below.refl _ _).alloc (Nat.le_refl _) (.cells #[.int .i64 N, .int .i64 D] 109))
    have HS5 := Lib.hid S5
    clear S5 hW5
    refine wpIn_wide.1 (region_inv (n := 9) (by kernel_rfl) (fun i => match i with
        | 0 => .agg #[.int .i64 N, .int .i64 D] | 1 => .int .i64 (fl N D) | 2 => .agg #[.int .i64 N, .int .i64 D] | 3 => .int .i64 (cl N D) | 4 => .agg #[.int .i64 (fl N D), .int .i64 (cl N D)] | 6 => .int .i64 0 | _ => undef)
      (fun L x => (L.getD 5 false = false → Below w5.heap.size w5 x) ∧ (L.getD 5 false = true → ∃ y, Below w5.heap.size w5 y ∧ x = (y.setCell ⟨w.heap.size + 1, 0, none⟩ (.int .i64 (fl N D))).setCell ⟨w.heap.size + 1, 1, none⟩ (.int .i64 (cl N D))))
      (by kernel_rfl) rfl ⟨fun _ => (Below.refl _ _).drew, fun h => by simp at h⟩ ?hstep ?hend)
    case hstep =>
      intro i' o ho L b' x' hF hR hpre hl
      match i', ho with
      | 0, ho =>
        simp at ho
        subst ho
        refine step_plain rfl ?_
        have e9 := hF.was 9 (by kernel_rfl) rfl
        have hN := hF.later hl 5 rfl (e := ⟨0, .phase⟩) (by simp) rfl rfl
        have hM := hR.1 hN
        rw [Array.getD_eq_getD_getElem?] at hN
        clear hF hpre hl hR
        have q0 := cell_keep hM c0
        have q1 := cell_keep hM c1
        first | (go_simp; done) | (go_simp; exact hM)
      | 1, ho =>
        simp at ho
        subst ho
        refine step_plain rfl ?_
        have e35 := hF.gave 0 rfl (hpre ⟨0, .data⟩ (by simp) rfl) rfl
        have hN := hF.later hl 5 rfl (e := ⟨1, .phase⟩) (by simp) rfl rfl
        have hM := hR.1 hN
        rw [Array.getD_eq_getD_getElem?] at hN
        clear hF hpre hl hR
        have q0 := cell_keep hM c0
        have q1 := cell_keep hM c1
        go_simp
        refine ⟨trivial, ?_⟩
        refine CallsIn.mono (callsIn_wide.2 (vfloor_any N D _ (by omega) (by omega) (by omega) (by omega))) ?_
        rintro e y' ⟨rfl, hy⟩
        have hs := hM.size
        exact ⟨rfl, hM.trans (hy.mono hs)⟩
      | 2, ho =>
        simp at ho
        subst ho
        refine step_plain rfl ?_
        have e9 := hF.was 9 (by kernel_rfl) rfl
        have hN := hF.later hl 5 rfl (e := ⟨2, .phase⟩) (by simp) rfl rfl
        have hM := hR.1 hN
        rw [Array.getD_eq_getD_getElem?] at hN
        clear hF hpre hl hR
        have q0 := cell_keep hM c0
        have q1 := cell_keep hM c1
        first | (go_simp; done) | (go_simp; exact hM)
      | 3, ho =>
        simp at ho
        subst ho
        refine step_plain rfl ?_
        have e37 := hF.gave 2 rfl (hpre ⟨2, .data⟩ (by simp) rfl) rfl
        have hN := hF.later hl 5 rfl (e := ⟨3, .phase⟩) (by simp) rfl rfl
        have hM := hR.1 hN
        rw [Array.getD_eq_getD_getElem?] at hN
        clear hF hpre hl hR
        have q0 := cell_keep hM c0
        have q1 := cell_keep hM c1
        go_simp
        refine ⟨trivial, ?_⟩
        refine CallsIn.mono (callsIn_wide.2 (vceil_any N D _ (by omega) (by omega) (by omega) (by omega))) ?_
        rintro e y' ⟨rfl, hy⟩
        have hs := hM.size
        exact ⟨rfl, hM.trans (hy.mono hs)⟩
      | 4, ho =>
        simp at ho
        subst ho
        refine step_plain rfl ?_
        have e36 := hF.gave 1 rfl (hpre ⟨1, .data⟩ (by simp) rfl) rfl
        have e38 := hF.gave 3 rfl (hpre ⟨3, .data⟩ (by simp) rfl) rfl
        have hN := hF.later hl 5 rfl (e := ⟨4, .phase⟩) (by simp) rfl rfl
        have hM := hR.1 hN
        rw [Array.getD_eq_getD_getElem?] at hN
        clear hF hpre hl hR
        have q0 := cell_keep hM c0
        have q1 := cell_keep hM c1
        go_simp
        refine ⟨trivial, ?_⟩
        refine CallsIn.mono (callsIn_wide.2 (span_any _ _ _)) ?_
        rintro e y' ⟨rfl, hy⟩
        have hs := hM.size
        exact ⟨rfl, hM.trans (hy.mono hs)⟩
      | 5, ho =>
        simp at ho
        subst ho
        refine step_plain rfl ?_
        have e6 := hF.was 6 (by kernel_rfl) rfl
        have e39 := hF.gave 4 rfl (hpre ⟨4, .data⟩ (by simp) rfl) rfl
        have hls := hF.lsize
        have hls' : 5 < L.size := by rw [hls]; decide
        have hM := hR.1 (by rw [← getD_same hls']; exact hl)
        clear hF hpre hl hR hls
        have q0 := cell_keep hM t3
        have q1 := cell_keep hM t4
        have q4 := (hM.frozen (p := ⟨w.heap.size + 1, 0, none⟩) l5).trans t5
        have q5 := (hM.frozen (p := ⟨w.heap.size + 1, 1, none⟩) l5).trans t6
        go_simp
        exact ⟨x', hM, rfl⟩
      | 6, ho =>
        simp at ho
        subst ho
        refine step_plain rfl ?_
        have hT : L.getD 5 false = true := hpre ⟨5, .phase⟩ (by simp) rfl
        obtain ⟨y', hy, rfl⟩ := hR.2 hT
        rw [Array.getD_eq_getD_getElem?] at hT
        clear hF hpre hl hR
        go_simp
        exact ⟨y', hy, rfl⟩
      | i + 7, ho => simp at ho
    case hend =>
      intro L b' x' hF hall hR
      have e := hF.all (by kernel_rfl) hall
      obtain ⟨y', hy, rfl⟩ := hR.2 (hall 5 (by decide))
      have HS6 := Lib.hid (HS5.out.next hy)
      obtain ⟨z1, z2, z3⟩ := HS6.out.res
      clear hF hall hR
      subst e
      simp [final, dstOf, List.range, List.range.loop]
      go_wp2
      refine bodyPost_ret (v := .tuple #[.agg #[.int .i64 (fl N D), .int .i64 (cl N D)], .int .i64 0]) (by simp [results, Try.results47, go_sem, z1, z2]) rfl ?_
      exact ⟨rfl, z3 _ _⟩

end Go.Proofs.Ythhokiigdgpmcaa

/- region_inv at an operation that is guarded. -/
namespace Go.Proofs.Ythhokiigdgpmcaa
open Go.RowKit

theorem step_guard {ops : Array Oper} {T : Array Value} {val : Nat → Value} {L : Array Bool} {a : Act} {o : Oper} {j s : Nat} {b : Bool} {A B : Prop} (hF : Fr ops T val L a) (hg : o.guard = some (j, b)) (hj : dstOf ops j = some s) (hs : decide (s < T.size) = true)
    (hl : L.getD j false = true) (hv : val j = .bool b) (h : A) : if Region.wanted o (yielded ops a.tmps) then A else B := by
  have hs2 : s < a.tmps.size := by rw [hF.size]; exact of_decide_eq_true hs
  have hd := hF.done j s hj hl
  have hy : yielded ops a.tmps j = some b := by
    unfold yielded
    have hj' : (ops[j]?).bind (·.dst) = some s := hj
    rw [hj']
    rw [hv] at hd
    simp [Array.getD, hs2] at hd
    simp [hs2, hd]
  have hw : Region.wanted o (yielded ops a.tmps) = true := by unfold Region.wanted; rw [hg]; simp [hy]
  rw [if_pos hw]
  exact h

theorem undef_ne (b : Bool) : undef ≠ Value.bool b := by
  intro h
  unfold undef at h
  cases h
theorem step_skip {ops : Array Oper} {T : Array Value} {val : Nat → Value} {L : Array Bool} {a : Act} {o : Oper} {j s : Nat} {b : Bool} {v : Value} {A B : Prop} (hF : Fr ops T val L a) (hg : o.guard = some (j, b)) (hj : dstOf ops j = some s) (hs : decide (s < T.size) = true)
    (hl : L.getD j false = true) (hv : val j = v) (hne : v ≠ .bool b) (h : B) : if Region.wanted o (yielded ops a.tmps) then A else B := by
  have hs2 : s < a.tmps.size := by rw [hF.size]; exact of_decide_eq_true hs
  have hd := hF.done j s hj hl
  rw [hv] at hd
  simp [Array.getD, hs2] at hd
  have hy : yielded ops a.tmps j ≠ some b := by
    unfold yielded
    have hj' : (ops[j]?).bind (·.dst) = some s := hj
    rw [hj']
    simp only [Option.bind_some, hs2, Array.getElem?_eq_getElem, hd]
    split
    · rename_i e
      intro h
      simp at e h
      subst h
      exact hne e
    · simp
  have hw : Region.wanted o (yielded ops a.tmps) = false := by
    unfold Region.wanted
    rw [hg]
    simpa using hy
  rw [if_neg (by rw [hw]; simp)]
  exact h

/-! A region whose operations leave what was there as it was: each value has its own property, which stays. -/
def Stays (Q : Nat → Value → World → Prop) : Prop := ∀ j v W W', Q j v W → Below W.heap.size W W' → Q j v W'
def RQ (Q : Nat → Value → World → Prop) (W0 : World) (val : Nat → Value) (L : Array Bool) (W : World) : Prop :=
  Below W0.heap.size W0 W ∧ ∀ j, L.getD j false = true → Q j (val j) W
theorem RQ.start (Q : Nat → Value → World → Prop) (W0 : World) (n : Nat) : RQ Q W0 (fun _ => undef) (Array.replicate n false) W0.drew :=
  ⟨(Below.refl _ _).drew, fun j h => by rw [getD_replicate_no] at h; cases h⟩
theorem RQ.step {Q : Nat → Value → World → Prop} {W0 W W' : World} {val : Nat → Value} {L : Array Bool} {i : Nat} {v : Value} (h : RQ Q W0 val L W) (hQ : Stays Q) (hb : Below W.heap.size W W') (hq : Q i v W') :
    RQ Q W0 (upd val i v) (L.setIfInBounds i true) W' :=
  ⟨h.1.trans (hb.mono h.1.size), fun j hj => by
    by_cases e : j = i
    · subst e
      rw [upd_same]
      exact hq
    · rw [upd_other e]
      rw [getD_set_other (fun h => e h.symm)] at hj
      exact hQ j _ W W' (h.2 j hj) hb⟩

end Go.Proofs.Ythhokiigdgpmcaa

/- The reference's bound. -/
namespace Go.Proofs.Ythhokiigdgpmcaa
open Go.RowKit

/-- A list of the call's own. -/
def GI (l : List Int) (v : Value) (W : World) : Prop := ∃ g c, v = .slice (some ⟨g, 0, none⟩) l.length c ∧ RI W W.heap.size (some ⟨g, 0, none⟩) l
theorem GI.stay {l : List Int} {v : Value} {W W' : World} (h : GI l v W) (hb : Below W.heap.size W W') : GI l v W' := by
  obtain ⟨g, c, e, h⟩ := h
  exact ⟨g, c, e, (h.below hb).more hb.size⟩
theorem RI.other {W W' : World} {n n' g : Nat} {l : List Int} (h : RI W n (some ⟨g, 0, none⟩) l) (hc : ∀ o, W'.cell? ⟨g, o, none⟩ = W.cell? ⟨g, o, none⟩) (hg : g < n') : RI W' n' (some ⟨g, 0, none⟩) l := fun hp => by
  obtain ⟨b, off, e, _, h2⟩ := h hp
  simp at e
  obtain ⟨rfl, rfl⟩ := e
  exact ⟨g, 0, rfl, hg, fun j u hu => (hc _).trans (h2 j u hu)⟩
theorem RI.lt {W : World} {n g : Nat} {l : List Int} (h : RI W n (some ⟨g, 0, none⟩) l) (hl : 0 < l.length) : g < n := by
  obtain ⟨b, off, e, hb, _⟩ := h (by simpa using hl)
  simp at e
  omega

/-- What stays but for one block. -/
structure LK (go : Nat) (A C : World) : Prop where
  c : ∀ g o, g < A.heap.size → g ≠ go → C.cell? ⟨g, o, none⟩ = A.cell? ⟨g, o, none⟩
  f : ∀ g o, g < A.heap.size → C.frozen? ⟨g, o, none⟩ = A.frozen? ⟨g, o, none⟩
  s : A.heap.size ≤ C.heap.size
theorem LK.refl (go : Nat) (A : World) : LK go A A := ⟨fun _ _ _ _ => rfl, fun _ _ _ => rfl, Nat.le_refl _⟩
theorem LK.below {go : Nat} {A C C' : World} (h : LK go A C) (hb : Below C.heap.size C C') : LK go A C' :=
  ⟨fun g o hg hn => (hb.cell (p := ⟨g, o, none⟩) (Nat.lt_of_lt_of_le hg h.s)).trans (h.c g o hg hn), fun g o hg => (hb.frozen (p := ⟨g, o, none⟩) (Nat.lt_of_lt_of_le hg h.s)).trans (h.f g o hg), Nat.le_trans h.s hb.size⟩
theorem LK.set {go : Nat} {A C : World} (h : LK go A C) (k : Nat) (u : Value) : LK go A (C.setCell ⟨go, k, none⟩ u) :=
  ⟨fun g o hg hn => (cell_same (heap_setCell_other _ _ _ _ hn)).trans (h.c g o hg hn), fun g o hg => by rw [← h.f g o hg]; simp [go_sem], by have := h.s; simpa [World.setCell] using this⟩

/-- The reference's way: it begins with the first corner. -/
def bfR (X Y : List Int) (V : List (List Int)) (x y : Int) (l : List Cn) : Int × Int := l.foldl bndStep (fl (atN X Y V x y) (atD X Y x y), cl (atN X Y V x y) (atD X Y x y))
theorem bfR_snoc (X Y : List Int) (V : List (List Int)) (x y : Int) (l : List Cn) (c : Cn) : bfR X Y V x y (l ++ [c]) = bndStep (bfR X Y V x y l) c := by simp [bfR]
theorem bfR_eq {X Y : List Int} {V : List (List Int)} {x y : Int} {l : List Cn} (hg : Good (cnOf X Y V x y)) (hl : l[0]? = some (cnOf X Y V x y)) : bfR X Y V x y l = bndL l := by
  obtain ⟨g1, g2, g3, g4⟩ := hg
  match l, hl with
  | c :: l, hl =>
    simp at hl
    subst hl
    simp only [cnOf] at g1 g2 g3 g4
    have h1 : fl (atN X Y V x y) (atD X Y x y) ≤ 1000000 := by unfold fl; exact Int.ediv_le_of_le_mul (by omega) g4
    have h2 : -1000000 ≤ cl (atN X Y V x y) (atD X Y x y) := by
      have : (-(atN X Y V x y)) / atD X Y x y ≤ 1000000 := Int.ediv_le_of_le_mul (by omega) (by omega)
      unfold cl
      omega
    unfold bfR bndL
    simp only [List.foldl_cons]
    congr 1
    simp only [bndStep, cnOf]
    rw [Prod.mk.injEq]
    omega
theorem cornersL_zero {X Y : List Int} {V : List (List Int)} {EX EY : List Int} {x y : Int} (hx : EX[0]? = some x) (hy : EY[0]? = some y) : (cornersL X Y V EX EY)[0]? = some (cnOf X Y V x y) := by
  match EX, EY, hx, hy with
  | a :: EX, b :: EY, hx, hy =>
    simp at hx hy
    subst hx hy
    simp [cornersL]
theorem endsL_ne (X : List Int) (lo hi : Int) : 0 < (endsL X lo hi).length := by unfold endsL; simp
theorem endsL_zero (X : List Int) (lo hi : Int) : (endsL X lo hi)[0]? = some lo := by unfold endsL; rfl

theorem RI.first {W : World} {n g : Nat} {l : List Int} {x : Int} (h : RI W n (some ⟨g, 0, none⟩) l) (hx : l[0]? = some x) : W.cell? ⟨g, 0, none⟩ = some (.int .i64 x) := by
  obtain ⟨b, off, x', e, _, hx', hc⟩ := h.at_ (k := 0) (List.getElem?_eq_some_iff.1 hx).1
  simp at e
  obtain ⟨rfl, rfl⟩ := e
  rw [hx] at hx'
  simp at hx'
  subst hx'
  simpa using hc
theorem RI.nth {W : World} {n g k : Nat} {l : List Int} {x : Int} (h : RI W n (some ⟨g, 0, none⟩) l) (hx : l[k]? = some x) : W.cell? ⟨g, k, none⟩ = some (.int .i64 x) := by
  obtain ⟨b, off, x', e, _, hx', hc⟩ := h.at_ (k := k) (List.getElem?_eq_some_iff.1 hx).1
  simp at e
  obtain ⟨rfl, rfl⟩ := e
  rw [hx] at hx'
  simp at hx'
  subst hx'
  simpa using hc

def QB1 (g : Nat) (AX : Option Addr) (nx : Nat) (cx : Nat) (AY : Option Addr) (ny : Nat) (cy : Nat) (x1 : Int) (x2 : Int) (y1 : Int) (y2 : Int) (EX : List Int) (EY : List Int) (j : Nat) (v : Value) (W : World) : Prop :=
  match j with
  | 0 => v = .pointer (some ⟨g, 0, none⟩)
  | 1 => v = .slice AX nx cx
  | 2 => v = .agg #[.int .i64 x1, .int .i64 x2]
  | 3 => GI EX v W
  | 4 => v = .pointer (some ⟨g, 1, none⟩)
  | 5 => v = .slice AY ny cy
  | 6 => v = .agg #[.int .i64 y1, .int .i64 y2]
  | 7 => GI EY v W
  | 8 => GI EX v W
  | 9 => GI EY v W
  | _ => True
theorem QB1_stays (g : Nat) (AX : Option Addr) (nx : Nat) (cx : Nat) (AY : Option Addr) (ny : Nat) (cy : Nat) (x1 : Int) (x2 : Int) (y1 : Int) (y2 : Int) (EX : List Int) (EY : List Int) : Stays (QB1 g AX nx cx AY ny cy x1 x2 y1 y2 EX EY) := fun j v W W' h hb => by
  unfold QB1 at h ⊢
  split at h <;> first | exact h | exact h.stay hb
def QB2 (_g : Nat) (AX : Option Addr) (nx : Nat) (cx : Nat) (AY : Option Addr) (ny : Nat) (cy : Nat) (AV : Option Addr) (nv : Nat) (cv : Nat) (gx : Nat) (lx : Nat) (ccx : Nat) (gy : Nat) (ly : Nat) (ccy : Nat) (_i : Nat) (_k : Nat) (a : Int) (b : Int) (N : Int) (D : Int) (j : Nat) (v : Value) (_ : World) : Prop :=
  match j with
  | 0 => v = .agg #[.slice AX nx cx, .slice AY ny cy, .slice AV nv cv]
  | 1 => v = .slice (some ⟨gx, 0, none⟩) lx ccx
  | 2 => v = .pointer (some ⟨gx, 0, none⟩)
  | 3 => v = .int .i64 a
  | 4 => v = .slice (some ⟨gy, 0, none⟩) ly ccy
  | 5 => v = .pointer (some ⟨gy, 0, none⟩)
  | 6 => v = .int .i64 b
  | 7 => v = .tuple #[.int .i64 N, .int .i64 D]
  | 8 => v = .tuple #[.int .i64 N, .int .i64 D]
  | 9 => v = .int .i64 N
  | 10 => v = .int .i64 D
  | 11 => v = .int .i64 N
  | 12 => v = .int .i64 D
  | _ => True
theorem QB2_stays (g : Nat) (AX : Option Addr) (nx : Nat) (cx : Nat) (AY : Option Addr) (ny : Nat) (cy : Nat) (AV : Option Addr) (nv : Nat) (cv : Nat) (gx : Nat) (lx : Nat) (ccx : Nat) (gy : Nat) (ly : Nat) (ccy : Nat) (i : Nat) (k : Nat) (a : Int) (b : Int) (N : Int) (D : Int) : Stays (QB2 g AX nx cx AY ny cy AV nv cv gx lx ccx gy ly ccy i k a b N D) := fun j v W W' h _ => by
  unfold QB2 at h ⊢
  split at h <;> exact h
def QB3 (_g : Nat) (AX : Option Addr) (nx : Nat) (cx : Nat) (AY : Option Addr) (ny : Nat) (cy : Nat) (AV : Option Addr) (nv : Nat) (cv : Nat) (gx : Nat) (lx : Nat) (ccx : Nat) (gy : Nat) (ly : Nat) (ccy : Nat) (i : Nat) (k : Nat) (a : Int) (b : Int) (N : Int) (D : Int) (j : Nat) (v : Value) (_ : World) : Prop :=
  match j with
  | 0 => v = .agg #[.slice AX nx cx, .slice AY ny cy, .slice AV nv cv]
  | 1 => v = .slice (some ⟨gx, 0, none⟩) lx ccx
  | 2 => v = .int .i64 (i : Nat)
  | 3 => v = .pointer (some ⟨gx, i, none⟩)
  | 4 => v = .int .i64 a
  | 5 => v = .slice (some ⟨gy, 0, none⟩) ly ccy
  | 6 => v = .int .i64 (k : Nat)
  | 7 => v = .pointer (some ⟨gy, k, none⟩)
  | 8 => v = .int .i64 b
  | 9 => v = .tuple #[.int .i64 N, .int .i64 D]
  | 10 => v = .tuple #[.int .i64 N, .int .i64 D]
  | 11 => v = .int .i64 N
  | 12 => v = .int .i64 D
  | 13 => v = .int .i64 N
  | 14 => v = .int .i64 D
  | _ => True
theorem QB3_stays (g : Nat) (AX : Option Addr) (nx : Nat) (cx : Nat) (AY : Option Addr) (ny : Nat) (cy : Nat) (AV : Option Addr) (nv : Nat) (cv : Nat) (gx : Nat) (lx : Nat) (ccx : Nat) (gy : Nat) (ly : Nat) (ccy : Nat) (i : Nat) (k : Nat) (a : Int) (b : Int) (N : Int) (D : Int) : Stays (QB3 g AX nx cx AY ny cy AV nv cv gx lx ccx gy ly ccy i k a b N D) := fun j v W W' h _ => by
  unfold QB3 at h ⊢
  split at h <;> exact h

set_option maxRecDepth 100000 in
set_option maxHeartbeats 4000000 in
theorem rbound_any (AX AY AV : Option Addr) (nx cx ny cy nv cv B : Nat) (X Y : List Int) (V : List (List Int)) (x1 x2 y1 y2 : Int) (w : World) (hx : X.length = nx) (hy : Y.length = ny) (hv : V.length = nv)
    (hB : B ≤ w.heap.size) (h : TB w B AX AY AV X Y V) (hct : ctB X Y V = true) (ox1 : On X x1) (ox2 : On X x2) (oy1 : On Y y1) (oy2 : On Y y2) :
    Calls Try.prog 129 #[.agg #[.slice AX nx cx, .slice AY ny cy, .slice AV nv cv], .agg #[.int .i64 x1, .int .i64 x2], .agg #[.int .i64 y1, .int .i64 y2]] w fun e w' =>
      e = .returned (.agg #[.int .i64 (bndL (cornersL X Y V (endsL X x1 x2) (endsL Y y1 y2))).1, .int .i64 (bndL (cornersL X Y V (endsL X x1 x2) (endsL Y y1 y2))).2]) ∧ Below w.heap.size w w' := by
  subst hx hy hv
  obtain ⟨l1, l2, l3, l4⟩ := ctB_len hct
  have HT := Lib.hid h
  have HCX0 := Lib.hid (fun (W : World) (hW : Below w.heap.size w W) => rcorners_any AX _ cx B X x1 x2 W rfl (by omega) (by have := hW.size; omega) (h.x.below (hW.mono hB)))
  have HCY0 := Lib.hid (fun (W : World) (hW : Below w.heap.size w W) => rcorners_any AY _ cy B Y y1 y2 W rfl (by omega) (by have := hW.size; omega) (h.y.below (hW.mono hB)))
  have HV0 := Lib.hid (fun (W : World) (hW : Below w.heap.size w W) (x y : Int) (hx : On X x) (hy : On Y y) => rvalue_any AX AY AV _ cx _ cy _ cv B X Y V x y W rfl rfl rfl (by have := hW.size; omega) (h.below (hW.mono hB)) hct hx hy)
  have hex0 := endsL_zero X x1 x2
  have hey0 := endsL_zero Y y1 y2
  have hexn := endsL_len X x1 x2
  have heyn := endsL_len Y y1 y2
  have hexo := endsL_on ox1 ox2
  have heyo := endsL_on oy1 oy2
  have HG := Lib.hid (fun (x y : Int) (hx : On X x) (hy : On Y y) => good_of (V := V) hct hx hy)
  generalize hEX : endsL X x1 x2 = EX at *
  generalize hEY : endsL Y y1 y2 = EY at *
  have hel1 : EX.length ≤ 14 := by omega
  have hel2 : EY.length ≤ 14 := by omega
  have HEX := Lib.hid (And.intro hex0 (And.intro hexo hexn))
  have HEY := Lib.hid (And.intro hey0 (And.intro heyo heyn))
  have HO := Lib.hid (And.intro ox1 oy1)
  clear hex0 hey0 hexn heyn hexo heyo hct ox1 ox2 oy1 oy2 hEX hEY h
  go_enter Try.func129, Try.ntmps129
  go_upto_region 1 with fail
  generalize hW0 : ((((w.alloc _).alloc _).alloc _).alloc _) = W0
  have t0 : W0.cell? ⟨w.heap.size, 0, none⟩ = some (.slice AX X.length cx) := by rw [← hW0]; clear hW0; go_simp
  have t1 : W0.cell? ⟨w.heap.size, 1, none⟩ = some (.slice AY Y.length cy) := by rw [← hW0]; clear hW0; go_simp
  have t2 : W0.cell? ⟨w.heap.size, 2, none⟩ = some (.slice AV V.length cv) := by rw [← hW0]; clear hW0; go_simp
  have xs0 : W0.cell? ⟨w.heap.size + 1, 0, none⟩ = some (.int .i64 x1) := by rw [← hW0]; clear hW0; go_simp
  have xs1 : W0.cell? ⟨w.heap.size + 1, 1, none⟩ = some (.int .i64 x2) := by rw [← hW0]; clear hW0; go_simp
  have ys0 : W0.cell? ⟨w.heap.size + 1 + 1, 0, none⟩ = some (.int .i64 y1) := by rw [← hW0]; clear hW0; go_simp
  have ys1 : W0.cell? ⟨w.heap.size + 1 + 1, 1, none⟩ = some (.int .i64 y2) := by rw [← hW0]; clear hW0; go_simp
  have r0 : W0.cell? ⟨w.heap.size + 1 + 1 + 1, 0, none⟩ = some (.int .i64 0) := by rw [← hW0]; clear hW0; go_simp
  have r1 : W0.cell? ⟨w.heap.size + 1 + 1 + 1, 1, none⟩ = some (.int .i64 0) := by rw [← hW0]; clear hW0; go_simp
  have z0 : W0.frozen? ⟨w.heap.size + 1 + 1 + 1, 0, none⟩ = false := by rw [← hW0]; clear hW0; simp [go_sem]
  have z1 : W0.frozen? ⟨w.heap.size + 1 + 1 + 1, 1, none⟩ = false := by rw [← hW0]; clear hW0; simp [go_sem]
  have hb0 : Below w.heap.size w W0 := by rw [← hW0]; clear hW0; go_grown
  clear hW0
  have HB0 := Lib.hid hb0
  have HCX := Lib.hid (fun (W : World) (hW : Below W0.heap.size W0 W) => HCX0.out W (hb0.trans (hW.mono hb0.size)))
  have HCY := Lib.hid (fun (W : World) (hW : Below W0.heap.size W0 W) => HCY0.out W (hb0.trans (hW.mono hb0.size)))
  have hst := QB1_stays w.heap.size AX X.length cx AY Y.length cy x1 x2 y1 y2 EX EY
  clear hb0 HCX0 HCY0
  refine wpIn_wide.1 (region_inv2 (n := 9) (by kernel_rfl) (RQ (QB1 w.heap.size AX X.length cx AY Y.length cy x1 x2 y1 y2 EX EY) W0) (by kernel_rfl) rfl (RQ.start _ _ _) ?hstep ?hend)
  case hstep =>
    intro i' o ho val L b' x hF hR hpre hl
    match i', ho with
    | 0, ho =>
      simp at ho
      subst ho
      refine step_plain rfl ?_
      have e3 := hF.was 3 (by kernel_rfl) rfl
      have hgoal : ∀ v W', Below x.heap.size x W' → QB1 w.heap.size AX X.length cx AY Y.length cy x1 x2 y1 y2 EX EY 0 v W' → RQ (QB1 w.heap.size AX X.length cx AY Y.length cy x1 x2 y1 y2 EX EY) W0 (upd val 0 v) (L.setIfInBounds 0 true) W' := fun v W' hb hq => hR.step hst hb hq
      clear hF hpre hl hR
      go_simp
      exact ⟨_, rfl, hgoal _ _ (Below.refl _ _) rfl⟩
    | 1, ho =>
      simp at ho
      subst ho
      refine step_plain rfl ?_
      have e14 := hF.gave 0 rfl (hpre ⟨0, .data⟩ (by simp) rfl) rfl
      have v0 := hR.2 0 (hpre ⟨0, .data⟩ (by simp) rfl)
      rw [show val 0 = .pointer (some ⟨w.heap.size, 0, none⟩) from v0] at e14
      clear v0
      have hgoal : ∀ v W', Below x.heap.size x W' → QB1 w.heap.size AX X.length cx AY Y.length cy x1 x2 y1 y2 EX EY 1 v W' → RQ (QB1 w.heap.size AX X.length cx AY Y.length cy x1 x2 y1 y2 EX EY) W0 (upd val 1 v) (L.setIfInBounds 1 true) W' := fun v W' hb hq => hR.step hst hb hq
      have q0 := cell_keep hR.1 t0
      have q1 := cell_keep hR.1 t1
      have q2 := cell_keep hR.1 xs0
      have q3 := cell_keep hR.1 xs1
      have q4 := cell_keep hR.1 ys0
      have q5 := cell_keep hR.1 ys1
      clear hF hpre hl hR
      go_simp
      exact ⟨_, rfl, hgoal _ _ (Below.refl _ _) rfl⟩
    | 2, ho =>
      simp at ho
      subst ho
      refine step_plain rfl ?_
      have e4 := hF.was 4 (by kernel_rfl) rfl
      have hgoal : ∀ v W', Below x.heap.size x W' → QB1 w.heap.size AX X.length cx AY Y.length cy x1 x2 y1 y2 EX EY 2 v W' → RQ (QB1 w.heap.size AX X.length cx AY Y.length cy x1 x2 y1 y2 EX EY) W0 (upd val 2 v) (L.setIfInBounds 2 true) W' := fun v W' hb hq => hR.step hst hb hq
      have q0 := cell_keep hR.1 t0
      have q1 := cell_keep hR.1 t1
      have q2 := cell_keep hR.1 xs0
      have q3 := cell_keep hR.1 xs1
      have q4 := cell_keep hR.1 ys0
      have q5 := cell_keep hR.1 ys1
      clear hF hpre hl hR
      go_simp
      exact ⟨_, rfl, hgoal _ _ (Below.refl _ _) rfl⟩
    | 3, ho =>
      simp at ho
      subst ho
      refine step_plain rfl ?_
      have e15 := hF.gave 1 rfl (hpre ⟨1, .data⟩ (by simp) rfl) rfl
      have v1 := hR.2 1 (hpre ⟨1, .data⟩ (by simp) rfl)
      rw [show val 1 = .slice AX X.length cx from v1] at e15
      clear v1
      have e16 := hF.gave 2 rfl (hpre ⟨2, .data⟩ (by simp) rfl) rfl
      have v2 := hR.2 2 (hpre ⟨2, .data⟩ (by simp) rfl)
      rw [show val 2 = .agg #[.int .i64 x1, .int .i64 x2] from v2] at e16
      clear v2
      have hgoal : ∀ v W', Below x.heap.size x W' → QB1 w.heap.size AX X.length cx AY Y.length cy x1 x2 y1 y2 EX EY 3 v W' → RQ (QB1 w.heap.size AX X.length cx AY Y.length cy x1 x2 y1 y2 EX EY) W0 (upd val 3 v) (L.setIfInBounds 3 true) W' := fun v W' hb hq => hR.step hst hb hq
      have q0 := cell_keep hR.1 t0
      have q1 := cell_keep hR.1 t1
      have q2 := cell_keep hR.1 xs0
      have q3 := cell_keep hR.1 xs1
      have q4 := cell_keep hR.1 ys0
      have q5 := cell_keep hR.1 ys1
      have hM := Lib.hid hR.1
      clear hF hpre hl hR
      go_simp
      refine ⟨trivial, ?_⟩
      refine CallsIn.mono (callsIn_wide.2 (HCX.out _ hM.out)) ?_
      rintro e y9 ⟨g9, c9, rfl, _, hri9, hb9⟩
      exact ⟨_, rfl, hgoal _ _ hb9 ⟨g9, c9, rfl, hri9⟩⟩
    | 4, ho =>
      simp at ho
      subst ho
      refine step_plain rfl ?_
      have e3 := hF.was 3 (by kernel_rfl) rfl
      have hgoal : ∀ v W', Below x.heap.size x W' → QB1 w.heap.size AX X.length cx AY Y.length cy x1 x2 y1 y2 EX EY 4 v W' → RQ (QB1 w.heap.size AX X.length cx AY Y.length cy x1 x2 y1 y2 EX EY) W0 (upd val 4 v) (L.setIfInBounds 4 true) W' := fun v W' hb hq => hR.step hst hb hq
      clear hF hpre hl hR
      go_simp
      exact ⟨_, rfl, hgoal _ _ (Below.refl _ _) rfl⟩
    | 5, ho =>
      simp at ho
      subst ho
      refine step_plain rfl ?_
      have e18 := hF.gave 4 rfl (hpre ⟨4, .data⟩ (by simp) rfl) rfl
      have v4 := hR.2 4 (hpre ⟨4, .data⟩ (by simp) rfl)
      rw [show val 4 = .pointer (some ⟨w.heap.size, 1, none⟩) from v4] at e18
      clear v4
      have hgoal : ∀ v W', Below x.heap.size x W' → QB1 w.heap.size AX X.length cx AY Y.length cy x1 x2 y1 y2 EX EY 5 v W' → RQ (QB1 w.heap.size AX X.length cx AY Y.length cy x1 x2 y1 y2 EX EY) W0 (upd val 5 v) (L.setIfInBounds 5 true) W' := fun v W' hb hq => hR.step hst hb hq
      have q0 := cell_keep hR.1 t0
      have q1 := cell_keep hR.1 t1
      have q2 := cell_keep hR.1 xs0
      have q3 := cell_keep hR.1 xs1
      have q4 := cell_keep hR.1 ys0
      have q5 := cell_keep hR.1 ys1
      clear hF hpre hl hR
      go_simp
      exact ⟨_, rfl, hgoal _ _ (Below.refl _ _) rfl⟩
    | 6, ho =>
      simp at ho
      subst ho
      refine step_plain rfl ?_
      have e5 := hF.was 5 (by kernel_rfl) rfl
      have hgoal : ∀ v W', Below x.heap.size x W' → QB1 w.heap.size AX X.length cx AY Y.length cy x1 x2 y1 y2 EX EY 6 v W' → RQ (QB1 w.heap.size AX X.length cx AY Y.length cy x1 x2 y1 y2 EX EY) W0 (upd val 6 v) (L.setIfInBounds 6 true) W' := fun v W' hb hq => hR.step hst hb hq
      have q0 := cell_keep hR.1 t0
      have q1 := cell_keep hR.1 t1
      have q2 := cell_keep hR.1 xs0
      have q3 := cell_keep hR.1 xs1
      have q4 := cell_keep hR.1 ys0
      have q5 := cell_keep hR.1 ys1
      clear hF hpre hl hR
      go_simp
      exact ⟨_, rfl, hgoal _ _ (Below.refl _ _) rfl⟩
    | 7, ho =>
      simp at ho
      subst ho
      refine step_plain rfl ?_
      have e19 := hF.gave 5 rfl (hpre ⟨5, .data⟩ (by simp) rfl) rfl
      have v5 := hR.2 5 (hpre ⟨5, .data⟩ (by simp) rfl)
      rw [show val 5 = .slice AY Y.length cy from v5] at e19
      clear v5
      have e20 := hF.gave 6 rfl (hpre ⟨6, .data⟩ (by simp) rfl) rfl
      have v6 := hR.2 6 (hpre ⟨6, .data⟩ (by simp) rfl)
      rw [show val 6 = .agg #[.int .i64 y1, .int .i64 y2] from v6] at e20
      clear v6
      have hgoal : ∀ v W', Below x.heap.size x W' → QB1 w.heap.size AX X.length cx AY Y.length cy x1 x2 y1 y2 EX EY 7 v W' → RQ (QB1 w.heap.size AX X.length cx AY Y.length cy x1 x2 y1 y2 EX EY) W0 (upd val 7 v) (L.setIfInBounds 7 true) W' := fun v W' hb hq => hR.step hst hb hq
      have q0 := cell_keep hR.1 t0
      have q1 := cell_keep hR.1 t1
      have q2 := cell_keep hR.1 xs0
      have q3 := cell_keep hR.1 xs1
      have q4 := cell_keep hR.1 ys0
      have q5 := cell_keep hR.1 ys1
      have hM := Lib.hid hR.1
      clear hF hpre hl hR
      go_simp
      refine ⟨trivial, ?_⟩
      refine CallsIn.mono (callsIn_wide.2 (HCY.out _ hM.out)) ?_
      rintro e y9 ⟨g9, c9, rfl, _, hri9, hb9⟩
      exact ⟨_, rfl, hgoal _ _ hb9 ⟨g9, c9, rfl, hri9⟩⟩
    | 8, ho =>
      simp at ho
      subst ho
      refine step_plain rfl ?_
      have e17 := hF.gave 3 rfl (hpre ⟨3, .data⟩ (by simp) rfl) rfl
      have v3 := hR.2 3 (hpre ⟨3, .data⟩ (by simp) rfl)
      have hgoal : ∀ v W', Below x.heap.size x W' → QB1 w.heap.size AX X.length cx AY Y.length cy x1 x2 y1 y2 EX EY 8 v W' → RQ (QB1 w.heap.size AX X.length cx AY Y.length cy x1 x2 y1 y2 EX EY) W0 (upd val 8 v) (L.setIfInBounds 8 true) W' := fun v W' hb hq => hR.step hst hb hq
      clear hF hpre hl hR
      go_simp
      exact ⟨_, rfl, hgoal _ _ (Below.refl _ _) v3⟩
    | 9, ho =>
      simp at ho
      subst ho
      refine step_plain rfl ?_
      have e21 := hF.gave 7 rfl (hpre ⟨7, .data⟩ (by simp) rfl) rfl
      have v7 := hR.2 7 (hpre ⟨7, .data⟩ (by simp) rfl)
      have hgoal : ∀ v W', Below x.heap.size x W' → QB1 w.heap.size AX X.length cx AY Y.length cy x1 x2 y1 y2 EX EY 9 v W' → RQ (QB1 w.heap.size AX X.length cx AY Y.length cy x1 x2 y1 y2 EX EY) W0 (upd val 9 v) (L.setIfInBounds 9 true) W' := fun v W' hb hq => hR.step hst hb hq
      clear hF hpre hl hR
      go_simp
      exact ⟨_, rfl, hgoal _ _ (Below.refl _ _) v7⟩
    | i + 10, ho => simp at ho
  case hend =>
  intro val L b' w1 hF hall hR
  have e := hF.all (by kernel_rfl) hall
  obtain ⟨gx, ccx, e8, hrx⟩ := hR.2 8 (hall 8 (by decide))
  obtain ⟨gy, ccy, e9, hry⟩ := hR.2 9 (hall 9 (by decide))
  have hb1 := hR.1
  replace z0 := (cell_frozen hb1 r0).trans z0
  replace z1 := (cell_frozen hb1 r1).trans z1
  replace t0 := cell_keep hb1 t0
  replace t1 := cell_keep hb1 t1
  replace t2 := cell_keep hb1 t2
  replace r0 := cell_keep hb1 r0
  replace r1 := cell_keep hb1 r1
  have HB1 := Lib.hid (HB0.out.trans (hb1.mono HB0.out.size))
  have HRX := Lib.hid hrx
  have HRY := Lib.hid hry
  clear hF hall hR hst HCX HCY hb1 hrx hry xs0 xs1 ys0 ys1 HB0
  subst e
  simp [final, dstOf, List.range, List.range.loop]
  rw [e8, e9]
  clear e8 e9
  generalize val 0 = v0, val 1 = v1, val 2 = v2, val 3 = v3, val 4 = v4, val 5 = v5, val 6 = v6, val 7 = v7
  have ex0 : w1.cell? ⟨gx, 0, none⟩ = some (.int .i64 x1) := HRX.out.first HEX.out.1
  have ey0 : w1.cell? ⟨gy, 0, none⟩ = some (.int .i64 y1) := HRY.out.first HEY.out.1
  have nx0 : 0 < EX.length := (List.getElem?_eq_some_iff.1 HEX.out.1).1
  have ny0 : 0 < EY.length := (List.getElem?_eq_some_iff.1 HEY.out.1).1
  go_upto_region 2 with fail
  have hst := QB2_stays w.heap.size AX X.length cx AY Y.length cy AV V.length cv gx EX.length ccx gy EY.length ccy 0 0 x1 y1 ((atN X Y V x1 y1)) ((atD X Y x1 y1))
  have HV := Lib.hid (fun (W : World) (hW : Below w1.heap.size w1 W) => HV0.out W (HB1.out.trans (hW.mono HB1.out.size)) x1 y1 HO.out.1 HO.out.2)
  refine wpIn_wide.1 (region_inv2 (n := 9) (by kernel_rfl) (RQ (QB2 w.heap.size AX X.length cx AY Y.length cy AV V.length cv gx EX.length ccx gy EY.length ccy 0 0 x1 y1 ((atN X Y V x1 y1)) ((atD X Y x1 y1))) w1) (by kernel_rfl) rfl (RQ.start _ _ _) ?hstep ?hend)
  case hstep =>
    intro i' o ho val L b' x hF hR hpre hl
    match i', ho with
    | 0, ho =>
      simp at ho
      subst ho
      refine step_plain rfl ?_
      have e3 := hF.was 3 (by kernel_rfl) rfl
      have hgoal : ∀ v W', Below x.heap.size x W' → QB2 w.heap.size AX X.length cx AY Y.length cy AV V.length cv gx EX.length ccx gy EY.length ccy 0 0 x1 y1 ((atN X Y V x1 y1)) ((atD X Y x1 y1)) 0 v W' → RQ (QB2 w.heap.size AX X.length cx AY Y.length cy AV V.length cv gx EX.length ccx gy EY.length ccy 0 0 x1 y1 ((atN X Y V x1 y1)) ((atD X Y x1 y1))) w1 (upd val 0 v) (L.setIfInBounds 0 true) W' := fun v W' hb hq => hR.step hst hb hq
      have q0 := cell_keep hR.1 t0
      have q1 := cell_keep hR.1 t1
      have q2 := cell_keep hR.1 t2
      have q3 := cell_keep hR.1 ex0
      have q4 := cell_keep hR.1 ey0
      clear hF hpre hl hR
      go_simp
      exact ⟨_, rfl, hgoal _ _ (Below.refl _ _) rfl⟩
    | 1, ho =>
      simp at ho
      subst ho
      refine step_plain rfl ?_
      have e7 := hF.was 7 (by kernel_rfl) rfl
      have hgoal : ∀ v W', Below x.heap.size x W' → QB2 w.heap.size AX X.length cx AY Y.length cy AV V.length cv gx EX.length ccx gy EY.length ccy 0 0 x1 y1 ((atN X Y V x1 y1)) ((atD X Y x1 y1)) 1 v W' → RQ (QB2 w.heap.size AX X.length cx AY Y.length cy AV V.length cv gx EX.length ccx gy EY.length ccy 0 0 x1 y1 ((atN X Y V x1 y1)) ((atD X Y x1 y1))) w1 (upd val 1 v) (L.setIfInBounds 1 true) W' := fun v W' hb hq => hR.step hst hb hq
      clear hF hpre hl hR
      go_simp
      exact ⟨_, rfl, hgoal _ _ (Below.refl _ _) rfl⟩
    | 2, ho =>
      simp at ho
      subst ho
      refine step_plain rfl ?_
      have e24 := hF.gave 1 rfl (hpre ⟨1, .data⟩ (by simp) rfl) rfl
      have v1 := hR.2 1 (hpre ⟨1, .data⟩ (by simp) rfl)
      rw [show val 1 = .slice (some ⟨gx, 0, none⟩) EX.length ccx from v1] at e24
      clear v1
      have hgoal : ∀ v W', Below x.heap.size x W' → QB2 w.heap.size AX X.length cx AY Y.length cy AV V.length cv gx EX.length ccx gy EY.length ccy 0 0 x1 y1 ((atN X Y V x1 y1)) ((atD X Y x1 y1)) 2 v W' → RQ (QB2 w.heap.size AX X.length cx AY Y.length cy AV V.length cv gx EX.length ccx gy EY.length ccy 0 0 x1 y1 ((atN X Y V x1 y1)) ((atD X Y x1 y1))) w1 (upd val 2 v) (L.setIfInBounds 2 true) W' := fun v W' hb hq => hR.step hst hb hq
      clear hF hpre hl hR
      go_simp
      exact ⟨_, rfl, hgoal _ _ (Below.refl _ _) rfl⟩
    | 3, ho =>
      simp at ho
      subst ho
      refine step_plain rfl ?_
      have e25 := hF.gave 2 rfl (hpre ⟨2, .data⟩ (by simp) rfl) rfl
      have v2 := hR.2 2 (hpre ⟨2, .data⟩ (by simp) rfl)
      rw [show val 2 = .pointer (some ⟨gx, 0, none⟩) from v2] at e25
      clear v2
      have hgoal : ∀ v W', Below x.heap.size x W' → QB2 w.heap.size AX X.length cx AY Y.length cy AV V.length cv gx EX.length ccx gy EY.length ccy 0 0 x1 y1 ((atN X Y V x1 y1)) ((atD X Y x1 y1)) 3 v W' → RQ (QB2 w.heap.size AX X.length cx AY Y.length cy AV V.length cv gx EX.length ccx gy EY.length ccy 0 0 x1 y1 ((atN X Y V x1 y1)) ((atD X Y x1 y1))) w1 (upd val 3 v) (L.setIfInBounds 3 true) W' := fun v W' hb hq => hR.step hst hb hq
      have q0 := cell_keep hR.1 t0
      have q1 := cell_keep hR.1 t1
      have q2 := cell_keep hR.1 t2
      have q3 := cell_keep hR.1 ex0
      have q4 := cell_keep hR.1 ey0
      clear hF hpre hl hR
      go_simp
      exact ⟨_, rfl, hgoal _ _ (Below.refl _ _) rfl⟩
    | 4, ho =>
      simp at ho
      subst ho
      refine step_plain rfl ?_
      have e8 := hF.was 8 (by kernel_rfl) rfl
      have hgoal : ∀ v W', Below x.heap.size x W' → QB2 w.heap.size AX X.length cx AY Y.length cy AV V.length cv gx EX.length ccx gy EY.length ccy 0 0 x1 y1 ((atN X Y V x1 y1)) ((atD X Y x1 y1)) 4 v W' → RQ (QB2 w.heap.size AX X.length cx AY Y.length cy AV V.length cv gx EX.length ccx gy EY.length ccy 0 0 x1 y1 ((atN X Y V x1 y1)) ((atD X Y x1 y1))) w1 (upd val 4 v) (L.setIfInBounds 4 true) W' := fun v W' hb hq => hR.step hst hb hq
      clear hF hpre hl hR
      go_simp
      exact ⟨_, rfl, hgoal _ _ (Below.refl _ _) rfl⟩
    | 5, ho =>
      simp at ho
      subst ho
      refine step_plain rfl ?_
      have e27 := hF.gave 4 rfl (hpre ⟨4, .data⟩ (by simp) rfl) rfl
      have v4 := hR.2 4 (hpre ⟨4, .data⟩ (by simp) rfl)
      rw [show val 4 = .slice (some ⟨gy, 0, none⟩) EY.length ccy from v4] at e27
      clear v4
      have hgoal : ∀ v W', Below x.heap.size x W' → QB2 w.heap.size AX X.length cx AY Y.length cy AV V.length cv gx EX.length ccx gy EY.length ccy 0 0 x1 y1 ((atN X Y V x1 y1)) ((atD X Y x1 y1)) 5 v W' → RQ (QB2 w.heap.size AX X.length cx AY Y.length cy AV V.length cv gx EX.length ccx gy EY.length ccy 0 0 x1 y1 ((atN X Y V x1 y1)) ((atD X Y x1 y1))) w1 (upd val 5 v) (L.setIfInBounds 5 true) W' := fun v W' hb hq => hR.step hst hb hq
      clear hF hpre hl hR
      go_simp
      exact ⟨_, rfl, hgoal _ _ (Below.refl _ _) rfl⟩
    | 6, ho =>
      simp at ho
      subst ho
      refine step_plain rfl ?_
      have e28 := hF.gave 5 rfl (hpre ⟨5, .data⟩ (by simp) rfl) rfl
      have v5 := hR.2 5 (hpre ⟨5, .data⟩ (by simp) rfl)
      rw [show val 5 = .pointer (some ⟨gy, 0, none⟩) from v5] at e28
      clear v5
      have hgoal : ∀ v W', Below x.heap.size x W' → QB2 w.heap.size AX X.length cx AY Y.length cy AV V.length cv gx EX.length ccx gy EY.length ccy 0 0 x1 y1 ((atN X Y V x1 y1)) ((atD X Y x1 y1)) 6 v W' → RQ (QB2 w.heap.size AX X.length cx AY Y.length cy AV V.length cv gx EX.length ccx gy EY.length ccy 0 0 x1 y1 ((atN X Y V x1 y1)) ((atD X Y x1 y1))) w1 (upd val 6 v) (L.setIfInBounds 6 true) W' := fun v W' hb hq => hR.step hst hb hq
      have q0 := cell_keep hR.1 t0
      have q1 := cell_keep hR.1 t1
      have q2 := cell_keep hR.1 t2
      have q3 := cell_keep hR.1 ex0
      have q4 := cell_keep hR.1 ey0
      clear hF hpre hl hR
      go_simp
      exact ⟨_, rfl, hgoal _ _ (Below.refl _ _) rfl⟩
    | 7, ho =>
      simp at ho
      subst ho
      refine step_plain rfl ?_
      have e23 := hF.gave 0 rfl (hpre ⟨0, .data⟩ (by simp) rfl) rfl
      have v0 := hR.2 0 (hpre ⟨0, .data⟩ (by simp) rfl)
      rw [show val 0 = .agg #[.slice AX X.length cx, .slice AY Y.length cy, .slice AV V.length cv] from v0] at e23
      clear v0
      have e26 := hF.gave 3 rfl (hpre ⟨3, .data⟩ (by simp) rfl) rfl
      have v3 := hR.2 3 (hpre ⟨3, .data⟩ (by simp) rfl)
      rw [show val 3 = .int .i64 x1 from v3] at e26
      clear v3
      have e29 := hF.gave 6 rfl (hpre ⟨6, .data⟩ (by simp) rfl) rfl
      have v6 := hR.2 6 (hpre ⟨6, .data⟩ (by simp) rfl)
      rw [show val 6 = .int .i64 y1 from v6] at e29
      clear v6
      have hgoal : ∀ v W', Below x.heap.size x W' → QB2 w.heap.size AX X.length cx AY Y.length cy AV V.length cv gx EX.length ccx gy EY.length ccy 0 0 x1 y1 ((atN X Y V x1 y1)) ((atD X Y x1 y1)) 7 v W' → RQ (QB2 w.heap.size AX X.length cx AY Y.length cy AV V.length cv gx EX.length ccx gy EY.length ccy 0 0 x1 y1 ((atN X Y V x1 y1)) ((atD X Y x1 y1))) w1 (upd val 7 v) (L.setIfInBounds 7 true) W' := fun v W' hb hq => hR.step hst hb hq
      have q0 := cell_keep hR.1 t0
      have q1 := cell_keep hR.1 t1
      have q2 := cell_keep hR.1 t2
      have q3 := cell_keep hR.1 ex0
      have q4 := cell_keep hR.1 ey0
      have hM := Lib.hid hR.1
      clear hF hpre hl hR
      go_simp
      refine ⟨trivial, ?_⟩
      refine CallsIn.mono (callsIn_wide.2 (HV.out _ hM.out)) ?_
      rintro e y9 ⟨rfl, hb9⟩
      exact ⟨_, rfl, hgoal _ _ hb9 rfl⟩
    | 8, ho =>
      simp at ho
      subst ho
      refine step_plain rfl ?_
      have e30 := hF.gave 7 rfl (hpre ⟨7, .data⟩ (by simp) rfl) rfl
      have v7 := hR.2 7 (hpre ⟨7, .data⟩ (by simp) rfl)
      rw [show val 7 = .tuple #[.int .i64 ((atN X Y V x1 y1)), .int .i64 ((atD X Y x1 y1))] from v7] at e30
      clear v7
      have hgoal : ∀ v W', Below x.heap.size x W' → QB2 w.heap.size AX X.length cx AY Y.length cy AV V.length cv gx EX.length ccx gy EY.length ccy 0 0 x1 y1 ((atN X Y V x1 y1)) ((atD X Y x1 y1)) 8 v W' → RQ (QB2 w.heap.size AX X.length cx AY Y.length cy AV V.length cv gx EX.length ccx gy EY.length ccy 0 0 x1 y1 ((atN X Y V x1 y1)) ((atD X Y x1 y1))) w1 (upd val 8 v) (L.setIfInBounds 8 true) W' := fun v W' hb hq => hR.step hst hb hq
      clear hF hpre hl hR
      go_simp
      exact ⟨_, rfl, hgoal _ _ (Below.refl _ _) rfl⟩
    | 9, ho =>
      simp at ho
      subst ho
      refine step_plain rfl ?_
      have e22 := hF.gave 8 rfl (hpre ⟨8, .data⟩ (by simp) rfl) rfl
      have v8 := hR.2 8 (hpre ⟨8, .data⟩ (by simp) rfl)
      rw [show val 8 = .tuple #[.int .i64 ((atN X Y V x1 y1)), .int .i64 ((atD X Y x1 y1))] from v8] at e22
      clear v8
      have hgoal : ∀ v W', Below x.heap.size x W' → QB2 w.heap.size AX X.length cx AY Y.length cy AV V.length cv gx EX.length ccx gy EY.length ccy 0 0 x1 y1 ((atN X Y V x1 y1)) ((atD X Y x1 y1)) 9 v W' → RQ (QB2 w.heap.size AX X.length cx AY Y.length cy AV V.length cv gx EX.length ccx gy EY.length ccy 0 0 x1 y1 ((atN X Y V x1 y1)) ((atD X Y x1 y1))) w1 (upd val 9 v) (L.setIfInBounds 9 true) W' := fun v W' hb hq => hR.step hst hb hq
      clear hF hpre hl hR
      go_simp
      exact ⟨_, rfl, hgoal _ _ (Below.refl _ _) rfl⟩
    | 10, ho =>
      simp at ho
      subst ho
      refine step_plain rfl ?_
      have e22 := hF.gave 8 rfl (hpre ⟨8, .data⟩ (by simp) rfl) rfl
      have v8 := hR.2 8 (hpre ⟨8, .data⟩ (by simp) rfl)
      rw [show val 8 = .tuple #[.int .i64 ((atN X Y V x1 y1)), .int .i64 ((atD X Y x1 y1))] from v8] at e22
      clear v8
      have hgoal : ∀ v W', Below x.heap.size x W' → QB2 w.heap.size AX X.length cx AY Y.length cy AV V.length cv gx EX.length ccx gy EY.length ccy 0 0 x1 y1 ((atN X Y V x1 y1)) ((atD X Y x1 y1)) 10 v W' → RQ (QB2 w.heap.size AX X.length cx AY Y.length cy AV V.length cv gx EX.length ccx gy EY.length ccy 0 0 x1 y1 ((atN X Y V x1 y1)) ((atD X Y x1 y1))) w1 (upd val 10 v) (L.setIfInBounds 10 true) W' := fun v W' hb hq => hR.step hst hb hq
      clear hF hpre hl hR
      go_simp
      exact ⟨_, rfl, hgoal _ _ (Below.refl _ _) rfl⟩
    | 11, ho =>
      simp at ho
      subst ho
      refine step_plain rfl ?_
      have e31 := hF.gave 9 rfl (hpre ⟨9, .data⟩ (by simp) rfl) rfl
      have v9 := hR.2 9 (hpre ⟨9, .data⟩ (by simp) rfl)
      rw [show val 9 = .int .i64 ((atN X Y V x1 y1)) from v9] at e31
      clear v9
      have hgoal : ∀ v W', Below x.heap.size x W' → QB2 w.heap.size AX X.length cx AY Y.length cy AV V.length cv gx EX.length ccx gy EY.length ccy 0 0 x1 y1 ((atN X Y V x1 y1)) ((atD X Y x1 y1)) 11 v W' → RQ (QB2 w.heap.size AX X.length cx AY Y.length cy AV V.length cv gx EX.length ccx gy EY.length ccy 0 0 x1 y1 ((atN X Y V x1 y1)) ((atD X Y x1 y1))) w1 (upd val 11 v) (L.setIfInBounds 11 true) W' := fun v W' hb hq => hR.step hst hb hq
      clear hF hpre hl hR
      go_simp
      exact ⟨_, rfl, hgoal _ _ (Below.refl _ _) rfl⟩
    | 12, ho =>
      simp at ho
      subst ho
      refine step_plain rfl ?_
      have e32 := hF.gave 10 rfl (hpre ⟨10, .data⟩ (by simp) rfl) rfl
      have v10 := hR.2 10 (hpre ⟨10, .data⟩ (by simp) rfl)
      rw [show val 10 = .int .i64 ((atD X Y x1 y1)) from v10] at e32
      clear v10
      have hgoal : ∀ v W', Below x.heap.size x W' → QB2 w.heap.size AX X.length cx AY Y.length cy AV V.length cv gx EX.length ccx gy EY.length ccy 0 0 x1 y1 ((atN X Y V x1 y1)) ((atD X Y x1 y1)) 12 v W' → RQ (QB2 w.heap.size AX X.length cx AY Y.length cy AV V.length cv gx EX.length ccx gy EY.length ccy 0 0 x1 y1 ((atN X Y V x1 y1)) ((atD X Y x1 y1))) w1 (upd val 12 v) (L.setIfInBounds 12 true) W' := fun v W' hb hq => hR.step hst hb hq
      clear hF hpre hl hR
      go_simp
      exact ⟨_, rfl, hgoal _ _ (Below.refl _ _) rfl⟩
    | i + 13, ho => simp at ho
  case hend =>
  intro val L b' w2 hF hall hR
  have e := hF.all (by kernel_rfl) hall
  have v11 := hR.2 11 (hall 11 (by decide))
  have v12 := hR.2 12 (hall 12 (by decide))
  have hb2 := hR.1
  replace z0 := (cell_frozen hb2 r0).trans z0
  replace z1 := (cell_frozen hb2 r1).trans z1
  replace t0 := cell_keep hb2 t0
  replace t1 := cell_keep hb2 t1
  replace t2 := cell_keep hb2 t2
  replace r0 := cell_keep hb2 r0
  replace r1 := cell_keep hb2 r1
  have HB2 := Lib.hid (HB1.out.trans (hb2.mono HB1.out.size))
  have HRX2 := Lib.hid ((HRX.out.below hb2).more hb2.size)
  have HRY2 := Lib.hid ((HRY.out.below hb2).more hb2.size)
  have hg0 := HG.out x1 y1 HO.out.1 HO.out.2
  obtain ⟨gd1, gd2, gn1, gn2⟩ := hg0
  clear hF hall hR hst HV hb2 HB1 HRX HRY ex0 ey0 nx0 ny0
  subst e
  simp [final, dstOf, List.range, List.range.loop]
  rw [show val 11 = .int .i64 (atN X Y V x1 y1) from v11, show val 12 = .int .i64 (atD X Y x1 y1) from v12]
  clear v11 v12
  generalize val 0 = v0, val 1 = v1, val 2 = v2, val 3 = v3, val 4 = v4, val 5 = v5, val 6 = v6, val 7 = v7, val 8 = v8, val 9 = v9, val 10 = v10
  simp only [cnOf] at gd1 gd2 gn1 gn2
  have HGD := Lib.hid (And.intro gd1 (And.intro gn1 gn2))
  go_upto_region 4 with (first
    | (go_at_call 118; refine Calls.mono (rfloor_wide (atN X Y V x1 y1) (atD X Y x1 y1) _ (by omega) (by omega) (by omega) (by omega)) ?_; rintro e w9 ⟨rfl, rfl⟩)
    | (go_at_call 119; refine Calls.mono (rceil_wide (atN X Y V x1 y1) (atD X Y x1 y1) _ (by omega) (by omega) (by omega) (by omega)) ?_; rintro e w9 ⟨rfl, rfl⟩))
  have hba := (Below.refl w2.heap.size w2).alloc (Nat.le_refl _) (.cells #[.int .i64 (fl (atN X Y V x1 y1) (atD X Y x1 y1)), .int .i64 (cl (atN X Y V x1 y1) (atD X Y x1 y1))] 34)
  have o0 : (w2.alloc (.cells #[.int .i64 (fl (atN X Y V x1 y1) (atD X Y x1 y1)), .int .i64 (cl (atN X Y V x1 y1) (atD X Y x1 y1))] 34)).cell? ⟨w2.heap.size, 0, none⟩ = some (.int .i64 (fl (atN X Y V x1 y1) (atD X Y x1 y1))) := by go_simp
  have o1 : (w2.alloc (.cells #[.int .i64 (fl (atN X Y V x1 y1) (atD X Y x1 y1)), .int .i64 (cl (atN X Y V x1 y1) (atD X Y x1 y1))] 34)).cell? ⟨w2.heap.size, 1, none⟩ = some (.int .i64 (cl (atN X Y V x1 y1) (atD X Y x1 y1))) := by go_simp
  have f0 : (w2.alloc (.cells #[.int .i64 (fl (atN X Y V x1 y1) (atD X Y x1 y1)), .int .i64 (cl (atN X Y V x1 y1) (atD X Y x1 y1))] 34)).frozen? ⟨w2.heap.size, 0, none⟩ = false := by simp [go_sem]
  have f1 : (w2.alloc (.cells #[.int .i64 (fl (atN X Y V x1 y1) (atD X Y x1 y1)), .int .i64 (cl (atN X Y V x1 y1) (atD X Y x1 y1))] 34)).frozen? ⟨w2.heap.size, 1, none⟩ = false := by simp [go_sem]
  generalize hwl : w2.alloc (.cells #[.int .i64 (fl (atN X Y V x1 y1) (atD X Y x1 y1)), .int .i64 (cl (atN X Y V x1 y1) (atD X Y x1 y1))] 34) = wl at *
  have hgx : gx < w2.heap.size := HRX2.out.lt (by have := (List.getElem?_eq_some_iff.1 HEX.out.1).1; omega)
  have hgy : gy < w2.heap.size := HRY2.out.lt (by have := (List.getElem?_eq_some_iff.1 HEY.out.1).1; omega)
  have hgw : w.heap.size + 1 + 1 + 1 < w2.heap.size := World.block_lt_of_cell? _ _ r0
  have hwls : w2.heap.size < wl.heap.size := by rw [← hwl]; simp
  replace z0 := (cell_frozen hba r0).trans z0
  replace z1 := (cell_frozen hba r1).trans z1
  replace t0 := cell_keep hba t0
  replace t1 := cell_keep hba t1
  replace t2 := cell_keep hba t2
  replace r0 := cell_keep hba r0
  replace r1 := cell_keep hba r1
  have HRX3 := Lib.hid ((HRX2.out.below hba).more hba.size)
  have HRY3 := Lib.hid ((HRY2.out.below hba).more hba.size)
  have HB3 := Lib.hid (HB2.out.trans (hba.mono HB2.out.size))
  generalize w2.heap.size = go_ at *
  clear hwl hba HRX2 HRY2 HB2 gd1 gd2 gn1 gn2
  go_wp2_with fail
  go_loopw [9, 10, 12, 13] (fun _ _ i _ wr => ∃ a : Nat, a ≤ EX.length ∧ i = .int .i64 a ∧ wr.cell? ⟨go_, 0, none⟩ = some (.int .i64 (bfR X Y V x1 y1 (cornersL X Y V (EX.take a) EY)).1) ∧ wr.cell? ⟨go_, 1, none⟩ = some (.int .i64 (bfR X Y V x1 y1 (cornersL X Y V (EX.take a) EY)).2) ∧ LK go_ wl wr ∧ Below w.heap.size w wr) (fun _ _ i _ _ => EX.length - (intOf i).toNat)
  case atStart => exact ⟨0, by omega, rfl, by simpa [bfR, cornersL, cnOf] using o0, by simpa [bfR, cornersL, cnOf] using o1, LK.refl _ _, HB3.out⟩
  case round =>
    obtain ⟨a, ha, rfl, p0, p1, hlk, hbr⟩ := hrel
    have HBR := Lib.hid hbr
    have HLK := Lib.hid hlk
    by_cases hat : a < EX.length
    · obtain ⟨xi, hxi⟩ : ∃ xi, EX[a]? = some xi := ⟨_, List.getElem?_eq_getElem hat⟩
      have HXI := Lib.hid hxi
      have ha0 : (a : Int) < EX.length := by omega
      go_wp2_with fail
      go_loopw [9, 10, 13] (fun _ _ j wr => ∃ k : Nat, k ≤ EY.length ∧ j = .int .i64 k ∧ wr.cell? ⟨go_, 0, none⟩ = some (.int .i64 (bfR X Y V x1 y1 (cornersL X Y V (EX.take a) EY ++ (EY.take k).map (cnOf X Y V xi))).1) ∧ wr.cell? ⟨go_, 1, none⟩ = some (.int .i64 (bfR X Y V x1 y1 (cornersL X Y V (EX.take a) EY ++ (EY.take k).map (cnOf X Y V xi))).2) ∧ LK go_ wl wr ∧ Below w.heap.size w wr) (fun _ _ j _ => EY.length - (intOf j).toNat)
      case atStart => exact ⟨0, by omega, rfl, by simpa using p0, by simpa using p1, HLK.out, HBR.out⟩
      case round =>
        clear p0 p1
        obtain ⟨k, hk, rfl, p0, p1, hlk2, hbr2⟩ := hrel
        generalize hs : bfR X Y V x1 y1 (cornersL X Y V (EX.take a) EY ++ (EY.take k).map (cnOf X Y V xi)) = s at *
        obtain ⟨s0, s1⟩ := s
        simp only at p0 p1
        have HSS := Lib.hid hs
        have HBR2 := Lib.hid hbr2
        have HLK2 := Lib.hid hlk2
        by_cases hkt : k < EY.length
        · obtain ⟨yk, hyk⟩ : ∃ yk, EY[k]? = some yk := ⟨_, List.getElem?_eq_getElem hkt⟩
          have HYK := Lib.hid hyk
          have hk0 : (k : Int) < EY.length := by omega
          have hox := HEX.out.2.1 xi (List.mem_of_getElem? hxi)
          have hoy := HEY.out.2.1 yk (List.mem_of_getElem? hyk)
          have HV := Lib.hid (fun (W : World) (hW : Below wr.heap.size wr W) => HV0.out W (hbr2.trans (hW.mono hbr2.size)) xi yk hox hoy)
          obtain ⟨gd1, gd2, gn1, gn2⟩ := HG.out xi yk hox hoy
          simp only [cnOf] at gd1 gd2 gn1 gn2
          have exa : wr.cell? ⟨gx, a, none⟩ = some (.int .i64 xi) := (hlk2.c gx a (by omega) (by omega)).trans (HRX3.out.nth hxi)
          have eyk : wr.cell? ⟨gy, k, none⟩ = some (.int .i64 yk) := (hlk2.c gy k (by omega) (by omega)).trans (HRY3.out.nth hyk)
          have t0 := (hlk2.c w.heap.size 0 (by omega) (by omega)).trans t0
          have t1 := (hlk2.c w.heap.size 1 (by omega) (by omega)).trans t1
          have t2 := (hlk2.c w.heap.size 2 (by omega) (by omega)).trans t2
          have f0 := (hlk2.f go_ 0 (by omega)).trans f0
          have f1 := (hlk2.f go_ 1 (by omega)).trans f1
          clear hs hxi hyk hox hoy hlk2 hbr2 hlk hbr
          go_upto_region 10 with fail
          have hst := QB3_stays w.heap.size AX X.length cx AY Y.length cy AV V.length cv gx EX.length ccx gy EY.length ccy a k xi yk ((atN X Y V xi yk)) ((atD X Y xi yk))
          refine wpIn_wide.1 (region_inv2 (n := 9) (by kernel_rfl) (RQ (QB3 w.heap.size AX X.length cx AY Y.length cy AV V.length cv gx EX.length ccx gy EY.length ccy a k xi yk ((atN X Y V xi yk)) ((atD X Y xi yk))) wr) (by kernel_rfl) rfl (RQ.start _ _ _) ?hstep ?hend)
          case hstep =>
            intro i' o ho val L b' x hF hR hpre hl
            match i', ho with
            | 0, ho =>
              simp at ho
              subst ho
              refine step_plain rfl ?_
              have e3 := hF.was 3 (by kernel_rfl) rfl
              have hgoal : ∀ v W', Below x.heap.size x W' → QB3 w.heap.size AX X.length cx AY Y.length cy AV V.length cv gx EX.length ccx gy EY.length ccy a k xi yk ((atN X Y V xi yk)) ((atD X Y xi yk)) 0 v W' → RQ (QB3 w.heap.size AX X.length cx AY Y.length cy AV V.length cv gx EX.length ccx gy EY.length ccy a k xi yk ((atN X Y V xi yk)) ((atD X Y xi yk))) wr (upd val 0 v) (L.setIfInBounds 0 true) W' := fun v W' hb hq => hR.step hst hb hq
              have q0 := cell_keep hR.1 t0
              have q1 := cell_keep hR.1 t1
              have q2 := cell_keep hR.1 t2
              have q3 := cell_keep hR.1 exa
              have q4 := cell_keep hR.1 eyk
              clear hF hpre hl hR
              go_simp
              exact ⟨_, rfl, hgoal _ _ (Below.refl _ _) rfl⟩
            | 1, ho =>
              simp at ho
              subst ho
              refine step_plain rfl ?_
              have e7 := hF.was 7 (by kernel_rfl) rfl
              have hgoal : ∀ v W', Below x.heap.size x W' → QB3 w.heap.size AX X.length cx AY Y.length cy AV V.length cv gx EX.length ccx gy EY.length ccy a k xi yk ((atN X Y V xi yk)) ((atD X Y xi yk)) 1 v W' → RQ (QB3 w.heap.size AX X.length cx AY Y.length cy AV V.length cv gx EX.length ccx gy EY.length ccy a k xi yk ((atN X Y V xi yk)) ((atD X Y xi yk))) wr (upd val 1 v) (L.setIfInBounds 1 true) W' := fun v W' hb hq => hR.step hst hb hq
              clear hF hpre hl hR
              go_simp
              exact ⟨_, rfl, hgoal _ _ (Below.refl _ _) rfl⟩
            | 2, ho =>
              simp at ho
              subst ho
              refine step_plain rfl ?_
              have e12 := hF.was 12 (by kernel_rfl) rfl
              have hgoal : ∀ v W', Below x.heap.size x W' → QB3 w.heap.size AX X.length cx AY Y.length cy AV V.length cv gx EX.length ccx gy EY.length ccy a k xi yk ((atN X Y V xi yk)) ((atD X Y xi yk)) 2 v W' → RQ (QB3 w.heap.size AX X.length cx AY Y.length cy AV V.length cv gx EX.length ccx gy EY.length ccy a k xi yk ((atN X Y V xi yk)) ((atD X Y xi yk))) wr (upd val 2 v) (L.setIfInBounds 2 true) W' := fun v W' hb hq => hR.step hst hb hq
              clear hF hpre hl hR
              go_simp
              exact ⟨_, rfl, hgoal _ _ (Below.refl _ _) rfl⟩
            | 3, ho =>
              simp at ho
              subst ho
              refine step_plain rfl ?_
              have e54 := hF.gave 1 rfl (hpre ⟨1, .data⟩ (by simp) rfl) rfl
              have v1 := hR.2 1 (hpre ⟨1, .data⟩ (by simp) rfl)
              rw [show val 1 = .slice (some ⟨gx, 0, none⟩) EX.length ccx from v1] at e54
              clear v1
              have e55 := hF.gave 2 rfl (hpre ⟨2, .data⟩ (by simp) rfl) rfl
              have v2 := hR.2 2 (hpre ⟨2, .data⟩ (by simp) rfl)
              rw [show val 2 = .int .i64 (a : Nat) from v2] at e55
              clear v2
              have hgoal : ∀ v W', Below x.heap.size x W' → QB3 w.heap.size AX X.length cx AY Y.length cy AV V.length cv gx EX.length ccx gy EY.length ccy a k xi yk ((atN X Y V xi yk)) ((atD X Y xi yk)) 3 v W' → RQ (QB3 w.heap.size AX X.length cx AY Y.length cy AV V.length cv gx EX.length ccx gy EY.length ccy a k xi yk ((atN X Y V xi yk)) ((atD X Y xi yk))) wr (upd val 3 v) (L.setIfInBounds 3 true) W' := fun v W' hb hq => hR.step hst hb hq
              clear hF hpre hl hR
              go_simp
              exact ⟨_, rfl, hgoal _ _ (Below.refl _ _) rfl⟩
            | 4, ho =>
              simp at ho
              subst ho
              refine step_plain rfl ?_
              have e56 := hF.gave 3 rfl (hpre ⟨3, .data⟩ (by simp) rfl) rfl
              have v3 := hR.2 3 (hpre ⟨3, .data⟩ (by simp) rfl)
              rw [show val 3 = .pointer (some ⟨gx, a, none⟩) from v3] at e56
              clear v3
              have hgoal : ∀ v W', Below x.heap.size x W' → QB3 w.heap.size AX X.length cx AY Y.length cy AV V.length cv gx EX.length ccx gy EY.length ccy a k xi yk ((atN X Y V xi yk)) ((atD X Y xi yk)) 4 v W' → RQ (QB3 w.heap.size AX X.length cx AY Y.length cy AV V.length cv gx EX.length ccx gy EY.length ccy a k xi yk ((atN X Y V xi yk)) ((atD X Y xi yk))) wr (upd val 4 v) (L.setIfInBounds 4 true) W' := fun v W' hb hq => hR.step hst hb hq
              have q0 := cell_keep hR.1 t0
              have q1 := cell_keep hR.1 t1
              have q2 := cell_keep hR.1 t2
              have q3 := cell_keep hR.1 exa
              have q4 := cell_keep hR.1 eyk
              clear hF hpre hl hR
              go_simp
              exact ⟨_, rfl, hgoal _ _ (Below.refl _ _) rfl⟩
            | 5, ho =>
              simp at ho
              subst ho
              refine step_plain rfl ?_
              have e8 := hF.was 8 (by kernel_rfl) rfl
              have hgoal : ∀ v W', Below x.heap.size x W' → QB3 w.heap.size AX X.length cx AY Y.length cy AV V.length cv gx EX.length ccx gy EY.length ccy a k xi yk ((atN X Y V xi yk)) ((atD X Y xi yk)) 5 v W' → RQ (QB3 w.heap.size AX X.length cx AY Y.length cy AV V.length cv gx EX.length ccx gy EY.length ccy a k xi yk ((atN X Y V xi yk)) ((atD X Y xi yk))) wr (upd val 5 v) (L.setIfInBounds 5 true) W' := fun v W' hb hq => hR.step hst hb hq
              clear hF hpre hl hR
              go_simp
              exact ⟨_, rfl, hgoal _ _ (Below.refl _ _) rfl⟩
            | 6, ho =>
              simp at ho
              subst ho
              refine step_plain rfl ?_
              have e13 := hF.was 13 (by kernel_rfl) rfl
              have hgoal : ∀ v W', Below x.heap.size x W' → QB3 w.heap.size AX X.length cx AY Y.length cy AV V.length cv gx EX.length ccx gy EY.length ccy a k xi yk ((atN X Y V xi yk)) ((atD X Y xi yk)) 6 v W' → RQ (QB3 w.heap.size AX X.length cx AY Y.length cy AV V.length cv gx EX.length ccx gy EY.length ccy a k xi yk ((atN X Y V xi yk)) ((atD X Y xi yk))) wr (upd val 6 v) (L.setIfInBounds 6 true) W' := fun v W' hb hq => hR.step hst hb hq
              clear hF hpre hl hR
              go_simp
              exact ⟨_, rfl, hgoal _ _ (Below.refl _ _) rfl⟩
            | 7, ho =>
              simp at ho
              subst ho
              refine step_plain rfl ?_
              have e58 := hF.gave 5 rfl (hpre ⟨5, .data⟩ (by simp) rfl) rfl
              have v5 := hR.2 5 (hpre ⟨5, .data⟩ (by simp) rfl)
              rw [show val 5 = .slice (some ⟨gy, 0, none⟩) EY.length ccy from v5] at e58
              clear v5
              have e59 := hF.gave 6 rfl (hpre ⟨6, .data⟩ (by simp) rfl) rfl
              have v6 := hR.2 6 (hpre ⟨6, .data⟩ (by simp) rfl)
              rw [show val 6 = .int .i64 (k : Nat) from v6] at e59
              clear v6
              have hgoal : ∀ v W', Below x.heap.size x W' → QB3 w.heap.size AX X.length cx AY Y.length cy AV V.length cv gx EX.length ccx gy EY.length ccy a k xi yk ((atN X Y V xi yk)) ((atD X Y xi yk)) 7 v W' → RQ (QB3 w.heap.size AX X.length cx AY Y.length cy AV V.length cv gx EX.length ccx gy EY.length ccy a k xi yk ((atN X Y V xi yk)) ((atD X Y xi yk))) wr (upd val 7 v) (L.setIfInBounds 7 true) W' := fun v W' hb hq => hR.step hst hb hq
              clear hF hpre hl hR
              go_simp
              exact ⟨_, rfl, hgoal _ _ (Below.refl _ _) rfl⟩
            | 8, ho =>
              simp at ho
              subst ho
              refine step_plain rfl ?_
              have e60 := hF.gave 7 rfl (hpre ⟨7, .data⟩ (by simp) rfl) rfl
              have v7 := hR.2 7 (hpre ⟨7, .data⟩ (by simp) rfl)
              rw [show val 7 = .pointer (some ⟨gy, k, none⟩) from v7] at e60
              clear v7
              have hgoal : ∀ v W', Below x.heap.size x W' → QB3 w.heap.size AX X.length cx AY Y.length cy AV V.length cv gx EX.length ccx gy EY.length ccy a k xi yk ((atN X Y V xi yk)) ((atD X Y xi yk)) 8 v W' → RQ (QB3 w.heap.size AX X.length cx AY Y.length cy AV V.length cv gx EX.length ccx gy EY.length ccy a k xi yk ((atN X Y V xi yk)) ((atD X Y xi yk))) wr (upd val 8 v) (L.setIfInBounds 8 true) W' := fun v W' hb hq => hR.step hst hb hq
              have q0 := cell_keep hR.1 t0
              have q1 := cell_keep hR.1 t1
              have q2 := cell_keep hR.1 t2
              have q3 := cell_keep hR.1 exa
              have q4 := cell_keep hR.1 eyk
              clear hF hpre hl hR
              go_simp
              exact ⟨_, rfl, hgoal _ _ (Below.refl _ _) rfl⟩
            | 9, ho =>
              simp at ho
              subst ho
              refine step_plain rfl ?_
              have e53 := hF.gave 0 rfl (hpre ⟨0, .data⟩ (by simp) rfl) rfl
              have v0 := hR.2 0 (hpre ⟨0, .data⟩ (by simp) rfl)
              rw [show val 0 = .agg #[.slice AX X.length cx, .slice AY Y.length cy, .slice AV V.length cv] from v0] at e53
              clear v0
              have e57 := hF.gave 4 rfl (hpre ⟨4, .data⟩ (by simp) rfl) rfl
              have v4 := hR.2 4 (hpre ⟨4, .data⟩ (by simp) rfl)
              rw [show val 4 = .int .i64 xi from v4] at e57
              clear v4
              have e61 := hF.gave 8 rfl (hpre ⟨8, .data⟩ (by simp) rfl) rfl
              have v8 := hR.2 8 (hpre ⟨8, .data⟩ (by simp) rfl)
              rw [show val 8 = .int .i64 yk from v8] at e61
              clear v8
              have hgoal : ∀ v W', Below x.heap.size x W' → QB3 w.heap.size AX X.length cx AY Y.length cy AV V.length cv gx EX.length ccx gy EY.length ccy a k xi yk ((atN X Y V xi yk)) ((atD X Y xi yk)) 9 v W' → RQ (QB3 w.heap.size AX X.length cx AY Y.length cy AV V.length cv gx EX.length ccx gy EY.length ccy a k xi yk ((atN X Y V xi yk)) ((atD X Y xi yk))) wr (upd val 9 v) (L.setIfInBounds 9 true) W' := fun v W' hb hq => hR.step hst hb hq
              have q0 := cell_keep hR.1 t0
              have q1 := cell_keep hR.1 t1
              have q2 := cell_keep hR.1 t2
              have q3 := cell_keep hR.1 exa
              have q4 := cell_keep hR.1 eyk
              have hM := Lib.hid hR.1
              clear hF hpre hl hR
              go_simp
              refine ⟨trivial, ?_⟩
              refine CallsIn.mono (callsIn_wide.2 (HV.out _ hM.out)) ?_
              rintro e y9 ⟨rfl, hb9⟩
              exact ⟨_, rfl, hgoal _ _ hb9 rfl⟩
            | 10, ho =>
              simp at ho
              subst ho
              refine step_plain rfl ?_
              have e62 := hF.gave 9 rfl (hpre ⟨9, .data⟩ (by simp) rfl) rfl
              have v9 := hR.2 9 (hpre ⟨9, .data⟩ (by simp) rfl)
              rw [show val 9 = .tuple #[.int .i64 ((atN X Y V xi yk)), .int .i64 ((atD X Y xi yk))] from v9] at e62
              clear v9
              have hgoal : ∀ v W', Below x.heap.size x W' → QB3 w.heap.size AX X.length cx AY Y.length cy AV V.length cv gx EX.length ccx gy EY.length ccy a k xi yk ((atN X Y V xi yk)) ((atD X Y xi yk)) 10 v W' → RQ (QB3 w.heap.size AX X.length cx AY Y.length cy AV V.length cv gx EX.length ccx gy EY.length ccy a k xi yk ((atN X Y V xi yk)) ((atD X Y xi yk))) wr (upd val 10 v) (L.setIfInBounds 10 true) W' := fun v W' hb hq => hR.step hst hb hq
              clear hF hpre hl hR
              go_simp
              exact ⟨_, rfl, hgoal _ _ (Below.refl _ _) rfl⟩
            | 11, ho =>
              simp at ho
              subst ho
              refine step_plain rfl ?_
              have e52 := hF.gave 10 rfl (hpre ⟨10, .data⟩ (by simp) rfl) rfl
              have v10 := hR.2 10 (hpre ⟨10, .data⟩ (by simp) rfl)
              rw [show val 10 = .tuple #[.int .i64 ((atN X Y V xi yk)), .int .i64 ((atD X Y xi yk))] from v10] at e52
              clear v10
              have hgoal : ∀ v W', Below x.heap.size x W' → QB3 w.heap.size AX X.length cx AY Y.length cy AV V.length cv gx EX.length ccx gy EY.length ccy a k xi yk ((atN X Y V xi yk)) ((atD X Y xi yk)) 11 v W' → RQ (QB3 w.heap.size AX X.length cx AY Y.length cy AV V.length cv gx EX.length ccx gy EY.length ccy a k xi yk ((atN X Y V xi yk)) ((atD X Y xi yk))) wr (upd val 11 v) (L.setIfInBounds 11 true) W' := fun v W' hb hq => hR.step hst hb hq
              clear hF hpre hl hR
              go_simp
              exact ⟨_, rfl, hgoal _ _ (Below.refl _ _) rfl⟩
            | 12, ho =>
              simp at ho
              subst ho
              refine step_plain rfl ?_
              have e52 := hF.gave 10 rfl (hpre ⟨10, .data⟩ (by simp) rfl) rfl
              have v10 := hR.2 10 (hpre ⟨10, .data⟩ (by simp) rfl)
              rw [show val 10 = .tuple #[.int .i64 ((atN X Y V xi yk)), .int .i64 ((atD X Y xi yk))] from v10] at e52
              clear v10
              have hgoal : ∀ v W', Below x.heap.size x W' → QB3 w.heap.size AX X.length cx AY Y.length cy AV V.length cv gx EX.length ccx gy EY.length ccy a k xi yk ((atN X Y V xi yk)) ((atD X Y xi yk)) 12 v W' → RQ (QB3 w.heap.size AX X.length cx AY Y.length cy AV V.length cv gx EX.length ccx gy EY.length ccy a k xi yk ((atN X Y V xi yk)) ((atD X Y xi yk))) wr (upd val 12 v) (L.setIfInBounds 12 true) W' := fun v W' hb hq => hR.step hst hb hq
              clear hF hpre hl hR
              go_simp
              exact ⟨_, rfl, hgoal _ _ (Below.refl _ _) rfl⟩
            | 13, ho =>
              simp at ho
              subst ho
              refine step_plain rfl ?_
              have e63 := hF.gave 11 rfl (hpre ⟨11, .data⟩ (by simp) rfl) rfl
              have v11 := hR.2 11 (hpre ⟨11, .data⟩ (by simp) rfl)
              rw [show val 11 = .int .i64 ((atN X Y V xi yk)) from v11] at e63
              clear v11
              have hgoal : ∀ v W', Below x.heap.size x W' → QB3 w.heap.size AX X.length cx AY Y.length cy AV V.length cv gx EX.length ccx gy EY.length ccy a k xi yk ((atN X Y V xi yk)) ((atD X Y xi yk)) 13 v W' → RQ (QB3 w.heap.size AX X.length cx AY Y.length cy AV V.length cv gx EX.length ccx gy EY.length ccy a k xi yk ((atN X Y V xi yk)) ((atD X Y xi yk))) wr (upd val 13 v) (L.setIfInBounds 13 true) W' := fun v W' hb hq => hR.step hst hb hq
              clear hF hpre hl hR
              go_simp
              exact ⟨_, rfl, hgoal _ _ (Below.refl _ _) rfl⟩
            | 14, ho =>
              simp at ho
              subst ho
              refine step_plain rfl ?_
              have e64 := hF.gave 12 rfl (hpre ⟨12, .data⟩ (by simp) rfl) rfl
              have v12 := hR.2 12 (hpre ⟨12, .data⟩ (by simp) rfl)
              rw [show val 12 = .int .i64 ((atD X Y xi yk)) from v12] at e64
              clear v12
              have hgoal : ∀ v W', Below x.heap.size x W' → QB3 w.heap.size AX X.length cx AY Y.length cy AV V.length cv gx EX.length ccx gy EY.length ccy a k xi yk ((atN X Y V xi yk)) ((atD X Y xi yk)) 14 v W' → RQ (QB3 w.heap.size AX X.length cx AY Y.length cy AV V.length cv gx EX.length ccx gy EY.length ccy a k xi yk ((atN X Y V xi yk)) ((atD X Y xi yk))) wr (upd val 14 v) (L.setIfInBounds 14 true) W' := fun v W' hb hq => hR.step hst hb hq
              clear hF hpre hl hR
              go_simp
              exact ⟨_, rfl, hgoal _ _ (Below.refl _ _) rfl⟩
            | i + 15, ho => simp at ho
          case hend =>
          intro val L b' w4 hF hall hR
          have e := hF.all (by kernel_rfl) hall
          have v13 := hR.2 13 (hall 13 (by decide))
          have v14 := hR.2 14 (hall 14 (by decide))
          have hb4 := hR.1
          replace f0 := (cell_frozen hb4 p0).trans f0
          replace f1 := (cell_frozen hb4 p1).trans f1
          replace p0 := cell_keep hb4 p0
          replace p1 := cell_keep hb4 p1
          have HLK4 := Lib.hid (HLK2.out.below hb4)
          have HB4 := Lib.hid (HBR2.out.trans (hb4.mono HBR2.out.size))
          clear hF hall hR hst HV hb4 exa eyk t0 t1 t2
          subst e
          simp [final, dstOf, List.range, List.range.loop]
          rw [show val 13 = .int .i64 (atN X Y V xi yk) from v13, show val 14 = .int .i64 (atD X Y xi yk) from v14]
          clear v13 v14
          generalize val 0 = v0, val 1 = v1, val 2 = v2, val 3 = v3, val 4 = v4, val 5 = v5, val 6 = v6, val 7 = v7, val 8 = v8, val 9 = v9, val 10 = v10, val 11 = v11, val 12 = v12
          go_upto_region 11 with fail
          refine wpIn_wide.1 (region_inv (n := 9) (by kernel_rfl) (fun i => match i with
              | 0 => .pointer (some ⟨go_, 0, none⟩) | 1 => .int .i64 s0 | 2 => .int .i64 (atN X Y V xi yk) | 3 => .int .i64 (atD X Y xi yk) | 4 => .int .i64 (fl (atN X Y V xi yk) (atD X Y xi yk)) | 5 => .int .i64 (min s0 (fl (atN X Y V xi yk) (atD X Y xi yk))) | 6 => .pointer (some ⟨go_, 0, none⟩) | _ => undef)
            (fun L x => (L.getD 7 false = false → Below w4.heap.size w4 x) ∧ (L.getD 7 false = true → ∃ y, Below w4.heap.size w4 y ∧ x = y.setCell ⟨go_, 0, none⟩ (.int .i64 (min s0 (fl (atN X Y V xi yk) (atD X Y xi yk))))))
            (by kernel_rfl) rfl ⟨fun _ => (Below.refl _ _).drew, fun h => by simp at h⟩ ?hstep ?hend)
          case hstep =>
            intro i' o ho L b' x' hF hR hpre hl
            match i', ho with
              | 0, ho =>
                simp at ho
                subst ho
                refine step_plain rfl ?_
                have e11 := hF.was 11 (by kernel_rfl) rfl
                have hN := hF.later hl 7 rfl (e := ⟨0, .phase⟩) (by simp) rfl rfl
                have hM := hR.1 hN
                rw [Array.getD_eq_getD_getElem?] at hN
                clear hF hpre hl hR
                first | (go_simp; done) | (go_simp; exact hM)
              | 1, ho =>
                simp at ho
                subst ho
                refine step_plain rfl ?_
                have e65 := hF.gave 0 rfl (hpre ⟨0, .data⟩ (by simp) rfl) rfl
                have hN := hF.later hl 7 rfl (e := ⟨1, .phase⟩) (by simp) rfl rfl
                have hM := hR.1 hN
                rw [Array.getD_eq_getD_getElem?] at hN
                clear hF hpre hl hR
                have q0 := cell_keep hM p0
                first | (go_simp; done) | (go_simp; exact hM)
              | 2, ho =>
                simp at ho
                subst ho
                refine step_plain rfl ?_
                have e9 := hF.was 9 (by kernel_rfl) rfl
                have hN := hF.later hl 7 rfl (e := ⟨2, .phase⟩) (by simp) rfl rfl
                have hM := hR.1 hN
                rw [Array.getD_eq_getD_getElem?] at hN
                clear hF hpre hl hR
                first | (go_simp; done) | (go_simp; exact hM)
              | 3, ho =>
                simp at ho
                subst ho
                refine step_plain rfl ?_
                have e10 := hF.was 10 (by kernel_rfl) rfl
                have hN := hF.later hl 7 rfl (e := ⟨3, .phase⟩) (by simp) rfl rfl
                have hM := hR.1 hN
                rw [Array.getD_eq_getD_getElem?] at hN
                clear hF hpre hl hR
                first | (go_simp; done) | (go_simp; exact hM)
              | 4, ho =>
                simp at ho
                subst ho
                refine step_plain rfl ?_
                have e67 := hF.gave 2 rfl (hpre ⟨2, .data⟩ (by simp) rfl) rfl
                have e68 := hF.gave 3 rfl (hpre ⟨3, .data⟩ (by simp) rfl) rfl
                have hN := hF.later hl 7 rfl (e := ⟨4, .phase⟩) (by simp) rfl rfl
                have hM := hR.1 hN
                rw [Array.getD_eq_getD_getElem?] at hN
                clear hF hpre hl hR
                have q0 := cell_keep hM p0
                go_simp
                refine ⟨trivial, ?_⟩
                refine CallsIn.mono (callsIn_wide.2 (rfloor_wide (atN X Y V xi yk) (atD X Y xi yk) _ (by omega) (by omega) (by omega) (by omega))) ?_
                rintro e y ⟨rfl, rfl⟩
                exact ⟨rfl, hM⟩
              | 5, ho =>
                simp at ho
                subst ho
                refine step_plain rfl ?_
                have e66 := hF.gave 1 rfl (hpre ⟨1, .data⟩ (by simp) rfl) rfl
                have e69 := hF.gave 4 rfl (hpre ⟨4, .data⟩ (by simp) rfl) rfl
                have hN := hF.later hl 7 rfl (e := ⟨5, .phase⟩) (by simp) rfl rfl
                have hM := hR.1 hN
                rw [Array.getD_eq_getD_getElem?] at hN
                clear hF hpre hl hR
                first | (go_simp; done) | (go_simp; exact hM)
              | 6, ho =>
                simp at ho
                subst ho
                refine step_plain rfl ?_
                have e11 := hF.was 11 (by kernel_rfl) rfl
                have hN := hF.later hl 7 rfl (e := ⟨6, .data⟩) (by simp) rfl rfl
                have hM := hR.1 hN
                rw [Array.getD_eq_getD_getElem?] at hN
                clear hF hpre hl hR
                first | (go_simp; done) | (go_simp; exact hM)
              | 7, ho =>
                simp at ho
                subst ho
                refine step_plain rfl ?_
                have e71 := hF.gave 6 rfl (hpre ⟨6, .data⟩ (by simp) rfl) rfl
                have e70 := hF.gave 5 rfl (hpre ⟨5, .data⟩ (by simp) rfl) rfl
                have hls := hF.lsize
                have hls' : 7 < L.size := by rw [hls]; decide
                have hM := hR.1 (by rw [← getD_same hls']; exact hl)
                clear hF hpre hl hR hls
                have q0 := cell_keep hM p0
                have q1 := (cell_frozen hM p0).trans f0
                go_simp
                exact ⟨x', hM, rfl⟩
              | i + 8, ho => simp at ho
          case hend =>
          intro L b' x' hF hall hR
          have e := hF.all (by kernel_rfl) hall
          obtain ⟨y', hy, hx'⟩ := hR.2 (hall 7 (by decide))
          have HLK5 := Lib.hid (show LK go_ wl x' by rw [hx']; exact (HLK4.out.below hy).set _ _)
          have HB5 := Lib.hid (show Below w.heap.size w x' by rw [hx']; exact (HB4.out.trans (hy.mono HB4.out.size)).setCell (p := ⟨go_, 0, none⟩) (by simp; omega) _)
          have f1' : x'.frozen? ⟨go_, 1, none⟩ = false := by rw [hx']; simp only [World.frozen?_setCell]; exact (cell_frozen hy p1).trans f1
          have p0' : x'.cell? ⟨go_, 0, none⟩ = some (.int .i64 (min s0 (fl (atN X Y V xi yk) (atD X Y xi yk)))) := by rw [hx']; exact World.cell?_setCell_same' _ _ _ (by rw [cell_keep hy p0]; rfl)
          have p1' : x'.cell? ⟨go_, 1, none⟩ = some (.int .i64 s1) := by rw [hx', World.cell?_setCell_other _ _ _ _ (by simp)]; exact cell_keep hy p1
          clear hF hall hR hy hx' HLK4 HB4 p0 p1 f0 f1
          subst e
          simp [final, dstOf, List.range, List.range.loop]
          generalize x' = w5 at *
          have p0 := p0'
          have p1 := p1'
          have f1 := f1'
          clear p0' p1' f1'
          go_upto_region 12 with fail
          refine wpIn_wide.1 (region_inv (n := 9) (by kernel_rfl) (fun i => match i with
              | 0 => .pointer (some ⟨go_, 1, none⟩) | 1 => .int .i64 s1 | 2 => .int .i64 (atN X Y V xi yk) | 3 => .int .i64 (atD X Y xi yk) | 4 => .int .i64 (cl (atN X Y V xi yk) (atD X Y xi yk)) | 5 => .int .i64 (max s1 (cl (atN X Y V xi yk) (atD X Y xi yk))) | 6 => .pointer (some ⟨go_, 1, none⟩) | _ => undef)
            (fun L x => (L.getD 7 false = false → Below w5.heap.size w5 x) ∧ (L.getD 7 false = true → ∃ y, Below w5.heap.size w5 y ∧ x = y.setCell ⟨go_, 1, none⟩ (.int .i64 (max s1 (cl (atN X Y V xi yk) (atD X Y xi yk))))))
            (by kernel_rfl) rfl ⟨fun _ => (Below.refl _ _).drew, fun h => by simp at h⟩ ?hstep ?hend)
          case hstep =>
            intro i' o ho L b' x' hF hR hpre hl
            match i', ho with
              | 0, ho =>
                simp at ho
                subst ho
                refine step_plain rfl ?_
                have e11 := hF.was 11 (by kernel_rfl) rfl
                have hN := hF.later hl 7 rfl (e := ⟨0, .phase⟩) (by simp) rfl rfl
                have hM := hR.1 hN
                rw [Array.getD_eq_getD_getElem?] at hN
                clear hF hpre hl hR
                first | (go_simp; done) | (go_simp; exact hM)
              | 1, ho =>
                simp at ho
                subst ho
                refine step_plain rfl ?_
                have e72 := hF.gave 0 rfl (hpre ⟨0, .data⟩ (by simp) rfl) rfl
                have hN := hF.later hl 7 rfl (e := ⟨1, .phase⟩) (by simp) rfl rfl
                have hM := hR.1 hN
                rw [Array.getD_eq_getD_getElem?] at hN
                clear hF hpre hl hR
                have q0 := cell_keep hM p1
                first | (go_simp; done) | (go_simp; exact hM)
              | 2, ho =>
                simp at ho
                subst ho
                refine step_plain rfl ?_
                have e9 := hF.was 9 (by kernel_rfl) rfl
                have hN := hF.later hl 7 rfl (e := ⟨2, .phase⟩) (by simp) rfl rfl
                have hM := hR.1 hN
                rw [Array.getD_eq_getD_getElem?] at hN
                clear hF hpre hl hR
                first | (go_simp; done) | (go_simp; exact hM)
              | 3, ho =>
                simp at ho
                subst ho
                refine step_plain rfl ?_
                have e10 := hF.was 10 (by kernel_rfl) rfl
                have hN := hF.later hl 7 rfl (e := ⟨3, .phase⟩) (by simp) rfl rfl
                have hM := hR.1 hN
                rw [Array.getD_eq_getD_getElem?] at hN
                clear hF hpre hl hR
                first | (go_simp; done) | (go_simp; exact hM)
              | 4, ho =>
                simp at ho
                subst ho
                refine step_plain rfl ?_
                have e74 := hF.gave 2 rfl (hpre ⟨2, .data⟩ (by simp) rfl) rfl
                have e75 := hF.gave 3 rfl (hpre ⟨3, .data⟩ (by simp) rfl) rfl
                have hN := hF.later hl 7 rfl (e := ⟨4, .phase⟩) (by simp) rfl rfl
                have hM := hR.1 hN
                rw [Array.getD_eq_getD_getElem?] at hN
                clear hF hpre hl hR
                have q0 := cell_keep hM p1
                go_simp
                refine ⟨trivial, ?_⟩
                refine CallsIn.mono (callsIn_wide.2 (rceil_wide (atN X Y V xi yk) (atD X Y xi yk) _ (by omega) (by omega) (by omega) (by omega))) ?_
                rintro e y ⟨rfl, rfl⟩
                exact ⟨rfl, hM⟩
              | 5, ho =>
                simp at ho
                subst ho
                refine step_plain rfl ?_
                have e73 := hF.gave 1 rfl (hpre ⟨1, .data⟩ (by simp) rfl) rfl
                have e76 := hF.gave 4 rfl (hpre ⟨4, .data⟩ (by simp) rfl) rfl
                have hN := hF.later hl 7 rfl (e := ⟨5, .phase⟩) (by simp) rfl rfl
                have hM := hR.1 hN
                rw [Array.getD_eq_getD_getElem?] at hN
                clear hF hpre hl hR
                first | (go_simp; done) | (go_simp; exact hM)
              | 6, ho =>
                simp at ho
                subst ho
                refine step_plain rfl ?_
                have e11 := hF.was 11 (by kernel_rfl) rfl
                have hN := hF.later hl 7 rfl (e := ⟨6, .data⟩) (by simp) rfl rfl
                have hM := hR.1 hN
                rw [Array.getD_eq_getD_getElem?] at hN
                clear hF hpre hl hR
                first | (go_simp; done) | (go_simp; exact hM)
              | 7, ho =>
                simp at ho
                subst ho
                refine step_plain rfl ?_
                have e78 := hF.gave 6 rfl (hpre ⟨6, .data⟩ (by simp) rfl) rfl
                have e77 := hF.gave 5 rfl (hpre ⟨5, .data⟩ (by simp) rfl) rfl
                have hls := hF.lsize
                have hls' : 7 < L.size := by rw [hls]; decide
                have hM := hR.1 (by rw [← getD_same hls']; exact hl)
                clear hF hpre hl hR hls
                have q0 := cell_keep hM p1
                have q1 := (cell_frozen hM p1).trans f1
                go_simp
                exact ⟨x', hM, rfl⟩
              | i + 8, ho => simp at ho
          case hend =>
          intro L b' x' hF hall hR
          have e := hF.all (by kernel_rfl) hall
          obtain ⟨y', hy, hx'⟩ := hR.2 (hall 7 (by decide))
          have HLK6 := Lib.hid (show LK go_ wl x' by rw [hx']; exact (HLK5.out.below hy).set _ _)
          have HB6 := Lib.hid (show Below w.heap.size w x' by rw [hx']; exact (HB5.out.trans (hy.mono HB5.out.size)).setCell (p := ⟨go_, 1, none⟩) (by simp; omega) _)
          have p1' : x'.cell? ⟨go_, 1, none⟩ = some (.int .i64 (max s1 (cl (atN X Y V xi yk) (atD X Y xi yk)))) := by rw [hx']; exact World.cell?_setCell_same' _ _ _ (by rw [cell_keep hy p1]; rfl)
          have p0' : x'.cell? ⟨go_, 0, none⟩ = some (.int .i64 (min s0 (fl (atN X Y V xi yk) (atD X Y xi yk)))) := by rw [hx', World.cell?_setCell_other _ _ _ _ (by simp)]; exact cell_keep hy p0
          clear hF hall hR hy hx' HLK5 HB5 p0 p1 f1
          subst e
          simp [final, dstOf, List.range, List.range.loop]
          generalize x' = w6 at *
          have hstep : bfR X Y V x1 y1 (cornersL X Y V (EX.take a) EY ++ (EY.take (k + 1)).map (cnOf X Y V xi)) = (min s0 (fl (atN X Y V xi yk) (atD X Y xi yk)), max s1 (cl (atN X Y V xi yk) (atD X Y xi yk))) := by
            rw [List.take_add_one, HYK.out]
            simp only [Option.toList_some, List.map_append, List.map_cons, List.map_nil]
            rw [← List.append_assoc, bfR_snoc, HSS.out]
            rfl
          have HST := Lib.hid hstep
          clear hstep gd1 gd2 gn1 gn2
          go_wp2_with fail
          go_roundw
          case rel => exact ⟨k + 1, by omega, by go_num, by rw [HST.out]; exact p0', by rw [HST.out]; exact p1', HLK6.out, HB6.out⟩
          case measure => simp [intOf]; omega
        · obtain rfl : k = EY.length := by omega
          have hrow : bfR X Y V x1 y1 (cornersL X Y V (EX.take (a + 1)) EY) = (s0, s1) := by
            rw [corn_row hxi, ← hs, List.take_of_length_le (Nat.le_refl _)]
          have HROW := Lib.hid hrow
          clear hrow hs hxi hlk2 hbr2 hlk hbr
          go_wp2_with fail
          go_roundw
          case rel => exact ⟨a + 1, by omega, by go_num, by rw [HROW.out]; exact p0, by rw [HROW.out]; exact p1, HLK2.out, HBR2.out⟩
          case measure => simp [intOf]; omega
    · obtain rfl : a = EX.length := by omega
      rw [List.take_of_length_le (Nat.le_refl _), bfR_eq (HG.out x1 y1 HO.out.1 HO.out.2) (cornersL_zero HEX.out.1 HEY.out.1)] at p0 p1
      generalize hbl : bndL (cornersL X Y V EX EY) = bl at *
      have HBL := Lib.hid hbl
      clear hbl
      have r0 := (hlk.c (w.heap.size + 1 + 1 + 1) 0 (by omega) (by omega)).trans r0
      have r1 := (hlk.c (w.heap.size + 1 + 1 + 1) 1 (by omega) (by omega)).trans r1
      have z0 := (hlk.f (w.heap.size + 1 + 1 + 1) 0 (by omega)).trans z0
      have z1 := (hlk.f (w.heap.size + 1 + 1 + 1) 1 (by omega)).trans z1
      have y1 : ∀ v, (wr.setCell ⟨w.heap.size + 1 + 1 + 1, 0, none⟩ v).cell? ⟨w.heap.size + 1 + 1 + 1, 0, none⟩ = some v := fun v => World.cell?_setCell_same' _ _ _ (by rw [r0]; rfl)
      have y2 : ∀ v u, ((wr.setCell ⟨w.heap.size + 1 + 1 + 1, 0, none⟩ v).setCell ⟨w.heap.size + 1 + 1 + 1, 1, none⟩ u).cell? ⟨w.heap.size + 1 + 1 + 1, 1, none⟩ = some u := fun v u => World.cell?_setCell_same' _ _ _ (by rw [World.cell?_setCell_other _ _ _ _ (by simp), r1]; rfl)
      clear hlk hbr
      go_wp2_with fail
      refine bodyPost_ret (v := .agg #[.int .i64 bl.1, .int .i64 bl.2]) (by simp [results, Try.results129, go_sem, y1, y2]) rfl ?_
      exact ⟨by rw [HBL.out], (HBR.out.setCell (by simp; omega) _).setCell (by simp; omega) _⟩

end Go.Proofs.Ythhokiigdgpmcaa

/- At a knot a table has its own value. -/
namespace Go.Proofs.Ythhokiigdgpmcaa

theorem st_mono {X : List Int} (h : stN X (X.length - 1) = true) {i j : Nat} (hij : i < j) (hj : j < X.length) : gz X i < gz X j := by
  induction j with
  | zero => omega
  | succ j ih =>
    have s := stN_get h (m := j) (by omega)
    have e : gz X j < gz X (j + 1) := by unfold gz; omega
    by_cases hlt : i < j
    · have := ih hlt (by omega)
      omega
    · obtain rfl : i = j := by omega
      exact e

theorem knot_on {X : List Int} (h : axB X = true) {i : Nat} (hi : i < X.length) : On X (gz X i) := by
  obtain ⟨a, b, c, d⟩ := axB_get h
  constructor
  · by_cases h0 : i = 0
    · rw [h0]; omega
    · have := st_mono d (i := 0) (j := i) (by omega) hi
      omega
  · by_cases h0 : i = X.length - 1
    · rw [← h0]; omega
    · have := st_mono d (i := i) (j := X.length - 1) (by omega) (by omega)
      omega

/-- The part of a knot begins or ends with it. -/
theorem knot_part {X : List Int} (h : axB X = true) {i : Nat} (hi : i < X.length) : i = partN X (gz X i) ∨ i = partN X (gz X i) + 1 := by
  obtain ⟨a, b, c, d⟩ := axB_get h
  have o := knot_on h hi
  have s := seg_of h o.1 o.2
  have sl := s.lt
  have slo := s.lo
  have shi := s.hi
  generalize partN X (gz X i) = p at *
  rcases Nat.lt_trichotomy i p with hlt | hlt | hlt
  · have := st_mono d hlt (by omega)
    omega
  · exact .inl hlt
  · by_cases e : i = p + 1
    · exact .inr e
    · have := st_mono d (i := p + 1) (j := i) (by omega) hi
      omega

theorem knot_num {Y : List Int} {V : List (List Int)} (h : axB Y = true) {i k : Nat} (hk : k < Y.length) : kNum Y V i (gz Y k) = kDen Y (gz Y k) * gz (gr V i) k := by
  unfold kNum kDen
  rcases knot_part h hk with e | e
  · rw [← e]
    have : gz Y k - gz Y k = 0 := by omega
    rw [this]
    simp
  · rw [← e]
    have : gz Y k - gz Y k = 0 := by omega
    rw [this]
    simp

theorem knot_atN {X Y : List Int} {V : List (List Int)} (hx : axB X = true) (hy : axB Y = true) {i k : Nat} (hi : i < X.length) (hk : k < Y.length) : atN X Y V (gz X i) (gz Y k) = gz (gr V i) k * atD X Y (gz X i) (gz Y k) := by
  unfold atN atD
  rcases knot_part hx hi with e | e
  · rw [← e]
    simp only [knot_num hy hk]
    have : gz X i - gz X i = 0 := by omega
    rw [this]
    simp
    grind
  · rw [← e]
    simp only [knot_num hy hk]
    have : gz X i - gz X i = 0 := by omega
    rw [this]
    simp
    grind

theorem fl_mul {v d : Int} (h : 1 ≤ d) : fl (v * d) d = v := by
  unfold fl
  exact Int.mul_ediv_cancel v (by omega)
theorem cl_mul {v d : Int} (h : 1 ≤ d) : cl (v * d) d = v := by
  unfold cl
  rw [show -(v * d) = (-v) * d by grind, Int.mul_ediv_cancel (-v) (by omega)]
  omega

end Go.Proofs.Ythhokiigdgpmcaa

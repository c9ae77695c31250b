/- The reference's knots and CheckTable. -/
import Derived.Test.YtjdahphnmeaolaaChk
namespace Go.Proofs.Ytjdahphnmeaolaa
open Go.RowKit

theorem from_yes {a b c : Int} (h1 : b ≤ a) (h2 : a ≤ c) (w : World) : Calls Try.prog 48 #[.int .i64 a, .int .i64 b, .int .i64 c] w fun e w' => e = .returned (.bool true) ∧ w = w' := by
  have := from_any a b c w
  rwa [show (decide (b ≤ a) && decide (a ≤ c)) = true by simp [h1, h2]] at this
theorem from_no {a b c : Int} (h : ¬ (b ≤ a ∧ a ≤ c)) (w : World) : Calls Try.prog 48 #[.int .i64 a, .int .i64 b, .int .i64 c] w fun e w' => e = .returned (.bool false) ∧ w = w' := by
  have := from_any a b c w
  rwa [show (decide (b ≤ a) && decide (a ≤ c)) = false by simp; omega] at this

theorem axB_bad1 {X : List Int} {k : Nat} {x : Int} (hx : X[k]? = some x) (h : ¬ (-1000000 ≤ x ∧ x ≤ 1000000)) : axB X = false := by
  unfold axB
  rw [wB_bad hx (by omega)]
  simp
theorem axB_bad2 {X : List Int} {k : Nat} {x y : Int} (hx : X[k + 1]? = some x) (hy : X[k]? = some y) (h : ¬ (1 ≤ x - y ∧ x - y ≤ 10000)) : axB X = false := by
  unfold axB
  have hk : k + 1 < X.length := (List.getElem?_eq_some_iff.1 hx).1
  have : stN X (X.length - 1) = false := stN_bad (m := k) (by omega) (by rw [hx, hy]; simp; omega)
  rw [this]
  simp
theorem axB_good {X : List Int} (h1 : 2 ≤ X.length) (h2 : X.length ≤ 12) (h3 : wB (-1000000) 1000000 X = true) (h4 : stN X (X.length - 1) = true) : axB X = true := by
  unfold axB
  simp [h1, h2, h3, h4]

set_option maxRecDepth 100000 in
theorem knots_any (A : Option Addr) (n c B : Nat) (X : List Int) (w : World) (hx : X.length = n) (hn : n ≤ maxLen) (hB : B ≤ w.heap.size) (h : RI w B A X) :
    Calls Try.prog 68 #[.slice A n c] w fun e w' => e = .returned (.bool (axB X)) ∧ Below w.heap.size w w' := by
  subst hx
  unfold maxLen at hn
  by_cases h1 : 2 ≤ X.length ∧ X.length ≤ 12
  · obtain ⟨h1, h2⟩ := h1
    have HF := Lib.hid (from_yes (a := (X.length : Int)) (b := 2) (c := 12) (by omega) (by omega))
    have HL := Lib.hid (And.intro h1 h2)
    have HI := Lib.hid h
    clear h1 h2 h
    go_enter Try.func68, Try.ntmps68
    go_wp2_with (go_at_call 48; refine Calls.mono (HF.out _) ?_; rintro e w1 ⟨rfl, rfl⟩)
    go_loopw [3] (fun i wr => ∃ k : Nat, k ≤ X.length ∧ i = .int .i64 k ∧ wB (-1000000) 1000000 (X.take k) = true ∧ stN X (k - 1) = true ∧ Below w.heap.size w wr) (fun i _ => X.length - (intOf i).toNat)
    case atStart => exact ⟨0, by omega, rfl, by simp [wB], by simp [stN], by go_grown⟩
    case round =>
      obtain ⟨k, hk, rfl, hw, hs, hbw⟩ := hrel
      have HBW := Lib.hid hbw
      have HJ := Lib.hid ((HI.out.more hB).below hbw)
      have HW := Lib.hid (And.intro hw hs)
      clear hw hs
      by_cases hlt : k < X.length
      · obtain ⟨b, off, x, rfl, hb, hx, hc⟩ := HJ.out.at_ hlt
        clear hbw
        have HX := Lib.hid hx
        have hk0 : (k : Int) < X.length := by omega
        by_cases g1 : -1000000 ≤ x ∧ x ≤ 1000000
        · have HF1 := Lib.hid (from_yes (a := x) (b := -1000000) (c := 1000000) g1.1 g1.2)
          cases k with
          | zero =>
            simp only [Nat.add_zero] at hc
            clear hx
            go_upto_region 6 with fail
            go_quiet ((go_at_call 48; exact quiet_left (HF1.out _)))
            go_wp2
            go_roundw
            case rel => exact ⟨1, by omega, by go_num, by rw [wB_step HX.out]; simp [wB, g1.1, g1.2], by simp [stN], below_drewN HBW.out _⟩
            case measure => simp [intOf]; omega
          | succ k =>
            obtain ⟨b', off', y, hA, hb', hy, hc2⟩ := HJ.out.at_ (k := k) (by omega)
            obtain ⟨rfl, rfl⟩ : b = b' ∧ off = off' := by simpa using hA
            have HY := Lib.hid hy
            have hyb := wB_mem HW.out.1 (show (X.take (k + 1))[k]? = some y by rw [List.getElem?_take_of_lt (by omega)]; exact hy)
            obtain ⟨y1, y2⟩ := hyb
            obtain ⟨x1, x2⟩ := g1
            have i1 : ((k + 1 : Nat) : Int) - 1 = k := by omega
            have i2 : IntKind.i64.wrap (((k + 1 : Nat) : Int) - 1) = k := by rw [IntWalk.i64_in _ (by omega)]; omega
            have i3 : IntKind.i64.wrap (x - y) = x - y := IntWalk.i64_in _ (by omega)
            have i4 : (0 : Int) < ((k + 1 : Nat) : Int) := by omega
            have i5 : (k : Int) < X.length := by omega
            have i6 : (0 : Int) ≤ (k : Int) := by omega
            have i7 : (k : Int) + 1 - 1 = k := by omega
            have i8 : IntKind.i64.wrap (k : Int) = k := IntWalk.i64_in _ (by omega)
            have i9 : ((k : Int) + 1).toNat = k + 1 := by omega
            have i10 : (0 : Int) ≤ (k : Int) + 1 := by omega
            have i11 : (0 : Int) < (k : Int) + 1 := by omega
            have i12 : (k : Int) + 1 < X.length := by omega
            clear hx hy hA
            by_cases g2 : 1 ≤ x - y ∧ x - y ≤ 10000
            · have HF2 := Lib.hid (from_yes (a := x - y) (b := 1) (c := 10000) g2.1 g2.2)
              go_upto_region 6 with fail
              go_quiet (first
                | (go_at_call_of 48 (Value.int .i64 10000); exact quiet_left (HF2.out _))
                | (go_at_call 48; exact quiet_left (HF1.out _)))
              go_wp2
              go_roundw
              case rel => exact ⟨k + 1 + 1, by omega, by go_num, by rw [wB_step HX.out, HW.out.1]; simp [x1, x2], by have hs := HW.out.2; simp only [Nat.add_sub_cancel] at hs; show stN X (k + 1) = true; rw [stN_step, hs, HX.out, HY.out]; simp [g2.1, g2.2], below_drewN HBW.out _⟩
              case measure => simp [intOf]; omega
            · have HF2 := Lib.hid (from_no (a := x - y) (b := 1) (c := 10000) g2)
              have G2 := Lib.hid g2
              clear g2
              go_upto_region 6 with fail
              go_quiet (first
                | (go_at_call_of 48 (Value.int .i64 10000); exact quiet_left (HF2.out _))
                | (go_at_call 48; exact quiet_left (HF1.out _)))
              go_wp2
              go_ret
              exact ⟨ret_bool (axB_bad2 HX.out HY.out G2.out).symm, below_drewN HBW.out _⟩
        · have HF1 := Lib.hid (from_no (a := x) (b := -1000000) (c := 1000000) g1)
          have G1 := Lib.hid g1
          clear g1 hx
          go_upto_region 6 with fail
          go_quiet ((go_at_call 48; exact quiet_left (HF1.out _)))
          go_wp2
          go_ret
          exact ⟨ret_bool (axB_bad1 HX.out G1.out).symm, below_drewN HBW.out _⟩
      · obtain rfl : k = X.length := by omega
        go_wp2
        go_ret
        exact ⟨ret_bool (axB_good HL.out.1 HL.out.2 (by have := HW.out.1; rwa [List.take_of_length_le (by omega)] at this) HW.out.2).symm, HBW.out⟩
  · have HF := Lib.hid (from_no (a := (X.length : Int)) (b := 2) (c := 12) (by omega))
    have e1 : axB X = false := by unfold axB; simp; omega
    rw [e1]
    clear h1 e1
    go_enter Try.func68, Try.ntmps68
    go_wp2_with (go_at_call 48; refine Calls.mono (HF.out _) ?_; rintro e w1 ⟨rfl, rfl⟩)
    go_ret
    exact ⟨rfl, by go_grown⟩

set_option maxRecDepth 100000 in
set_option maxHeartbeats 1000000 in
theorem rct_any (AX AY AV : Option Addr) (nx cx ny cy nv cv B : Nat) (X Y : List Int) (V : List (List Int)) (w : World) (hx : X.length = nx) (hy : Y.length = ny) (hv : V.length = nv) (hnx : nx ≤ maxLen) (hny : ny ≤ maxLen) (hnv : nv ≤ maxLen) (hnr : ∀ r ∈ V, r.length ≤ maxLen)
    (hB : B ≤ w.heap.size) (h : TB w B AX AY AV X Y V) :
    Calls Try.prog 24 #[.agg #[.slice AX nx cx, .slice AY ny cy, .slice AV nv cv]] w fun e w' => e = .returned (.int .i64 (ctE X Y V)) ∧ Below w.heap.size w w' := by
  subst hx hy hv
  unfold maxLen at hnr
  cases h1 : axB X with
  | false =>
    rw [ctE_no (by unfold ctB; simp [h1])]
    have H1 := Lib.hid h1
    clear h1
    go_enter Try.func24, Try.ntmps24
    go_wp2_with (go_at_call 68; refine Calls.mono (knots_any AX _ _ B X _ rfl hnx (by simp; omega) (h.x.below (by go_grown))) ?_; rintro e w1 ⟨rfl, hb1⟩; rw [H1.out])
    go_ret
    exact ⟨rfl, Below.trans (by go_grown) (hb1.mono (by simp))⟩
  | true =>
  cases h2 : axB Y with
  | false =>
    rw [ctE_no (by unfold ctB; simp [h2])]
    have H1 := Lib.hid h1
    have H2 := Lib.hid h2
    clear h1 h2
    go_enter Try.func24, Try.ntmps24
    go_wp2_with (first
      | (go_at_call_of 68 (Value.slice AX X.length cx); refine Calls.mono (knots_any AX _ _ B X _ rfl hnx (by simp; omega) (h.x.below (by go_grown))) ?_; rintro e w1 ⟨rfl, hb1⟩; rw [H1.out]; obtain ⟨hc1, hf1⟩ := bcell hb1; have hB1 := hb1.size; simp at hB1; have hz1 : w.heap.size < w1.heap.size := by omega)
      | (go_at_call_of 68 (Value.slice AY Y.length cy); refine Calls.mono (knots_any AY _ _ B Y _ rfl hny (by omega) ((h.y.below (by go_grown)).below (hb1.mono (by simp; omega)))) ?_; rintro e w2 ⟨rfl, hb2⟩; rw [H2.out]))
    go_ret
    exact ⟨rfl, (Below.trans (by go_grown) (hb1.mono (by simp))).trans (hb2.mono (by omega))⟩
  | true =>
  by_cases h3 : V.length = X.length
  · have h3' : ((V.length : Int) != (X.length : Int)) = false := by rw [bne_eq_false_iff_eq]; omega
    have H3 := Lib.hid h3
    have H1 := Lib.hid h1
    have H2 := Lib.hid h2
    clear h3 h1 h2
    have hnv' := hnv
    unfold maxLen at hnv'
    go_enter Try.func24, Try.ntmps24
    go_wp2_with (first
      | (go_at_call_of 68 (Value.slice AX X.length cx); refine Calls.mono (knots_any AX _ _ B X _ rfl hnx (by simp; omega) (h.x.below (by go_grown))) ?_; rintro e w1 ⟨rfl, hb1⟩; rw [H1.out]; obtain ⟨hc1, hf1⟩ := bcell hb1; have hB1 := hb1.size; simp at hB1; have hz1 : w.heap.size < w1.heap.size := by omega)
      | (go_at_call_of 68 (Value.slice AY Y.length cy); refine Calls.mono (knots_any AY _ _ B Y _ rfl hny (by omega) ((h.y.below (by go_grown)).below (hb1.mono (by simp; omega)))) ?_; rintro e w2 ⟨rfl, hb2⟩; rw [H2.out]; obtain ⟨hc2, hf2⟩ := bcell hb2; have hB2 := hb2.size; have hz2 : w.heap.size < w2.heap.size := by omega))
    have hbw : Below w.heap.size w w2 := (Below.trans (by go_grown) (hb1.mono (by simp))).trans (hb2.mono (by omega))
    have hbox1 : w2.cell? ⟨w.heap.size, 1, none⟩ = some (.slice AY Y.length cy) := by rw [hc2 _ _ hz1, hc1 _ _ (by simp)]; rw [cell_newest]; rfl
    have hbox2 : w2.cell? ⟨w.heap.size, 2, none⟩ = some (.slice AV V.length cv) := by rw [hc2 _ _ hz1, hc1 _ _ (by simp)]; rw [cell_newest]; rfl
    have HV := Lib.hid (h.v.below (hbw.mono hB))
    have HBW := Lib.hid hbw
    clear hc1 hf1 hc2 hf2 hb1 hb2 h h3' hbw hB1 hB2 hz1
    go_loopw [3] (fun i wr => ∃ k : Nat, k ≤ V.length ∧ i = .int .i64 k ∧ rowsB Y.length (V.take k) = true ∧ Below w2.heap.size w2 wr) (fun i _ => V.length - (intOf i).toNat)
    case atStart => exact ⟨0, by omega, rfl, by simp [rowsB], Below.refl _ _⟩
    case round =>
      obtain ⟨k, hk, rfl, hw, hwr⟩ := hrel
      have c1 : wr.cell? ⟨w.heap.size, 1, none⟩ = some (.slice AY Y.length cy) := cell_keep hwr hbox1
      have c2 : wr.cell? ⟨w.heap.size, 2, none⟩ = some (.slice AV V.length cv) := cell_keep hwr hbox2
      have hV : RR wr B AV V := HV.out.below (hwr.mono (by have := HBW.out.size; omega))
      have HWR := Lib.hid hwr
      have HW := Lib.hid hw
      clear hw hwr
      by_cases hlt : k < V.length
      · obtain ⟨b, off, r, A', c', rfl, hb, hr, hc, hri⟩ := hV.at_ hlt
        have hrl := hnr r (List.mem_of_getElem? hr)
        have HR := Lib.hid hr
        have HRI := Lib.hid hri
        have hk0 : (k : Int) < V.length := by omega
        clear hr hri hV
        by_cases g1 : r.length = Y.length
        · have g1' : ((r.length : Int) != (Y.length : Int)) = false := by rw [bne_eq_false_iff_eq]; omega
          have G1 := Lib.hid g1
          clear g1
          go_upto_region 6 with fail
          go_quiet (fail)
          generalize hwq : wr.drewN nq = wq
          have d1 : wq.cell? ⟨w.heap.size, 1, none⟩ = some (.slice AY Y.length cy) := by rw [← hwq]; exact c1
          have d2 : wq.cell? ⟨w.heap.size, 2, none⟩ = some (.slice (some ⟨b, off, none⟩) V.length cv) := by rw [← hwq]; exact c2
          have dc : wq.cell? ⟨b, off + k, none⟩ = some (.slice A' r.length c') := by rw [← hwq]; exact hc
          have HRQ := Lib.hid (show RI wq B A' r by rw [← hwq]; exact HRI.out)
          have HWQ := Lib.hid (show Below w2.heap.size w2 wq by rw [← hwq]; exact below_drewN HWR.out nq)
          clear hwq c1 c2 hc
          go_wp2_with fail
          go_loopw [4] (fun i wr => ∃ j : Nat, j ≤ r.length ∧ i = .int .i64 j ∧ wB (-1000000) 1000000 (r.take j) = true ∧ wr = wq) (fun i _ => r.length - (intOf i).toNat)
          case atStart => exact ⟨0, by omega, rfl, by simp [wB], rfl⟩
          case round =>
            obtain ⟨j, hj, rfl, hwb, rfl⟩ := hrel
            have HWB := Lib.hid hwb
            clear hwb
            by_cases hjt : j < r.length
            · obtain ⟨b2, off2, x, rfl, hb2, hx, hcx⟩ := HRQ.out.at_ hjt
              have HX := Lib.hid hx
              have hj0 : (j : Int) < r.length := by omega
              clear hx
              by_cases g2 : -1000000 ≤ x ∧ x ≤ 1000000
              · have HF := Lib.hid (from_yes (a := x) (b := -1000000) (c := 1000000) g2.1 g2.2)
                obtain ⟨x1, x2⟩ := g2
                go_wp2_with (go_at_call 48; refine Calls.mono (HF.out _) ?_; rintro e w9 ⟨rfl, rfl⟩)
                go_roundw
                case rel => exact ⟨j + 1, by omega, by go_num, by rw [wB_step HX.out, HWB.out]; simp [x1, x2], by first | rfl | trivial⟩
                case measure => simp [intOf]; omega
              · have HF := Lib.hid (from_no (a := x) (b := -1000000) (c := 1000000) g2)
                have G2 := Lib.hid g2
                clear g2
                go_wp2_with (go_at_call 48; refine Calls.mono (HF.out _) ?_; rintro e w9 ⟨rfl, rfl⟩)
                go_ret
                exact ⟨ret_int (ctE_no (by unfold ctB; rw [rowsB_bad HR.out (n := Y.length) (by rw [wB_bad HX.out (by have := G2.out; omega)]; simp)]; simp)).symm, HBW.out.trans (HWQ.out.mono HBW.out.size)⟩
            · obtain rfl : j = r.length := by omega
              go_wp2_with fail
              go_roundw
              case rel => exact ⟨k + 1, by omega, by go_num, by have hwb := HWB.out; rw [List.take_of_length_le (by omega)] at hwb; rw [rowsB_step HR.out, HW.out, hwb, G1.out]; simp, HWQ.out⟩
              case measure => simp [intOf]; omega
        · have g1' : ((r.length : Int) != (Y.length : Int)) = true := by rw [bne_iff_ne]; omega
          have G1 := Lib.hid g1
          clear g1
          go_upto_region 6 with fail
          go_quiet (fail)
          go_wp2
          go_ret
          exact ⟨ret_int (ctE_no (by unfold ctB; rw [rowsB_bad HR.out (n := Y.length) (by simp [G1.out])]; simp)).symm, HBW.out.trans ((below_drewN HWR.out nq).mono HBW.out.size)⟩
      · obtain rfl : k = V.length := by omega
        go_wp2_with fail
        go_ret
        exact ⟨ret_int (ctE_yes (by have hw := HW.out; rw [List.take_of_length_le (by omega)] at hw; unfold ctB; simp [H1.out, H2.out, H3.out, hw])).symm, HBW.out.trans (HWR.out.mono HBW.out.size)⟩
  · rw [ctE_no (by unfold ctB; simp [h3])]
    have h3' : ((V.length : Int) != (X.length : Int)) = true := by rw [bne_iff_ne]; omega
    have H1 := Lib.hid h1
    have H2 := Lib.hid h2
    clear h1 h2 h3
    go_enter Try.func24, Try.ntmps24
    go_wp2_with (first
      | (go_at_call_of 68 (Value.slice AX X.length cx); refine Calls.mono (knots_any AX _ _ B X _ rfl hnx (by simp; omega) (h.x.below (by go_grown))) ?_; rintro e w1 ⟨rfl, hb1⟩; rw [H1.out]; obtain ⟨hc1, hf1⟩ := bcell hb1; have hB1 := hb1.size; simp at hB1; have hz1 : w.heap.size < w1.heap.size := by omega)
      | (go_at_call_of 68 (Value.slice AY Y.length cy); refine Calls.mono (knots_any AY _ _ B Y _ rfl hny (by omega) ((h.y.below (by go_grown)).below (hb1.mono (by simp; omega)))) ?_; rintro e w2 ⟨rfl, hb2⟩; rw [H2.out]; obtain ⟨hc2, hf2⟩ := bcell hb2; have hB2 := hb2.size; have hz2 : w.heap.size < w2.heap.size := by omega))
    go_ret
    exact ⟨rfl, (Below.trans (by go_grown) (hb1.mono (by simp))).trans (hb2.mono (by omega))⟩

end Go.Proofs.Ytjdahphnmeaolaa

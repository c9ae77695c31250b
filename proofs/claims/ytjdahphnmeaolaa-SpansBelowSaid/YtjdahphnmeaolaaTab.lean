/- spans.axis, onAxis, CheckTable. -/
import Derived.Test.YtjdahphnmeaolaaSpan
import Derived.IntWalk
namespace Go.Proofs.Ytjdahphnmeaolaa
open Go.RowKit

set_option maxHeartbeats 400000 in
theorem axis_any (A : Option Addr) (n c B : Nat) (X : List Int) (w : World) (hx : X.length = n) (hn : n ≤ maxLen) (hB : B ≤ w.heap.size) (h : RI w B A X) :
    Calls Try.prog 66 #[.slice A n c] w fun e w' => e = .returned (.bool (axB X)) ∧ Below w.heap.size w w' := by
  subst hx
  have hn' := hn
  unfold maxLen at hn'
  cases h1 : wB 2 12 [(X.length : Int)] with
  | false =>
    have e1 : axB X = false := by unfold axB; simp [wB] at h1 ⊢; omega
    go_enter Try.func66, Try.ntmps66
    go_wp2_with (go_at_call 67; refine (within_any 2 12 _ 1 _ _ [(X.length : Int)] _ rfl (le_maxLen (by omega)) (RI.new1 (by simp))).mono ?_; rintro e w' ⟨rfl, rfl⟩)
    go_ret
    exact ⟨ret_bool e1.symm, by go_grown⟩
  | true =>
    have hl : 2 ≤ X.length ∧ X.length ≤ 12 := by simp [wB] at h1; omega
    obtain ⟨hl1, hl2⟩ := hl
    cases h2 : wB (-1000000) 1000000 X with
    | false =>
      have e1 : axB X = false := by unfold axB; simp [h2]
      go_enter Try.func66, Try.ntmps66
      go_wp2_with (first
        | (go_at_call_of 67 (Value.int .i64 12); refine (within_any 2 12 _ 1 _ _ [(X.length : Int)] _ rfl (le_maxLen (by omega)) (RI.new1 (by simp))).mono ?_; rintro e w' ⟨rfl, rfl⟩)
        | (go_at_call_of 67 (Value.int .i64 1000000); refine (within_any (-1000000) 1000000 _ _ _ _ X _ rfl hn (h.below (by go_grown))).mono ?_; rintro e w' ⟨rfl, rfl⟩))
      go_ret
      exact ⟨ret_bool e1.symm, by go_grown⟩
    | true =>
      go_enter Try.func66, Try.ntmps66
      go_wp2_with (first
        | (go_at_call_of 67 (Value.int .i64 12); refine (within_any 2 12 _ 1 _ _ [(X.length : Int)] _ rfl (le_maxLen (by omega)) (RI.new1 (by simp))).mono ?_; rintro e w' ⟨rfl, rfl⟩)
        | (go_at_call_of 67 (Value.int .i64 1000000); refine (within_any (-1000000) 1000000 _ _ _ _ X _ rfl hn (h.below (by go_grown))).mono ?_; rintro e w' ⟨rfl, rfl⟩))
      go_loopw [3] (fun i wr => ∃ m : Nat, m + 1 ≤ X.length ∧ i = .int .i64 ((m : Int) + 1) ∧ stN X m = true ∧ Below w.heap.size w wr) (fun i _ => X.length - (intOf i).toNat)
      case atStart => exact ⟨0, by omega, rfl, by simp [stN], by go_grown⟩
      case round =>
        obtain ⟨m, hk, rfl, hw, hbw⟩ := hrel
        have hsz := hbw.size
        by_cases hlt : m + 1 < X.length
        · obtain ⟨b, off, x, rfl, hb, hx, hc⟩ := ((h.more hB).below hbw).at_ hlt
          obtain ⟨b', off', y, hA, hb', hy, hc'⟩ := ((h.more hB).below hbw).at_ (k := m) (by omega)
          obtain ⟨rfl, rfl⟩ : b' = b ∧ off' = off := by simpa [eq_comm] using hA
          have hbx := wB_mem h2 hx
          have hby := wB_mem h2 hy
          have hb'' : b' < wr.heap.size := by omega
          obtain ⟨hbx1, hbx2⟩ := hbx
          obtain ⟨hby1, hby2⟩ := hby
          have hlt1 : (m : Int) + 1 < X.length := by omega
          have hlt2 : (m : Int) < X.length := by omega
          have hi : ((m : Int) + 1).toNat = m + 1 := by omega
          have hi2 : (m : Int) + 1 - 1 = m := by omega
          have hi3 : IntKind.i64.wrap ((m : Int) + 1 - 1) = m := by rw [IntWalk.i64_in _ (by omega)]; omega
          have hi6 : IntKind.i64.wrap (m : Int) = m := IntWalk.i64_in _ (by omega)
          have hi4 : (0 : Int) ≤ (m : Int) + 1 := by omega
          have hi5 : (0 : Int) ≤ (m : Int) := by omega
          have HX := Lib.hid hx
          have HY := Lib.hid hy
          have HW := Lib.hid hw
          have hs : IntKind.i64.wrap (x - y) = x - y := IntWalk.i64_in _ (by omega)
          clear hx hy hw hA hb
          cases hv : wB 1 10000 [x - y] with
          | false =>
            have e1 : axB X = false := by
              have : stN X (X.length - 1) = false := stN_bad (m := m) (by omega) (by rw [HX.out, HY.out]; simp [wB] at hv ⊢; omega)
              unfold axB; simp [this]
            have E1 := Lib.hid e1
            clear e1
            go_wp2
            go_region_held3 (fun w' => w'.cell? ⟨b', off' + (m + 1), none⟩ = some (.int .i64 x) ∧ w'.cell? ⟨b', off' + m, none⟩ = some (.int .i64 y)) (go_keep)
              ((go_at_call 67; refine (within_any 1 10000 _ 1 _ _ [x - y] _ rfl (le_maxLen (by omega)) (RI.drew (RI.new1 (by simp)))).mono ?_; rintro e w' ⟨rfl, rfl⟩))
            all_goals go_wp2
            all_goals go_ret
            exact ⟨ret_bool E1.out.symm, by go_grown⟩
          | true =>
            go_wp2
            go_region_held3 (fun w' => w'.cell? ⟨b', off' + (m + 1), none⟩ = some (.int .i64 x) ∧ w'.cell? ⟨b', off' + m, none⟩ = some (.int .i64 y)) (go_keep)
              ((go_at_call 67; refine (within_any 1 10000 _ 1 _ _ [x - y] _ rfl (le_maxLen (by omega)) (RI.drew (RI.new1 (by simp)))).mono ?_; rintro e w' ⟨rfl, rfl⟩))
            all_goals go_wp2
            all_goals go_roundw
            case rel => exact ⟨m + 1, by omega, by go_num, by rw [stN_step, HW.out, HX.out, HY.out]; simp [wB] at hv ⊢; omega, by go_grown⟩
            case measure => simp [intOf]; omega
        · go_wp2
          go_ret
          exact ⟨ret_bool (by
            obtain rfl : m = X.length - 1 := by omega
            unfold axB
            simp [h2, hw]; omega), hbw⟩

def onB (X L : List Int) : Bool := wB (X[0]?.getD 0) (X[X.length - 1]?.getD 0) L

theorem onAxis_any (A A' : Option Addr) (n c n' c' B B' : Nat) (X L : List Int) (w : World) (hx : X.length = n) (hn : n ≤ maxLen) (h2 : 2 ≤ n) (hx' : L.length = n') (hn' : n' ≤ maxLen) (h : RI w B A X) (h' : RI w B' A' L) :
    Calls Try.prog 89 #[.slice A n c, .slice A' n' c'] w fun e w' => e = .returned (.bool (onB X L)) ∧ Below w.heap.size w w' := by
  subst hx
  unfold maxLen at hn
  obtain ⟨b, off, x, rfl, hb, hx, hc⟩ := h.at_ (k := 0) (by omega)
  obtain ⟨b', off', y, hA, hb', hy, hc'⟩ := h.at_ (k := X.length - 1) (by omega)
  obtain ⟨rfl, rfl⟩ : b' = b ∧ off' = off := by simpa [eq_comm] using hA
  have e1 : onB X L = wB x y L := by unfold onB; rw [hx, hy]; rfl
  rw [e1]
  clear hx hy e1 hA h hb'
  have i0 : (0 : Int) < (X.length : Int) := by omega
  have i1 : IntKind.i64.wrap ((X.length : Int) - 1) = (X.length : Int) - 1 := IntWalk.i64_in _ (by omega)
  have i2 : ((X.length : Int) - 1).toNat = X.length - 1 := by omega
  have i3 : (0 : Int) ≤ (X.length : Int) - 1 := by omega
  have i4 : (X.length : Int) - 1 < (X.length : Int) := by omega
  have i5 : (1 : Int) ≤ (X.length : Int) := by omega
  simp only [Nat.add_zero] at hc
  go_enter Try.func89, Try.ntmps89
  go_wp2
  go_quiet ((go_at_call 67; exact quiet_left (within_any x y _ _ _ _ L _ hx' hn' (h'.drewN _))))
  go_wp2
  go_ret
  exact ⟨rfl, by first | exact below_drewN (Below.refl _ _) _ | go_grown⟩

theorem checkTable_any (AX AY AV : Option Addr) (nx cx ny cy nv cv B : Nat) (X Y : List Int) (V : List (List Int)) (w : World) (hx : X.length = nx) (hy : Y.length = ny) (hv : V.length = nv) (hnx : nx ≤ maxLen) (hny : ny ≤ maxLen) (hnv : nv ≤ maxLen) (hnr : ∀ r ∈ V, r.length ≤ maxLen)
    (hB : B ≤ w.heap.size) (h : TB w B AX AY AV X Y V) :
    Calls Try.prog 22 #[.agg #[.slice AX nx cx, .slice AY ny cy, .slice AV nv cv]] w fun e w' => e = .returned (.int .i64 (ctE X Y V)) ∧ Below w.heap.size w w' := by
  subst hx hy hv
  cases h1 : axB X with
  | false =>
    have e1 : ctE X Y V = 11 := ctE_no (by unfold ctB; simp [h1])
    rw [e1]
    clear e1
    go_enter Try.func22, Try.ntmps22
    go_wp2_with (go_at_call 66; refine (axis_any AX _ _ B X _ rfl hnx (by simp; omega) (h.x.below (by go_grown))).mono ?_; rintro e w1 ⟨rfl, hb1⟩)
    go_ret
    exact ⟨rfl, Below.trans (by go_grown) (hb1.mono (by simp))⟩
  | true =>
  cases h2 : axB Y with
  | false =>
    have e1 : ctE X Y V = 11 := ctE_no (by unfold ctB; simp [h2])
    rw [e1]
    clear e1
    go_enter Try.func22, Try.ntmps22
    go_wp2_with (first
      | (go_at_call_of 66 (Value.slice AX X.length cx); refine (axis_any AX _ _ B X _ rfl hnx (by simp; omega) (h.x.below (by go_grown))).mono ?_; rintro e w1 ⟨rfl, hb1⟩; obtain ⟨hc1, hf1⟩ := bcell hb1; have hB1 := hb1.size; simp at hB1; have hz1 : w.heap.size < w1.heap.size := by omega)
      | (go_at_call_of 66 (Value.slice AY Y.length cy); refine (axis_any AY _ _ B Y _ rfl hny (by omega) ((h.y.below (by go_grown)).below (hb1.mono (by simp; omega)))).mono ?_; rintro e w2 ⟨rfl, hb2⟩))
    go_ret
    exact ⟨rfl, (Below.trans (by go_grown) (hb1.mono (by simp))).trans (hb2.mono (by omega))⟩
  | true =>
  by_cases h3 : V.length = X.length
  · have h3' : ((V.length : Int) != (X.length : Int)) = false := by rw [bne_eq_false_iff_eq]; omega
    have H3 := Lib.hid h3
    clear h3
    have hnv' := hnv
    unfold maxLen at hnv'
    go_enter Try.func22, Try.ntmps22
    go_wp2_with (first
      | (go_at_call_of 66 (Value.slice AX X.length cx); refine (axis_any AX _ _ B X _ rfl hnx (by simp; omega) (h.x.below (by go_grown))).mono ?_; rintro e w1 ⟨rfl, hb1⟩; obtain ⟨hc1, hf1⟩ := bcell hb1; have hB1 := hb1.size; simp at hB1; have hz1 : w.heap.size < w1.heap.size := by omega)
      | (go_at_call_of 66 (Value.slice AY Y.length cy); refine (axis_any AY _ _ B Y _ rfl hny (by omega) ((h.y.below (by go_grown)).below (hb1.mono (by simp; omega)))).mono ?_; rintro e w2 ⟨rfl, hb2⟩; obtain ⟨hc2, hf2⟩ := bcell hb2; have hB2 := hb2.size; have hz2 : w.heap.size < w2.heap.size := by omega))
    have hbw : Below w.heap.size w w2 := (Below.trans (by go_grown) (hb1.mono (by simp))).trans (hb2.mono (by omega))
    have hbox : w2.cell? ⟨w.heap.size, 1, none⟩ = some (.slice AY Y.length cy) := by rw [hc2 _ _ hz1, hc1 _ _ (by simp)]; rw [cell_newest]; rfl
    have hV := (h.v.below (hbw.mono hB))
    have HV := Lib.hid hV
    clear hV hc1 hf1 hc2 hf2 hb1 hb2 h h3'
    go_loopw [27] (fun i wr => ∃ k : Nat, k ≤ V.length ∧ i = .int .i64 k ∧ rowsB Y.length (V.take k) = true ∧ w2 = wr) (fun i _ => V.length - (intOf i).toNat)
    case atStart => exact ⟨0, by omega, rfl, by simp [rowsB], rfl⟩
    case round =>
      obtain ⟨k, hk, rfl, hw, rfl⟩ := hrel
      by_cases hlt : k < V.length
      · obtain ⟨b, off, r, A', c', rfl, hb, hr, hc, hri⟩ := HV.out.at_ hlt
        have HR := Lib.hid hr
        have HRI := Lib.hid hri
        have hrl : r.length ≤ maxLen := hnr r (List.mem_of_getElem? hr)
        clear hr hri
        by_cases g1 : r.length = Y.length
        · cases g2 : wB (-1000000) 1000000 r with
          | true => 
            have g1' : ((r.length : Int) != (Y.length : Int)) = false := by rw [bne_eq_false_iff_eq]; omega
            have G1 := Lib.hid g1
            clear g1
            go_wp2_with (go_at_call 67; refine (within_any (-1000000) 1000000 A' _ c' _ r _ rfl hrl HRI.out).mono ?_; rintro e w' ⟨rfl, rfl⟩)
            go_roundw
            case rel => exact ⟨k + 1, by omega, by go_num, by rw [rowsB_step HR.out, hw, G1.out, g2]; simp, by first | rfl | trivial⟩
            case measure => simp [intOf]; omega
          | false =>
            have g1' : ((r.length : Int) != (Y.length : Int)) = false := by rw [bne_eq_false_iff_eq]; omega
            have G1 := Lib.hid g1
            clear g1
            go_wp2_with (go_at_call 67; refine (within_any (-1000000) 1000000 A' _ c' _ r _ rfl hrl HRI.out).mono ?_; rintro e w' ⟨rfl, rfl⟩)
            go_ret
            exact ⟨ret_int (ctE_no (by unfold ctB; rw [rowsB_bad HR.out (n := Y.length) (by simp [g2])]; simp)).symm, hbw⟩
        · have g1' : ((r.length : Int) != (Y.length : Int)) = true := by rw [bne_iff_ne]; omega
          go_wp2
          go_ret
          exact ⟨ret_int (ctE_no (by unfold ctB; rw [rowsB_bad HR.out (n := Y.length) (by simp [g1])]; simp)).symm, hbw⟩
      · go_wp2
        go_ret
        exact ⟨ret_int (ctE_yes (by unfold ctB; rw [List.take_of_length_le (by omega)] at hw; simp [h1, h2, H3.out, hw])).symm, hbw⟩
  · have e1 : ctE X Y V = 11 := ctE_no (by unfold ctB; simp [h3])
    rw [e1]
    clear e1
    have h3' : ((V.length : Int) != (X.length : Int)) = true := by rw [bne_iff_ne]; omega
    go_enter Try.func22, Try.ntmps22
    go_wp2_with (first
      | (go_at_call_of 66 (Value.slice AX X.length cx); refine (axis_any AX _ _ B X _ rfl hnx (by simp; omega) (h.x.below (by go_grown))).mono ?_; rintro e w1 ⟨rfl, hb1⟩; obtain ⟨hc1, hf1⟩ := bcell hb1; have hB1 := hb1.size; simp at hB1; have hz1 : w.heap.size < w1.heap.size := by omega)
      | (go_at_call_of 66 (Value.slice AY Y.length cy); refine (axis_any AY _ _ B Y _ rfl hny (by omega) ((h.y.below (by go_grown)).below (hb1.mono (by simp; omega)))).mono ?_; rintro e w2 ⟨rfl, hb2⟩; obtain ⟨hc2, hf2⟩ := bcell hb2; have hB2 := hb2.size; have hz2 : w.heap.size < w2.heap.size := by omega))
    go_ret
    exact ⟨rfl, (Below.trans (by go_grown) (hb1.mono (by simp))).trans (hb2.mono (by omega))⟩

end Go.Proofs.Ytjdahphnmeaolaa

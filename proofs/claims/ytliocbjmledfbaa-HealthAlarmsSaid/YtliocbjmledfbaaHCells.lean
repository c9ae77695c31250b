/- slices.Compare at integers; checkCells. -/
import Derived.Test.YtliocbjmledfbaaHTrend
import Derived.Test.YtliocbjmledfbaaHCrest
namespace Go.Proofs.Ytliocbjmledfbaa
open Go.RowKit

/-- How two lists compare. -/
def lexL : List Int → List Int → Int
  | [], [] => 0
  | [], _ :: _ => -1
  | _ :: _, [] => 1
  | a :: x, b :: y => if cmpI a b = 0 then lexL x y else cmpI a b
theorem cmpI_zero {a b : Int} : cmpI a b = 0 ↔ a = b := by
  unfold cmpI
  split
  · constructor <;> intro h <;> omega
  · split
    · simp [*]
    · constructor <;> intro h
      · cases h
      · exact absurd h (by assumption)

theorem slcmp_any (A A' : Option Addr) (n c n' c' B B' : Nat) (xs ys : List Int) (w : World) (hx : xs.length = n) (hy : ys.length = n') (hn : n ≤ 1000000) (hn' : n' ≤ 1000000) (h : RI w B A xs) (h' : RI w B' A' ys) :
    Calls Try.prog 92 #[.slice A n c, .slice A' n' c'] w fun e w' => e = .returned (.int .i64 (lexL xs ys)) ∧ w = w' := by
  subst hx hy
  have HC := Lib.hid compare_any
  go_enter Try.func92, Try.ntmps92
  go_wp2
  go_loop [11] (fun i => ∃ k : Nat, k ≤ xs.length ∧ k ≤ ys.length ∧ i = .int .i64 k ∧ lexL xs ys = lexL (xs.drop k) (ys.drop k)) (fun i => xs.length - (intOf i).toNat)
  case atStart => exact ⟨0, Nat.zero_le _, Nat.zero_le _, rfl, rfl⟩
  case round =>
    obtain ⟨k, hk, hk', rfl, he⟩ := hrel
    by_cases hlt : k < xs.length
    · obtain ⟨b, off, x, rfl, hb, hx, hc⟩ := h.at_ hlt
      have hdx : xs.drop k = x :: xs.drop (k + 1) := by rw [List.drop_eq_getElem_cons hlt]; congr 1; exact (List.getElem?_eq_some_iff.1 hx).2
      by_cases hlt' : k < ys.length
      · obtain ⟨b', off', y, rfl, hb', hy, hc'⟩ := h'.at_ hlt'
        have hdy : ys.drop k = y :: ys.drop (k + 1) := by rw [List.drop_eq_getElem_cons hlt']; congr 1; exact (List.getElem?_eq_some_iff.1 hy).2
        rw [hdx, hdy] at he
        by_cases hz : cmpI x y = 0
        · have HE := Lib.hid (show lexL xs ys = lexL (xs.drop (k + 1)) (ys.drop (k + 1)) by rw [he]; simp [lexL, hz])
          have HZ := Lib.hid hz
          clear he hdx hdy hx hy hz
          go_wp2_with (go_at_call 90; refine Calls.mono (HC.out _ _ _) ?_; rintro e w' ⟨rfl, rfl⟩; rw [HZ.out])
          go_round
          case rel => exact ⟨k + 1, by omega, by omega, by go_num, HE.out⟩
          case measure => simp [intOf]; omega
        · have HE := Lib.hid (show lexL xs ys = cmpI x y by rw [he]; simp [lexL, hz])
          have hz' : (cmpI x y != 0) = true := by simpa using hz
          clear he hdx hdy hx hy hz
          have HC1 := Lib.hid (fun W => HC.out x y W)
          generalize cmpI x y = z at *
          go_wp2_with (go_at_call 90; refine Calls.mono (HC1.out _) ?_; rintro e w' ⟨rfl, rfl⟩)
          go_ret
          exact ⟨ret_int HE.out.symm, rfl⟩
      · have hdy : ys.drop k = [] := List.drop_eq_nil_of_le (by omega)
        rw [hdx, hdy] at he
        have HE := Lib.hid (show lexL xs ys = 1 by rw [he]; rfl)
        clear he hdx hdy hx
        go_wp2
        go_ret
        exact ⟨ret_int HE.out.symm, rfl⟩
    · have hdx : xs.drop k = [] := List.drop_eq_nil_of_le (by omega)
      rw [hdx] at he
      by_cases hlt' : k < ys.length
      · obtain ⟨b', off', y, _, hb', hy, hc'⟩ := h'.at_ hlt'
        have hdy : ys.drop k = y :: ys.drop (k + 1) := by rw [List.drop_eq_getElem_cons hlt']; congr 1; exact (List.getElem?_eq_some_iff.1 hy).2
        rw [hdy] at he
        have HE := Lib.hid (show lexL xs ys = -1 by rw [he]; rfl)
        clear he hdx hdy hy hc'
        go_wp2
        go_ret
        exact ⟨ret_int HE.out.symm, rfl⟩
      · have hdy : ys.drop k = [] := List.drop_eq_nil_of_le (by omega)
        rw [hdy] at he
        have HE := Lib.hid (show lexL xs ys = 0 by rw [he]; rfl)
        clear he hdx hdy
        go_wp2
        go_ret
        exact ⟨ret_int HE.out.symm, rfl⟩

/-! ### Cells -/
def cellB (s g : Int) (p : Int × Int) : Bool := decide (0 ≤ p.1 ∧ p.1 ≤ s - 1) && decide (0 ≤ p.2 ∧ p.2 ≤ g - 1)
def ckN (s g : Int) (L : List (Int × Int)) (n : Nat) : Bool := (List.range n).all fun j => cellB s g (L[j]?.getD (0, 0)) && (decide (j = 0) || decide (lexL [(L[j - 1]?.getD (0, 0)).1, (L[j - 1]?.getD (0, 0)).2] [(L[j]?.getD (0, 0)).1, (L[j]?.getD (0, 0)).2] < 0))
def ckB (s g : Int) (L : List (Int × Int)) : Bool := decide (1 ≤ s ∧ s ≤ 8) && decide (1 ≤ g ∧ g ≤ 12) && ckN s g L L.length
def ckE (s g : Int) (L : List (Int × Int)) : Int := if ckB s g L then 0 else 1
theorem ckE_no {s g : Int} {L : List (Int × Int)} (h : ckB s g L = false) : ckE s g L = 1 := by unfold ckE; simp [h]
theorem ckE_yes {s g : Int} {L : List (Int × Int)} (h : ckB s g L = true) : ckE s g L = 0 := by unfold ckE; simp [h]
theorem ckN_step (s g : Int) (L : List (Int × Int)) (n : Nat) : ckN s g L (n + 1) = (ckN s g L n && (cellB s g (L[n]?.getD (0, 0)) && (decide (n = 0) || decide (lexL [(L[n - 1]?.getD (0, 0)).1, (L[n - 1]?.getD (0, 0)).2] [(L[n]?.getD (0, 0)).1, (L[n]?.getD (0, 0)).2] < 0)))) := by
  unfold ckN
  rw [List.range_succ, List.all_append]
  simp
theorem ckN_bad {s g : Int} {L : List (Int × Int)} {n m : Nat} (h : m < n) (hb : (cellB s g (L[m]?.getD (0, 0)) && (decide (m = 0) || decide (lexL [(L[m - 1]?.getD (0, 0)).1, (L[m - 1]?.getD (0, 0)).2] [(L[m]?.getD (0, 0)).1, (L[m]?.getD (0, 0)).2] < 0))) = false) : ckN s g L n = false := by
  unfold ckN
  rw [List.all_eq_false]
  exact ⟨m, List.mem_range.2 h, by rw [hb]; simp⟩


theorem RI.pair {w : World} {B b off : Nat} {p : Int × Int} (hb : b < B) (h0 : w.cell? ⟨b, off, none⟩ = some (.int .i64 p.1)) (h1 : w.cell? ⟨b, off + 1, none⟩ = some (.int .i64 p.2)) : RI w B (some ⟨b, off, none⟩) [p.1, p.2] := fun _ =>
  ⟨_, _, rfl, hb, fun j u hu => by
    match j, hu with
    | 0, hu => simp at hu; subst hu; exact h0
    | 1, hu => simp at hu; subst hu; exact h1
    | j + 2, hu => simp at hu⟩

set_option maxRecDepth 100000 in
theorem checkCells_any (s g : Int) (A : Option Addr) (n c B : Nat) (L : List (Int × Int)) (w : World) (hx : L.length = n) (hn : n ≤ maxLen) (hB : B ≤ w.heap.size) (h : RS w B A L) :
    Calls Try.prog 80 #[.int .i64 s, .int .i64 g, .slice A n c] w fun e w' => e = .returned (.int .i64 (ckE s g L)) ∧ Below w.heap.size w w' := by
  subst hx
  unfold maxLen at hn
  by_cases h1 : 1 ≤ s ∧ s ≤ 8
  · have H1 := Lib.hid (show wB 1 8 [s] = true by rw [wB_one]; simp [h1])
    by_cases h2 : 1 ≤ g ∧ g ≤ 12
    · have H2 := Lib.hid (show wB 1 12 [g] = true by rw [wB_one]; simp [h2])
      have HS := Lib.hid (And.intro h1 h2)
      obtain ⟨s1, s2⟩ := h1
      obtain ⟨g1, g2⟩ := h2
      go_enter Try.func80, Try.ntmps80
      go_wp2_with (first
        | (go_at_call_of 54 (Value.int .i64 8); refine (within_any 1 8 _ 1 _ _ [s] _ rfl (le_maxLen (by omega)) (RI.new1 (by simp))).mono ?_; rintro e w' ⟨rfl, rfl⟩; rw [H1.out])
        | (go_at_call_of 54 (Value.int .i64 12); refine (within_any 1 12 _ 1 _ _ [g] _ rfl (le_maxLen (by omega)) (RI.new1 (by simp))).mono ?_; rintro e w' ⟨rfl, rfl⟩; rw [H2.out]))
      go_loopw [21] (fun i wr => ∃ k : Nat, k ≤ L.length ∧ i = .int .i64 k ∧ ckN s g L k = true ∧ Below w.heap.size w wr) (fun i _ => L.length - (intOf i).toNat)
      case atStart => exact ⟨0, Nat.zero_le _, rfl, by simp [ckN], by go_grown⟩
      case round =>
        obtain ⟨k, hk, rfl, hw, hbw⟩ := hrel
        have hsz := hbw.size
        have HJ := Lib.hid ((h.more hB).below hbw)
        have HBW := Lib.hid hbw
        have HW := Lib.hid hw
        clear hbw hw
        by_cases hlt : k < L.length
        · obtain ⟨b, off, p, rfl, hb, hp, hc1, hc2⟩ := HJ.out.at_ hlt
          obtain ⟨x, y⟩ := p
          simp only at hc1 hc2
          have HP := Lib.hid hp
          clear hp
          have hb' : b < wr.heap.size := by omega
          have i1 : IntKind.i64.wrap (s - 1) = s - 1 := IntWalk.i64_in _ (by omega)
          have i2 : IntKind.i64.wrap (g - 1) = g - 1 := IntWalk.i64_in _ (by omega)
          by_cases c1 : 0 ≤ x ∧ x ≤ s - 1
          · have C1 := Lib.hid (show wB 0 (s - 1) [x] = true by rw [wB_one]; simp [c1])
            by_cases c2 : 0 ≤ y ∧ y ≤ g - 1
            · have C2 := Lib.hid (show wB 0 (g - 1) [y] = true by rw [wB_one]; simp [c2])
              have HC := Lib.hid (show cellB s g (x, y) = true by unfold cellB; simp [c1, c2])
              clear c1 c2
              have hk0 : 0 ≤ (k : Int) := by omega
              by_cases hz : k = 0
              · subst hz
                simp only [Nat.zero_mul, Nat.add_zero] at hc1 hc2
                have HV := Lib.hid (show ckN s g L 1 = true by rw [ckN_step, HW.out, HP.out]; simp [HC.out])
                go_upto_region 8 with (first
                  | (go_at_call 54; with_reducible refine (within_any 0 (s - 1) _ 1 _ _ [x] _ rfl (le_maxLen (by omega)) (RI.new1 (by simp))).mono ?_; rintro e w' ⟨rfl, rfl⟩; rw [C1.out])
                  | (go_at_call 54; with_reducible refine (within_any 0 (g - 1) _ 1 _ _ [y] _ rfl (le_maxLen (by omega)) (RI.new1 (by simp))).mono ?_; rintro e w' ⟨rfl, rfl⟩; rw [C2.out]))
                go_quiet (fail)
                go_wp2
                go_roundw
                case rel => exact ⟨1, by omega, by go_num, HV.out, HBW.out.trans (Below.mono (by first | exact below_drewN (by go_grown) _ | go_grown) hsz)⟩
                case measure => simp [intOf]; omega
              · obtain ⟨b', off', q, hA, hbq, hq, hq1, hq2⟩ := HJ.out.at_ (k := k - 1) (by omega)
                obtain ⟨rfl, rfl⟩ : b = b' ∧ off = off' := by simpa using hA
                obtain ⟨u, v⟩ := q
                simp only at hq1 hq2
                have HQ := Lib.hid hq
                clear hq hA hbq
                have HV := Lib.hid (show ckN s g L (k + 1) = decide (lexL [u, v] [x, y] < 0) by rw [ckN_step, HW.out, HP.out, HQ.out]; simp [HC.out, hz])
                have i3 : IntKind.i64.wrap ((k : Int) - 1) = (k : Int) - 1 := IntWalk.i64_in _ (by omega)
                have i4 : ((k : Int) - 1).toNat = k - 1 := by omega
                have i5 : 0 ≤ (k : Int) - 1 := by omega
                have i6 : (k : Int) - 1 < L.length := by omega
                have i7 : 1 ≤ (k : Int) := by omega
                have i8 : 0 < (k : Int) := by omega
                have i9 : 0 < k := by omega
                have i10 : decide (0 < k) = true := by simpa using i9
                have hbx : ∀ (W : World), Below wr.heap.size wr W → W.cell? ⟨b, off + (k - 1) * 2, none⟩ = some (.int .i64 u) ∧ W.cell? ⟨b, off + (k - 1) * 2 + 1, none⟩ = some (.int .i64 v) := fun W hW => ⟨cell_keep hW hq1, cell_keep hW hq2⟩
                have HBX := Lib.hid hbx
                clear hbx
                go_upto_region 8 with (first
                  | (go_at_call 54; with_reducible refine (within_any 0 (s - 1) _ 1 _ _ [x] _ rfl (le_maxLen (by omega)) (RI.new1 (by simp))).mono ?_; rintro e w' ⟨rfl, rfl⟩; rw [C1.out])
                  | (go_at_call 54; with_reducible refine (within_any 0 (g - 1) _ 1 _ _ [y] _ rfl (le_maxLen (by omega)) (RI.new1 (by simp))).mono ?_; rintro e w' ⟨rfl, rfl⟩; rw [C2.out]))
                have hW9 : Below wr.heap.size wr (((wr.alloc (.cells #[.int .i64 x, .int .i64 y] 74)).alloc (.cells #[.int .i64 x] 3)).alloc (.cells #[.int .i64 y] 3)) := by go_grown
                have hz9 : wr.heap.size < (((wr.alloc (.cells #[.int .i64 x, .int .i64 y] 74)).alloc (.cells #[.int .i64 x] 3)).alloc (.cells #[.int .i64 y] 3)).heap.size := by simp; omega
                have hn0 : (((wr.alloc (.cells #[.int .i64 x, .int .i64 y] 74)).alloc (.cells #[.int .i64 x] 3)).alloc (.cells #[.int .i64 y] 3)).cell? ⟨wr.heap.size, 0, none⟩ = some (.int .i64 x) := by go_simp
                have hn1 : (((wr.alloc (.cells #[.int .i64 x, .int .i64 y] 74)).alloc (.cells #[.int .i64 x] 3)).alloc (.cells #[.int .i64 y] 3)).cell? ⟨wr.heap.size, 1, none⟩ = some (.int .i64 y) := by go_simp
                generalize (((wr.alloc (.cells #[.int .i64 x, .int .i64 y] 74)).alloc (.cells #[.int .i64 x] 3)).alloc (.cells #[.int .i64 y] 3)) = W9 at *
                obtain ⟨m1, m2⟩ := HBX.out _ hW9
                have HLX := Lib.hid (fun n' => slcmp_any (some ⟨b, off + (k - 1) * 2, none⟩) (some ⟨wr.heap.size, 0, none⟩) 2 2 2 2 W9.heap.size W9.heap.size [u, v] [x, y] (W9.drewN n') rfl rfl (by omega) (by omega) (RI.pair (p := (u, v)) (by omega) m1 m2) (RI.pair (p := (x, y)) hz9 hn0 hn1))
                have HW9 := Lib.hid (And.intro (HBW.out.trans (hW9.mono hsz)) hn0)
                by_cases hlex : lexL [u, v] [x, y] < 0
                · have HV2 := Lib.hid (show ckN s g L (k + 1) = true by rw [HV.out]; simpa using hlex)
                  generalize lexL [u, v] [x, y] = lx at *
                  clear hW9 hq1 hq2
                  go_quiet ((go_at_call 92; exact quiet_left (HLX.out _)))
                  go_wp2
                  go_roundw
                  case rel => exact ⟨k + 1, by omega, by go_num, HV2.out, by first | exact below_drewN HW9.out.1 _ | exact HW9.out.1⟩
                  case measure => simp [intOf]; omega
                · have HV2 := Lib.hid (show ckN s g L L.length = false from ckN_bad hlt (by rw [HP.out, HQ.out]; simp [hz]; intro _; omega))
                  generalize lexL [u, v] [x, y] = lx at *
                  clear hW9 hq1 hq2
                  go_quiet ((go_at_call 92; exact quiet_left (HLX.out _)))
                  go_wp2
                  go_ret
                  exact ⟨ret_int (ckE_no (by unfold ckB; rw [HV2.out]; simp)).symm, by first | exact below_drewN HW9.out.1 _ | exact HW9.out.1⟩
            · have C2 := Lib.hid (show wB 0 (g - 1) [y] = false by rw [wB_one]; simp; omega)
              have HC := Lib.hid (show cellB s g (x, y) = false by unfold cellB; simp; omega)
              clear c1 c2
              go_wp2_with (first
                | (go_at_call 54; with_reducible refine (within_any 0 (s - 1) _ 1 _ _ [x] _ rfl (le_maxLen (by omega)) (RI.new1 (by simp))).mono ?_; rintro e w' ⟨rfl, rfl⟩; rw [C1.out])
                | (go_at_call 54; with_reducible refine (within_any 0 (g - 1) _ 1 _ _ [y] _ rfl (le_maxLen (by omega)) (RI.new1 (by simp))).mono ?_; rintro e w' ⟨rfl, rfl⟩; rw [C2.out]))
              go_ret
              exact ⟨ret_int (ckE_no (by unfold ckB; rw [ckN_bad hlt (by rw [HP.out]; simp [HC.out])]; simp)).symm, HBW.out.trans (Below.mono (by go_grown) hsz)⟩
          · have C1 := Lib.hid (show wB 0 (s - 1) [x] = false by rw [wB_one]; simp; omega)
            have HC := Lib.hid (show cellB s g (x, y) = false by unfold cellB; simp; omega)
            clear c1
            go_wp2_with (go_at_call 54; refine (within_any 0 (s - 1) _ 1 _ _ [x] _ rfl (le_maxLen (by omega)) (RI.new1 (by simp))).mono ?_; rintro e w' ⟨rfl, rfl⟩; rw [C1.out])
            go_ret
            exact ⟨ret_int (ckE_no (by unfold ckB; rw [ckN_bad hlt (by rw [HP.out]; simp [HC.out])]; simp)).symm, HBW.out.trans (Below.mono (by go_grown) hsz)⟩
        · obtain rfl : k = L.length := by omega
          go_wp2
          go_ret
          exact ⟨ret_int (ckE_yes (by unfold ckB; rw [HW.out]; simp [HS.out])).symm, HBW.out⟩
    · have H2 := Lib.hid (show wB 1 12 [g] = false by rw [wB_one]; simp; omega)
      have e1 : ckE s g L = 1 := ckE_no (by unfold ckB; simp; omega)
      rw [e1]
      clear e1 h2
      go_enter Try.func80, Try.ntmps80
      go_wp2_with (first
        | (go_at_call_of 54 (Value.int .i64 8); refine (within_any 1 8 _ 1 _ _ [s] _ rfl (le_maxLen (by omega)) (RI.new1 (by simp))).mono ?_; rintro e w' ⟨rfl, rfl⟩; rw [H1.out])
        | (go_at_call_of 54 (Value.int .i64 12); refine (within_any 1 12 _ 1 _ _ [g] _ rfl (le_maxLen (by omega)) (RI.new1 (by simp))).mono ?_; rintro e w' ⟨rfl, rfl⟩; rw [H2.out]))
      go_ret
      exact ⟨rfl, by go_grown⟩
  · have H1 := Lib.hid (show wB 1 8 [s] = false by rw [wB_one]; simp; omega)
    have e1 : ckE s g L = 1 := ckE_no (by unfold ckB; simp; omega)
    rw [e1]
    clear e1 h1
    go_enter Try.func80, Try.ntmps80
    go_wp2_with (go_at_call 54; refine (within_any 1 8 _ 1 _ _ [s] _ rfl (le_maxLen (by omega)) (RI.new1 (by simp))).mono ?_; rintro e w' ⟨rfl, rfl⟩; rw [H1.out])
    go_ret
    exact ⟨rfl, by go_grown⟩

end Go.Proofs.Ytliocbjmledfbaa

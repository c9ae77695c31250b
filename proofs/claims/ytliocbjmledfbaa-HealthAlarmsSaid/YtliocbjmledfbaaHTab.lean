/- The tables of Changed: areTables and tabled. -/
import Derived.Test.YtliocbjmledfbaaHPair
import Derived.Test.YtliocbjmledfbaaHWhole
import Derived.Test.YtliocbjmledfbaaHVib
namespace Go.Proofs.Ytliocbjmledfbaa
open Go.RowKit

def hdN (V : List (List Int)) : Nat := (V[0]?.getD []).length
def okR (V : List (List Int)) (r : List Int) : Bool := decide (r.length = hdN V) && (decide (1 ≤ r.length ∧ r.length ≤ 12) && wB 0 1000000 r)
def tabB (V : List (List Int)) : Bool := decide (1 ≤ V.length ∧ V.length ≤ 8) && V.all (okR V)
def tabsB (V W : List (List Int)) : Bool := (decide (1 ≤ V.length ∧ V.length ≤ 8) && decide (W.length = V.length)) && (V.all (okR V) && W.all (okR V))
theorem idx_pair (j : Nat) (hj : j < 2) (a b : Value) (W : World) : (Instr.index 117 (.agg #[a, b]) (.int .i64 (j : Int))).run Try.prog W = .ok (if j = 0 then a else b) W := by
  have hu : Try.prog.underlying 117 = some (.array 2 22) := Try.underlying117
  have hui : Try.prog.underlying 22 = some _ := Try.underlying22
  obtain rfl | rfl : j = 0 ∨ j = 1 := by omega
  · simp [Instr.index, run_underlying hu, isAgg, run_underlying hui, asIntOf, part]
  · simp [Instr.index, run_underlying hu, isAgg, run_underlying hui, asIntOf, part]
theorem idx0 (a b : Value) (W : World) : (Instr.index 117 (.agg #[a, b]) (.int .i64 0)).run Try.prog W = .ok a W := idx_pair 0 (by omega) a b W
theorem idx1 (a b : Value) (W : World) : (Instr.index 117 (.agg #[a, b]) (.int .i64 1)).run Try.prog W = .ok b W := idx_pair 1 (by omega) a b W
theorem all_take {V : List (List Int)} {f : List Int → Bool} {k : Nat} {r : List Int} (hr : V[k]? = some r) (h : (V.take k).all f = true) (hf : f r = true) : (V.take (k + 1)).all f = true := by
  have hk := (List.getElem?_eq_some_iff.1 hr).1
  have e : V.take (k + 1) = V.take k ++ [r] := by rw [List.take_add_one, hr]; rfl
  rw [e, List.all_append, h]
  simp [hf]
theorem all_no {V : List (List Int)} {f : List Int → Bool} {k : Nat} {r : List Int} (hr : V[k]? = some r) (hf : f r = false) : V.all f = false := by
  rw [List.all_eq_false]
  exact ⟨r, List.mem_of_getElem? hr, by simp [hf]⟩
theorem tabsB_noV {V W : List (List Int)} (h : V.all (okR V) = false) : tabsB V W = false := by unfold tabsB; simp [h]
theorem tabsB_noW {V W : List (List Int)} (h : W.all (okR V) = false) : tabsB V W = false := by unfold tabsB; simp [h]

set_option maxRecDepth 100000 in
set_option maxHeartbeats 2000000 in
theorem areTables_any (A A' : Option Addr) (n c n' c' B : Nat) (V W : List (List Int)) (w : World) (hV : V.length = n) (hW : W.length = n') (hn : n ≤ maxLen) (hn' : n' ≤ maxLen) (hvl : ∀ r ∈ V, r.length ≤ maxLen) (hwl : ∀ r ∈ W, r.length ≤ maxLen) (hB : B ≤ w.heap.size) (rv : RR w B A V) (rw_ : RR w B A' W) :
    Calls Try.prog 78 #[.slice A n c, .slice A' n' c'] w fun e w' => e = .returned (.bool (tabsB V W)) ∧ Below w.heap.size w w' := by
  have hn2 := hn
  have hn2' := hn'
  unfold maxLen at hn2 hn2'
  have hsz0 := idx0
  have hsz1 := idx1
  have hz0 : w.heap.size < (w.alloc (.cells #[.int .i64 (n : Int)] 3)).heap.size := by simp
  by_cases h1 : 1 ≤ n ∧ n ≤ 8
  · have H1 := Lib.hid (show wB 1 8 [(n : Int)] = true by rw [wB_1]; simp; omega)
    by_cases h2 : n' = n
    · subst h2
      have HV0 := Lib.hid rv
      have HW0 := Lib.hid rw_
      have HLV := Lib.hid hV
      have HLW := Lib.hid hW
      have HVL := Lib.hid hvl
      have HWL := Lib.hid hwl
      have HB := Lib.hid hB
      have HT := Lib.hid (show V.all (okR V) = true → W.all (okR V) = true → tabsB V W = true from fun a b => by unfold tabsB; rw [a, b]; simp; omega)
      clear rv rw_ hV hW hvl hwl
      go_enter Try.func78, Try.ntmps78
      go_wp2_with (go_at_call 54; refine (within_any 1 8 _ 1 _ _ [(n' : Int)] _ rfl (le_maxLen (by omega)) (RI.new1 (by simp))).mono ?_; rintro e w' ⟨rfl, rfl⟩; rw [H1.out])
      have HB0 := Lib.hid ((Below.refl w.heap.size w).alloc (Nat.le_refl _) (.cells #[.int .i64 (n' : Int)] 3))
      generalize w.alloc _ = w0 at *
      go_loopw [22] (fun i wr => ∃ k : Nat, k ≤ n' ∧ i = .int .i64 k ∧ (V.take k).all (okR V) = true ∧ (W.take k).all (okR V) = true ∧ Below w.heap.size w wr) (fun i _ => n' - (intOf i).toNat)
      case atStart => exact ⟨0, Nat.zero_le _, rfl, by simp, by simp, HB0.out⟩
      case round =>
        obtain ⟨k, hk, rfl, ha1, ha2, hbw⟩ := hrel
        by_cases hlt : k < n'
        · obtain ⟨b, off, r, A1, c1, rfl, hb, hr, hc1, hri⟩ := ((HV0.out.below (hbw.mono hB)).at_ (k := k) (by rw [HLV.out]; exact hlt))
          obtain ⟨b0, off0, z, A0, c0, eb, hb0, hz, hc0, _⟩ := ((HV0.out.below (hbw.mono hB)).at_ (k := 0) (by rw [HLV.out]; omega))
          obtain ⟨rfl, rfl⟩ : b = b0 ∧ off = off0 := by simpa using eb
          obtain ⟨b', off', q, A2, c2, rfl, hb', hq, hc2, hqi⟩ := ((HW0.out.below (hbw.mono hB)).at_ (k := k) (by rw [HLW.out]; exact hlt))
          have hd : hdN V = z.length := by unfold hdN; rw [hz]; rfl
          have HR := Lib.hid (And.intro hr (And.intro hq (And.intro ha1 (And.intro ha2 (And.intro hri hqi)))))
          have hrl := HVL.out r (List.mem_of_getElem? hr)
          have hql := HWL.out q (List.mem_of_getElem? hq)
          have hHD := Lib.hid hd
          have HBW := Lib.hid hbw
          have hbB : b < wr.heap.size := by have := hbw.size; omega
          have hbB' : b' < wr.heap.size := by have := hbw.size; omega
          unfold maxLen at hrl hql
          clear hbw hr hq ha1 ha2 hri hqi hd hz eb HV0 HW0
          have i7 : (k : Int) < n' := by omega
          have i8 : 0 ≤ (k : Int) := by omega
          have i9 : (0 : Int) < n' := by omega
          rw [Nat.add_zero] at hc0
          go_wp2
          go_quiet (fail)
          go_wp2
          have HBX := Lib.hid (below_drewN HBW.out nq)
          have hc0' : (wr.drewN nq).cell? ⟨b, off, none⟩ = some (.slice A0 z.length c0) := hc0
          have HRX := Lib.hid (And.intro (HR.out.2.2.2.2.1.drewN nq) (HR.out.2.2.2.2.2.drewN nq))
          have hbX : b < (wr.drewN nq).heap.size := hbB
          have hsX : w.heap.size ≤ (wr.drewN nq).heap.size := HBX.out.size
          clear hc1 hc2 hc0 hbB hbB'
          generalize wr.drewN nq = wd at *
          go_loopw [34] (fun i wr => ∃ j : Nat, j ≤ 2 ∧ i = .int .i64 j ∧ (1 ≤ j → okR V r = true) ∧ (2 ≤ j → okR V q = true) ∧ Below wd.heap.size wd wr) (fun i _ => 2 - (intOf i).toNat)
          case atStart => exact ⟨0, by omega, rfl, by omega, by omega, Below.refl _ _⟩
          case round =>
            obtain ⟨j, hj, rfl, hj1, hj2, hbe⟩ := hrel
            have hc0 := cell_keep hbe hc0'
            have HBE := Lib.hid (HBX.out.trans (hbe.mono hsX))
            have HBD := Lib.hid hbe
            have hlt0 : b < wr.heap.size := by have := hbe.size; omega
            have HJ := Lib.hid (And.intro hj1 hj2)
            have HRY := Lib.hid (And.intro (HRX.out.1.below (HBD.out.mono (by omega))) (HRX.out.2.below (HBD.out.mono (by omega))))
            clear hbe hj1 hj2
            obtain rfl | rfl | rfl : j = 0 ∨ j = 1 ∨ j = 2 := by omega
            all_goals simp only [Int.cast_ofNat_Int]
            · by_cases g1 : r.length = z.length
              · by_cases g2 : 1 ≤ r.length ∧ r.length ≤ 12
                · have H2 := Lib.hid (show wB 1 12 [(r.length : Int)] = true by rw [wB_1]; simp; omega)
                  have hne : ((r.length : Int) != z.length) = false := by rw [g1]; simp
                  cases g3 : wB 0 1000000 r with
                  | false =>
                    have H3 := Lib.hid g3
                    have HE := Lib.hid (show tabsB V W = false from tabsB_noV (all_no HR.out.1 (by unfold okR; rw [g3]; simp)))
                    clear g3 g1
                    go_wp2_with (first
                      | (go_at_call_of 54 (Value.int .i64 12); refine (within_any 1 12 _ 1 _ _ [(r.length : Int)] _ rfl (le_maxLen (by omega)) (RI.new1 (by simp))).mono ?_; rintro e w' ⟨rfl, rfl⟩; rw [H2.out])
                      | (go_at_call 54; refine (within_any 0 1000000 _ _ _ B r _ rfl (by unfold maxLen; omega) (RI.below HRY.out.1 (Below.alloc (Below.refl _ _) (by have := HBE.out.size; omega) _))).mono ?_; rintro e w' ⟨rfl, rfl⟩; rw [H3.out]))
                    go_ret
                    exact ⟨ret_bool HE.out.symm, HBE.out.alloc HBE.out.size _⟩
                  | true =>
                    have H3 := Lib.hid g3
                    have HOK := Lib.hid (show okR V r = true by unfold okR; rw [g3, hHD.out]; simp [g1]; omega)
                    clear g3 g1
                    go_wp2_with (first
                      | (go_at_call_of 54 (Value.int .i64 12); refine (within_any 1 12 _ 1 _ _ [(r.length : Int)] _ rfl (le_maxLen (by omega)) (RI.new1 (by simp))).mono ?_; rintro e w' ⟨rfl, rfl⟩; rw [H2.out])
                      | (go_at_call 54; refine (within_any 0 1000000 _ _ _ B r _ rfl (by unfold maxLen; omega) (RI.below HRY.out.1 (Below.alloc (Below.refl _ _) (by have := HBE.out.size; omega) _))).mono ?_; rintro e w' ⟨rfl, rfl⟩; rw [H3.out]))
                    go_roundw
                    case rel => exact ⟨1, by omega, by go_num, fun _ => HOK.out, by omega, HBD.out.alloc HBD.out.size _⟩
                    case measure => simp [intOf]
                · have H2 := Lib.hid (show wB 1 12 [(r.length : Int)] = false by rw [wB_1]; simp; omega)
                  have hne : ((r.length : Int) != z.length) = false := by rw [g1]; simp
                  have HE := Lib.hid (show tabsB V W = false from tabsB_noV (all_no HR.out.1 (by unfold okR; simp; omega)))
                  clear g2 g1
                  go_wp2_with (go_at_call_of 54 (Value.int .i64 12); refine (within_any 1 12 _ 1 _ _ [(r.length : Int)] _ rfl (le_maxLen (by omega)) (RI.new1 (by simp))).mono ?_; rintro e w' ⟨rfl, rfl⟩; rw [H2.out])
                  go_ret
                  exact ⟨ret_bool HE.out.symm, HBE.out.alloc HBE.out.size _⟩
              · have hne : ((r.length : Int) != z.length) = true := by rw [bne_iff_ne]; omega
                have HE := Lib.hid (show tabsB V W = false from tabsB_noV (all_no HR.out.1 (by unfold okR; rw [hHD.out]; simp; omega)))
                clear g1
                go_wp2
                go_ret
                exact ⟨ret_bool HE.out.symm, HBE.out⟩
            · by_cases g1 : q.length = z.length
              · by_cases g2 : 1 ≤ q.length ∧ q.length ≤ 12
                · have H2 := Lib.hid (show wB 1 12 [(q.length : Int)] = true by rw [wB_1]; simp; omega)
                  have hne : ((q.length : Int) != z.length) = false := by rw [g1]; simp
                  cases g3 : wB 0 1000000 q with
                  | false =>
                    have H3 := Lib.hid g3
                    have HE := Lib.hid (show tabsB V W = false from tabsB_noW (all_no HR.out.2.1 (by unfold okR; rw [g3]; simp)))
                    clear g3 g1
                    go_wp2_with (first
                      | (go_at_call_of 54 (Value.int .i64 12); refine (within_any 1 12 _ 1 _ _ [(q.length : Int)] _ rfl (le_maxLen (by omega)) (RI.new1 (by simp))).mono ?_; rintro e w' ⟨rfl, rfl⟩; rw [H2.out])
                      | (go_at_call 54; refine (within_any 0 1000000 _ _ _ B q _ rfl (by unfold maxLen; omega) (RI.below HRY.out.2 (Below.alloc (Below.refl _ _) (by have := HBE.out.size; omega) _))).mono ?_; rintro e w' ⟨rfl, rfl⟩; rw [H3.out]))
                    go_ret
                    exact ⟨ret_bool HE.out.symm, HBE.out.alloc HBE.out.size _⟩
                  | true =>
                    have H3 := Lib.hid g3
                    have HOK := Lib.hid (show okR V q = true by unfold okR; rw [g3, hHD.out]; simp [g1]; omega)
                    clear g3 g1
                    go_wp2_with (first
                      | (go_at_call_of 54 (Value.int .i64 12); refine (within_any 1 12 _ 1 _ _ [(q.length : Int)] _ rfl (le_maxLen (by omega)) (RI.new1 (by simp))).mono ?_; rintro e w' ⟨rfl, rfl⟩; rw [H2.out])
                      | (go_at_call 54; refine (within_any 0 1000000 _ _ _ B q _ rfl (by unfold maxLen; omega) (RI.below HRY.out.2 (Below.alloc (Below.refl _ _) (by have := HBE.out.size; omega) _))).mono ?_; rintro e w' ⟨rfl, rfl⟩; rw [H3.out]))
                    go_roundw
                    case rel => exact ⟨2, by omega, by go_num, fun _ => HJ.out.1 (by omega), fun _ => HOK.out, HBD.out.alloc HBD.out.size _⟩
                    case measure => simp [intOf]
                · have H2 := Lib.hid (show wB 1 12 [(q.length : Int)] = false by rw [wB_1]; simp; omega)
                  have hne : ((q.length : Int) != z.length) = false := by rw [g1]; simp
                  have HE := Lib.hid (show tabsB V W = false from tabsB_noW (all_no HR.out.2.1 (by unfold okR; simp; omega)))
                  clear g2 g1
                  go_wp2_with (go_at_call_of 54 (Value.int .i64 12); refine (within_any 1 12 _ 1 _ _ [(q.length : Int)] _ rfl (le_maxLen (by omega)) (RI.new1 (by simp))).mono ?_; rintro e w' ⟨rfl, rfl⟩; rw [H2.out])
                  go_ret
                  exact ⟨ret_bool HE.out.symm, HBE.out.alloc HBE.out.size _⟩
              · have hne : ((q.length : Int) != z.length) = true := by rw [bne_iff_ne]; omega
                have HE := Lib.hid (show tabsB V W = false from tabsB_noW (all_no HR.out.2.1 (by unfold okR; rw [hHD.out]; simp; omega)))
                clear g1
                go_wp2
                go_ret
                exact ⟨ret_bool HE.out.symm, HBE.out⟩
            · have HNX := Lib.hid (And.intro (HJ.out.1 (by omega)) (HJ.out.2 (by omega)))
              go_wp2
              go_roundw
              case rel => exact ⟨k + 1, by omega, by go_num, all_take HR.out.1 HR.out.2.2.1 HNX.out.1, all_take HR.out.2.1 HR.out.2.2.2.1 HNX.out.2, HBE.out⟩
              case measure => simp [intOf]; omega
        · obtain rfl : k = n' := by omega
          have HE := Lib.hid (show tabsB V W = true from HT.out (by rw [← ha1, List.take_of_length_le (by rw [HLV.out]; omega)]) (by rw [← ha2, List.take_of_length_le (by rw [HLW.out]; omega)]))
          have HBW := Lib.hid hbw
          clear ha1 ha2 hbw
          go_wp2
          go_ret
          exact ⟨ret_bool HE.out.symm, HBW.out⟩
    · have HE := Lib.hid (show tabsB V W = false by unfold tabsB; simp; omega)
      have h2' : ((n' : Int) != n) = true := by rw [bne_iff_ne]; omega
      clear rv rw_ hV hW h2 hvl hwl
      go_enter Try.func78, Try.ntmps78
      go_wp2_with (go_at_call 54; refine (within_any 1 8 _ 1 _ _ [(n : Int)] _ rfl (le_maxLen (by omega)) (RI.new1 (by simp))).mono ?_; rintro e w' ⟨rfl, rfl⟩; rw [H1.out])
      go_ret
      exact ⟨ret_bool HE.out.symm, by go_grown⟩
  · have H1 := Lib.hid (show wB 1 8 [(n : Int)] = false by rw [wB_1]; simp; omega)
    have HE := Lib.hid (show tabsB V W = false by unfold tabsB; simp; omega)
    clear rv rw_ hV hW hvl hwl
    go_enter Try.func78, Try.ntmps78
    go_wp2_with (go_at_call 54; refine (within_any 1 8 _ 1 _ _ [(n : Int)] _ rfl (le_maxLen (by omega)) (RI.new1 (by simp))).mono ?_; rintro e w' ⟨rfl, rfl⟩; rw [H1.out])
    go_ret
    exact ⟨ret_bool HE.out.symm, by go_grown⟩

end Go.Proofs.Ytliocbjmledfbaa

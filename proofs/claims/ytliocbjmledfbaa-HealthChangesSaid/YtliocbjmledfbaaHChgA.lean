/- Changed of the program. -/
import Derived.Test.YtliocbjmledfbaaHChg
import Derived.Test.YtliocbjmledfbaaHMea
namespace Go.Proofs.Ytliocbjmledfbaa
open Go.RowKit

theorem ch_pair {x y p : Int} (hx : 0 ≤ x ∧ x ≤ 1000000) (hy : 0 ≤ y ∧ y ≤ 1000000) (hp : 0 ≤ p ∧ p ≤ 10000) :
    (-1000000 ≤ y - x ∧ y - x ≤ 1000000) ∧ (0 ≤ absZ (y - x) ∧ absZ (y - x) ≤ 1000000) ∧ (0 ≤ p * x ∧ p * x ≤ 10000000000) := by
  have a : p * x ≤ 10000 * 1000000 := Int.mul_le_mul hp.2 hx.2 hx.1 (by omega)
  have b : 0 ≤ p * x := Int.mul_nonneg hp.1 hx.1
  refine ⟨by omega, ?_, by omega⟩
  unfold absZ
  omega

set_option maxRecDepth 100000 in
set_option maxHeartbeats 2000000 in
theorem changed_any (A A' : Option Addr) (n c n' c' B : Nat) (V W : List (List Int)) (p : Int) (w : World) (hV : V.length = n) (hW : W.length = n') (hn : n ≤ maxLen) (hn' : n' ≤ maxLen) (hvl : ∀ r ∈ V, r.length ≤ maxLen) (hwl : ∀ r ∈ W, r.length ≤ maxLen) (hB : B ≤ w.heap.size) (rv : RR w B A V) (rw_ : RR w B A' W) :
    Calls Try.prog 42 #[.slice A n c, .slice A' n' c', .int .i64 p] w (GivesCe w (chN V W p)) := by
  have HA := Lib.hid (areTables_any A A' n c n' c' B V W w hV hW hn hn' hvl hwl hB rv rw_)
  cases ht : tabsB V W with
  | false =>
    rw [ht] at HA
    rw [chN_no ht]
    clear ht rv rw_
    go_enter Try.func42, Try.ntmps42
    go_wp2_with (go_at_call 78; refine Calls.mono HA.out ?_; rintro e w1 ⟨rfl, hb1⟩)
    go_ret2
    exact ⟨_, rfl, QC.nil, hb1⟩
  | true =>
    rw [ht] at HA
    have tt := TT.get ht
    by_cases hp : 0 ≤ p ∧ p ≤ 10000
    · rw [chN_yes ht hp]
      have H1 := Lib.hid (show wB 0 10000 [p] = true by rw [wB_1]; simp; omega)
      have TTH := Lib.hid tt
      obtain ⟨m, hm⟩ : ∃ m, hdN V = m := ⟨_, rfl⟩
      have HM := Lib.hid hm
      have HV0 := Lib.hid rv
      have HW0 := Lib.hid rw_
      have n8 := tt.n8
      have nn := tt.n
      have m12 := tt.m12
      have HS1 := Lib.hid (fun s => show chS V W p (s + 1) = chS V W p s ++ chK V W p s m by rw [← hm]; rfl)
      rw [hm] at m12
      rw [hV] at n8 ⊢
      rw [hW, hV] at nn
      subst nn
      have HLV := Lib.hid hV
      have HLW := Lib.hid hW
      obtain ⟨p1, p2⟩ := hp
      clear ht rv rw_ hV hW tt hm hvl hwl
      go_enter Try.func42, Try.ntmps42
      go_wp2_with (first
        | (go_at_call 78; refine Calls.mono HA.out ?_; rintro e w1 ⟨rfl, hb1⟩; have HB1 := Lib.hid hb1; clear hb1)
        | (go_at_call 54; refine (within_any 0 10000 _ 1 _ _ [p] _ rfl (le_maxLen (by omega)) (RI.new1 (by simp))).mono ?_; rintro e w2 ⟨rfl, hw2⟩; rw [H1.out]; have hb2 := HB1.out.alloc HB1.out.size (.cells #[.int .i64 p] 3); rw [hw2] at hb2; have HB2 := Lib.hid hb2; clear hb2 hw2))
      have hs2 := HB2.out.size
      go_loopw [8, 23] (fun v i wr => ∃ s : Nat, s ≤ n' ∧ i = .int .i64 s ∧ OC w2.heap.size v (chS V W p s) wr ∧ Below w2.heap.size w2 wr) (fun _ i _ => n' - (intOf i).toNat)
      case atStart => exact ⟨0, Nat.zero_le _, rfl, OC.nil, Below.refl _ _⟩
      case round =>
        obtain ⟨s, hsn, rfl, hown, hbw⟩ := hrel
        by_cases hlt : s < n'
        · have hbx := HB2.out.trans (hbw.mono hs2)
          obtain ⟨b, off, r, A1, c1, rfl, hb, hr, hw1, hri⟩ := (HV0.out.at_ (k := s) (by rw [HLV.out]; exact hlt))
          obtain ⟨b', off', q, A2, c2, rfl, hb', hq, hw2, hqi⟩ := (HW0.out.at_ (k := s) (by rw [HLW.out]; exact hlt))
          have hrm := (TTH.out.v r (List.mem_of_getElem? hr)).1.trans HM.out
          have hqm := (TTH.out.w q (List.mem_of_getElem? hq)).1.trans HM.out
          have hrb := (TTH.out.v r (List.mem_of_getElem? hr)).2
          have hqb := (TTH.out.w q (List.mem_of_getElem? hq)).2
          rw [hrm] at hw1
          rw [hqm] at hw2
          have hc1 := ((hbx.mono hB).cell (p := ⟨b, off + s, none⟩) hb).trans hw1
          have HW2 := Lib.hid hw2
          have HR := Lib.hid (And.intro hr (And.intro hq (And.intro hri hqi)))
          have HRM := Lib.hid (And.intro hrm hqm)
          have HRB := Lib.hid (And.intro hrb hqb)
          have HO := Lib.hid (And.intro hown hbw)
          clear hr hq hri hqi hrm hqm hown hbx hbw hw1 hw2 hrb hqb
          have i7 : (s : Int) < n' := by omega
          go_wp2
          have HN1 := Lib.hid (HS1.out s)
          have HCS := Lib.hid (fun k (hk : k ≤ 12) => chSK_len (V := V) (W := W) (p := p) (s := s) (k := k) (by omega) (by rw [HM.out]; exact m12) hk)
          generalize chS V W p s = cS at *
          clear hc1
          go_loopw [8, 30] (fun v i wr => ∃ k : Nat, k ≤ m ∧ i = .int .i64 k ∧ OC w2.heap.size v (cS ++ chK V W p s k) wr ∧ Below w2.heap.size w2 wr) (fun _ i _ => m - (intOf i).toNat)
          case atStart => exact ⟨0, Nat.zero_le _, rfl, by simpa [chK] using HO.out.1, HO.out.2⟩
          case round =>
            obtain ⟨k, hkm, rfl, hown, hbw⟩ := hrel
            by_cases hlk : k < m
            · have hbx := HB2.out.trans (hbw.mono hs2)
              obtain ⟨rb, roff, x, rfl, hrb, hx, hx0⟩ := HR.out.2.2.1.at_ (k := k) (by rw [HRM.out.1]; exact hlk)
              obtain ⟨qb, qoff, y, rfl, hqb, hy, hy0⟩ := HR.out.2.2.2.at_ (k := k) (by rw [HRM.out.2]; exact hlk)
              have d1 := ((hbx.mono hB).cell (p := ⟨rb, roff + k, none⟩) hrb).trans hx0
              have d2 := ((hbx.mono hB).cell (p := ⟨qb, qoff + k, none⟩) hqb).trans hy0
              have d3 := ((hbx.mono hB).cell (p := ⟨b', off' + s, none⟩) hb').trans HW2.out
              have bx := wB_mem HRB.out.1 hx
              have by_ := wB_mem HRB.out.2 hy
              obtain ⟨g1, g2, g3⟩ := ch_pair bx by_ (And.intro p1 p2)
              have HC := Lib.hid (show chB V W p s k = decide (p * x < absZ (y - x) * 100) by unfold chB; rw [at2_of HR.out.1 hx, at2_of HR.out.2.1 hy])
              have HKS := Lib.hid (show chK V W p s (k + 1) = chK V W p s k ++ if chB V W p s k then [((s : Int), (k : Int))] else [] from rfl)
              have HLE := Lib.hid (HCS.out k (by omega))
              have HA2 := Lib.hid (fun W => abs_still (y - x) W (by omega) (by omega))
              have HO := Lib.hid hown
              have HBW := Lib.hid hbw
              have j1 : IntKind.i64.wrap (y - x) = y - x := IntWalk.i64_in _ (by omega)
              clear hown hbw hbx hx hy hx0 hy0
              generalize absZ (y - x) = ad at *
              generalize hpx : p * x = px at *
              have j3 : IntKind.i64.wrap px = px := IntWalk.i64_in _ (by omega)
              have i1 : (k : Int) < m := by omega
              by_cases hgt : px < ad * 100
              · have HE := Lib.hid (show chK V W p s (k + 1) = chK V W p s k ++ [((s : Int), (k : Int))] by rw [HKS.out, HC.out, if_pos (by simpa using hgt)])
                go_wp2_with (first
                  | (go_at_call 61; refine Calls.mono (HA2.out _) ?_; rintro e w' ⟨rfl, rfl⟩)
                  | (at_builtin; refine wpList_pushC rfl _ _ rfl _ (cS ++ chK V W p s k) rfl HO.out HBW.out (s, k) rfl rfl rfl rfl rfl HLE.out ?_))
                intro v' w3 hown' hb3
                rw [← HE.out] at hown'
                have HX := Lib.hid (And.intro hown' hb3)
                clear hown' hb3
                go_wp2
                go_roundw
                case rel => exact ⟨k + 1, by omega, by go_num, HX.out.1, HX.out.2⟩
                case measure => simp [intOf]; omega
              · have HE := Lib.hid (show chK V W p s (k + 1) = chK V W p s k by rw [HKS.out, HC.out, if_neg (by simpa using hgt), List.append_nil])
                go_wp2_with (go_at_call 61; refine Calls.mono (HA2.out _) ?_; rintro e w' ⟨rfl, rfl⟩)
                go_roundw
                case rel => exact ⟨k + 1, by omega, by go_num, by rw [HE.out]; exact HO.out, HBW.out⟩
                case measure => simp [intOf]; omega
            · obtain rfl : k = m := by omega
              have HX := Lib.hid (And.intro hown hbw)
              clear hown hbw
              go_wp2
              go_roundw
              case rel => exact ⟨s + 1, by omega, by go_num, by rw [HN1.out]; exact HX.out.1, HX.out.2⟩
              case measure => simp [intOf]; omega
        · obtain rfl : s = n' := by omega
          have HR := Lib.hid (And.intro hown hbw)
          clear hown hbw
          go_wp2
          go_ret2
          obtain ⟨Ao, co, rfl, hro⟩ := HR.out.1.rs
          exact ⟨_, rfl, ⟨Ao, co, rfl, hro⟩, HB2.out.trans (HR.out.2.mono hs2)⟩
    · rw [chN_bad ht hp]
      have H1 := Lib.hid (show wB 0 10000 [p] = false by rw [wB_1]; simp; omega)
      clear ht rv rw_ hp tt
      go_enter Try.func42, Try.ntmps42
      go_wp2_with (first
        | (go_at_call 78; refine Calls.mono HA.out ?_; rintro e w1 ⟨rfl, hb1⟩)
        | (go_at_call 54; refine (within_any 0 10000 _ 1 _ _ [p] _ rfl (le_maxLen (by omega)) (RI.new1 (by simp))).mono ?_; rintro e w2 ⟨rfl, rfl⟩; rw [H1.out]))
      go_ret2
      exact ⟨_, rfl, QC.nil, hb1.alloc hb1.size _⟩
end Go.Proofs.Ytliocbjmledfbaa

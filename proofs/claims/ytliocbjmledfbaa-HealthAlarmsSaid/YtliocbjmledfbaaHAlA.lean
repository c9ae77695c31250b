/- Alarm of the program. -/
import Derived.Test.YtliocbjmledfbaaHAl
namespace Go.Proofs.Ytliocbjmledfbaa
open Go.RowKit

theorem amN_many {V : List Int} {lim num den : Int} (h : 64 < V.length) : amN V lim num den = (0, 2) := by unfold amN; rw [if_pos h]
theorem amN_bad {V : List Int} {lim num den : Int} (h : ¬ 64 < V.length) (h2 : alB V lim num den = false) : amN V lim num den = (0, 1) := by unfold amN; rw [if_neg h, h2]; rfl
theorem amN_yes {V : List Int} {lim num den : Int} (h : ¬ 64 < V.length) (h2 : alB V lim num den = true) : amN V lim num den = (alS V lim num den 0 V.length, 0) := by unfold amN; rw [if_neg h, h2]; rfl
theorem alS_no {V : List Int} {lim num den : Int} {k n : Nat} (hk : k < n) (h : ¬ (lim ≤ atL V k ∧ hitB V num den k = true)) : alS V lim num den k (n - k) = alS V lim num den (k + 1) (n - (k + 1)) := by
  rw [show n - k = (n - (k + 1)) + 1 by omega]
  show (if _ then _ else _) = _
  rw [if_neg h]
theorem alS_yes {V : List Int} {lim num den : Int} {k n : Nat} (hk : k < n) (h : lim ≤ atL V k ∧ hitB V num den k = true) : alS V lim num den k (n - k) = k := by
  rw [show n - k = (n - (k + 1)) + 1 by omega]
  show (if _ then _ else _) = _
  rw [if_pos h]

set_option maxRecDepth 100000 in
set_option maxHeartbeats 2000000 in
theorem alarm_any (A : Option Addr) (n c B : Nat) (V : List Int) (lim num den : Int) (w : World) (hx : V.length = n) (hn : n ≤ maxLen) (hc : n ≤ c) (hB : B ≤ w.heap.size) (h : RI w B A V) :
    Calls Try.prog 36 #[.slice A n c, .int .i64 lim, .int .i64 num, .int .i64 den] w fun e w' => e = .returned (.tuple #[.int .i64 (amN V lim num den).1, .int .i64 (amN V lim num den).2]) ∧ Below w.heap.size w w' := by
  have hnn := hn
  unfold maxLen at hnn
  by_cases g : 64 < n
  · rw [amN_many (by omega)]
    clear h
    go_enter Try.func36, Try.ntmps36
    go_wp2
    go_ret2
    exact ⟨rfl, Below.refl _ _⟩
  · have HV := Lib.hid (areLevels_any A n c B V w hx hn h)
    cases hv : wB (-1000000) 1000000 V with
    | false =>
      rw [amN_bad (by omega) (by unfold alB; simp [hv])]
      rw [hv] at HV
      clear h hv
      go_enter Try.func36, Try.ntmps36
      go_wp2_with (go_at_call 71; refine Calls.mono HV.out ?_; rintro e w' ⟨rfl, rfl⟩)
      go_ret2
      exact ⟨rfl, Below.refl _ _⟩
    | true =>
      rw [hv] at HV
      have HL := Lib.hid (areLevels_any (some ⟨w.heap.size, 0, none⟩) 1 1 (w.heap.size + 1) [lim] (w.alloc (.cells #[.int .i64 lim] 3)) rfl (le_maxLen (by omega)) (RI.new1 rfl))
      by_cases g1 : -1000000 ≤ lim ∧ lim ≤ 1000000
      · rw [show wB (-1000000) 1000000 [lim] = true by rw [wB_len]; simp [g1]] at HL
        by_cases g2 : 0 ≤ num ∧ num ≤ 1000000
        · have H2 := Lib.hid (show wB 0 1000000 [num] = true by rw [wB_len]; simp [g2])
          by_cases g3 : 1 ≤ den ∧ den ≤ 1000000
          · have H3 := Lib.hid (show wB 1 1000000 [den] = true by rw [wB_len]; simp [g3])
            rw [amN_yes (by omega) (by unfold alB; simp [hv, g1, g2, g3])]
            have HVB := Lib.hid hv
            have HI := Lib.hid h
            have HXL := Lib.hid hx
            have g2' := Lib.hid g2
            have g3' := Lib.hid g3
            rw [hx]
            clear h hv
            go_enter Try.func36, Try.ntmps36
            go_wp2_with (first
              | (go_at_call 71; with_reducible refine Calls.mono HV.out ?_; rintro e w' ⟨rfl, rfl⟩)
              | (go_at_call 71; with_reducible refine Calls.mono HL.out ?_; rintro e w' ⟨rfl, rfl⟩)
              | (go_at_call_of 54 (Value.int .i64 0); refine (within_any 0 1000000 _ 1 _ _ [num] _ rfl (le_maxLen (by omega)) (RI.new1 (by simp))).mono ?_; rintro e w' ⟨rfl, rfl⟩; rw [H2.out])
              | (go_at_call 54; refine (within_any 1 1000000 _ 1 _ _ [den] _ rfl (le_maxLen (by omega)) (RI.new1 (by simp))).mono ?_; rintro e w' ⟨rfl, rfl⟩; rw [H3.out]))
            have HB0 := Lib.hid (show Below w.heap.size w (((w.alloc (.cells #[.int .i64 lim] 3)).alloc (.cells #[.int .i64 num] 3)).alloc (.cells #[.int .i64 den] 3)) by go_grown)
            generalize ((w.alloc _).alloc _).alloc _ = w3 at *
            clear HV HL H2 H3
            go_loopw [39] (fun i wr => ∃ k : Nat, k ≤ n ∧ i = .int .i64 k ∧ alS V lim num den 0 n = alS V lim num den k (n - k) ∧ Below w.heap.size w wr) (fun i _ => n - (intOf i).toNat)
            case atStart => exact ⟨0, Nat.zero_le _, rfl, rfl, HB0.out⟩
            case round =>
              obtain ⟨k, hk, rfl, hs, hbw⟩ := hrel
              by_cases hlt : k < n
              · obtain ⟨b, off, x, rfl, hb, hx, hcx⟩ := (HI.out.below (hbw.mono hB)).at_ (k := k) (by rw [HXL.out]; exact hlt)
                have HAT := Lib.hid (show atL V k = x by simp [atL, hx])
                have HRI := Lib.hid (HI.out.below (hbw.mono hB))
                have HBW := Lib.hid hbw
                have HSS := Lib.hid hs
                clear hx hbw hs
                have i7 : (k : Int) < n := by omega
                by_cases hlx : x < lim
                · have HNO := Lib.hid (alS_no (V := V) (lim := lim) (num := num) (den := den) hlt (fun hh => by have := HAT.out; omega))
                  go_wp2
                  go_roundw
                  case rel => exact ⟨k + 1, by omega, by go_num, HSS.out.trans HNO.out, HBW.out⟩
                  case measure => simp [intOf]; omega
                · obtain ⟨lo, hlo⟩ : ∃ lo, k + 1 - 8 = lo := ⟨_, rfl⟩
                  have m1 : max 0 ((k : Int) + 1 - 8) = (lo : Int) := by omega
                  have hll : k + 1 - lo ≤ 8 ∧ 1 ≤ k + 1 - lo ∧ lo ≤ k + 1 := by omega
                  obtain ⟨l1, l2, l3⟩ := hll
                  have hlc : ¬ c = lo := by omega
                  have hpl := prt_len (V := V) (i := k) (by rw [HXL.out]; exact hlt)
                  rw [hlo] at hpl
                  have HPR := Lib.hid (show RI wr B (some ⟨b, off + lo, none⟩) (prt V k) by unfold prt; rw [hlo]; exact HRI.out.cut lo (k + 1 - lo))
                  have hv := prt_val (V := V) (i := k) (by rw [HXL.out]; exact hlt) HVB.out
                  have hbd := lst_bd (valB_get hv).2.1
                  have HCH := Lib.hid (chance_any (some ⟨b, off + lo, none⟩) (k + 1 - lo) (c - lo) B (prt V k) wr hpl (by omega) (by omega) (by omega) (by have := HBW.out.size; omega) HPR.out)
                  obtain ⟨q1, q2⟩ := hbd
                  have HCM := Lib.hid (fun W => fcompare_any (lst (prt V k)).1 (lst (prt V k)).2 num den W q1 q2 g2'.out g3'.out)
                  have HHB := Lib.hid (show hitB V num den k = decide ((lst (prt V k)).1 * den ≤ num * (lst (prt V k)).2) from rfl)
                  generalize lst (prt V k) = ls at *
                  obtain ⟨u, v⟩ := ls
                  dsimp only at HCH HCM HHB q1 q2
                  clear hv hpl hlo
                  by_cases hit : u * den ≤ num * v
                  · have HY := Lib.hid (alS_yes (V := V) (lim := lim) (num := num) (den := den) hlt ⟨by rw [HAT.out]; omega, by rw [HHB.out]; simpa using hit⟩)
                    have hz : cmpI (u * den) (num * v) ≤ 0 := cmp_le.2 hit
                    clear hit
                    generalize cmpI (u * den) (num * v) = z at *
                    go_wp2_with (first
                      | (go_at_call 68; refine Calls.mono HCH.out ?_; rintro e w5 ⟨rfl, hb5⟩; have HB5 := Lib.hid (HBW.out.trans (hb5.mono HBW.out.size)); clear hb5)
                      | (go_at_call 72; refine Calls.mono (HCM.out _) ?_; rintro e w6 ⟨rfl, hb6⟩; have HB6 := Lib.hid (HB5.out.trans (hb6.mono HB5.out.size)); clear hb6))
                    go_ret2
                    exact ⟨by rw [HSS.out, HY.out]; rfl, HB6.out⟩
                  · have HNO := Lib.hid (alS_no (V := V) (lim := lim) (num := num) (den := den) hlt (fun hh => by rw [HHB.out] at hh; simp at hh; omega))
                    have hz : 0 < cmpI (u * den) (num * v) := by
                      have := cmp_le (a := u * den) (b := num * v)
                      omega
                    clear hit
                    generalize cmpI (u * den) (num * v) = z at *
                    go_wp2_with (first
                      | (go_at_call 68; refine Calls.mono HCH.out ?_; rintro e w5 ⟨rfl, hb5⟩; have HB5 := Lib.hid (HBW.out.trans (hb5.mono HBW.out.size)); clear hb5)
                      | (go_at_call 72; refine Calls.mono (HCM.out _) ?_; rintro e w6 ⟨rfl, hb6⟩; have HB6 := Lib.hid (HB5.out.trans (hb6.mono HB5.out.size)); clear hb6))
                    go_roundw
                    case rel => exact ⟨k + 1, by omega, by go_num, HSS.out.trans HNO.out, HB6.out⟩
                    case measure => simp [intOf]; omega
              · obtain rfl : k = n := by omega
                have HE := Lib.hid (show alS V lim num den 0 k = -1 by rw [hs, Nat.sub_self]; rfl)
                have HBW := Lib.hid hbw
                clear hbw hs
                go_wp2
                go_ret2
                exact ⟨by rw [HE.out]; rfl, HBW.out⟩
          · have H3 := Lib.hid (show wB 1 1000000 [den] = false by rw [wB_len]; simp; omega)
            rw [amN_bad (by omega) (by unfold alB; simp; omega)]
            clear h hv
            go_enter Try.func36, Try.ntmps36
            go_wp2_with (first
              | (go_at_call 71; with_reducible refine Calls.mono HV.out ?_; rintro e w' ⟨rfl, rfl⟩)
              | (go_at_call 71; with_reducible refine Calls.mono HL.out ?_; rintro e w' ⟨rfl, rfl⟩)
              | (go_at_call_of 54 (Value.int .i64 0); refine (within_any 0 1000000 _ 1 _ _ [num] _ rfl (le_maxLen (by omega)) (RI.new1 (by simp))).mono ?_; rintro e w' ⟨rfl, rfl⟩; rw [H2.out])
              | (go_at_call 54; refine (within_any 1 1000000 _ 1 _ _ [den] _ rfl (le_maxLen (by omega)) (RI.new1 (by simp))).mono ?_; rintro e w' ⟨rfl, rfl⟩; rw [H3.out]))
            go_ret2
            exact ⟨rfl, by go_grown⟩
        · have H2 := Lib.hid (show wB 0 1000000 [num] = false by rw [wB_len]; simp; omega)
          rw [amN_bad (by omega) (by unfold alB; simp; omega)]
          clear h hv
          go_enter Try.func36, Try.ntmps36
          go_wp2_with (first
            | (go_at_call 71; with_reducible refine Calls.mono HV.out ?_; rintro e w' ⟨rfl, rfl⟩)
            | (go_at_call 71; with_reducible refine Calls.mono HL.out ?_; rintro e w' ⟨rfl, rfl⟩)
            | (go_at_call 54; refine (within_any 0 1000000 _ 1 _ _ [num] _ rfl (le_maxLen (by omega)) (RI.new1 (by simp))).mono ?_; rintro e w' ⟨rfl, rfl⟩; rw [H2.out]))
          go_ret2
          exact ⟨rfl, by go_grown⟩
      · rw [show wB (-1000000) 1000000 [lim] = false by rw [wB_len]; simp; omega] at HL
        rw [amN_bad (by omega) (by unfold alB; simp; omega)]
        clear h hv
        go_enter Try.func36, Try.ntmps36
        go_wp2_with (first
          | (go_at_call 71; with_reducible refine Calls.mono HV.out ?_; rintro e w' ⟨rfl, rfl⟩)
          | (go_at_call 71; with_reducible refine Calls.mono HL.out ?_; rintro e w' ⟨rfl, rfl⟩))
        go_ret2
        exact ⟨rfl, by go_grown⟩
end Go.Proofs.Ytliocbjmledfbaa

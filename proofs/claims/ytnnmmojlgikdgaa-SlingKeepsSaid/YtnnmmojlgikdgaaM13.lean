/- Contracts of the functions that the statement reaches: JRkeeps, JAllow2, JKeepF, JKeepT, JGustF, JGust1, JGustM, JGustT, JKeepR, JGustR, JKeepLaw. -/
import Derived.Test.YtnnmmojlgikdgaaM12
import Derived.Test.YtnnmmojlgikdgaaM5
import Derived.Test.YtnnmmojlgikdgaaM7

/- The reference's keeps. -/
namespace Go.Proofs.Ytnnmmojlgikdgaa
open Go.RowKit

def rkN (N D d : Int) (S : List (Int × Int)) (lo hi : Int) (k : Nat) : Int := if stF (kpB N D d S lo hi) 0 (k + 1) ≤ k then (stF (kpB N D d S lo hi) 0 (k + 1) : Int) else -1
theorem take_rep {b : List (Int × Int)} {g : Int × Int} {n t : Nat} (hb : b.length = 2) (ht : t ≤ n) : (b ++ List.replicate n g).take (t + 2) = b ++ List.replicate t g := by
  rw [List.take_append, List.take_of_length_le (by omega), List.take_replicate, hb]
  congr 2
  omega
/-- With spans that are spans the lower end and the upper one decide. -/
theorem kpB_ends {N D d lo hi : Int} {S : List (Int × Int)} {t : Nat} (hv : ∀ s ∈ S, s.1 ≤ s.2) (hl : t + 2 ≤ S.length) : kpB N D d S lo hi t = (decide (lo * powI d t ≤ endN false (S.take (t + 2)) (efL N D d t)) && decide (endN true (S.take (t + 2)) (efL N D d t) ≤ hi * powI d t)) := by
  have := end_le (S := S.take (t + 2)) (E := efL N D d t) (fun s hs => hv s (List.mem_of_mem_take hs)) (by rw [efL_len]; simp; omega)
  unfold kpB inF
  rw [Bool.eq_iff_iff]
  simp only [Bool.and_eq_true, decide_eq_true_eq]
  omega

set_option maxRecDepth 100000 in
set_option maxHeartbeats 4000000 in
theorem rkeeps7_any (N D d gl gh lo hi : Int) (Ab : Option Addr) (nb cb n B : Nat) (b : List (Int × Int)) (w : World) (hs : slB N D d = true) (hlv : vS (lo, hi) = true) (hn : n ≤ 16) (hb : b.length = nb) (hb2 : nb = 2) (hS : SB (b ++ List.replicate n (gl, gh))) (hv : ∀ s ∈ b ++ List.replicate n (gl, gh), s.1 ≤ s.2) (hB : B ≤ w.heap.size) (hr : RS w B Ab b) :
    Calls Try.prog 71 #[.agg #[.int .i64 N, .int .i64 D, .int .i64 d], .slice Ab nb cb, .agg #[.int .i64 gl, .int .i64 gh], .int .i64 n, .agg #[.int .i64 lo, .int .i64 hi]] w fun e w' => e = .returned (.int .i64 (rkN N D d (b ++ List.replicate n (gl, gh)) lo hi n)) ∧ Below w.heap.size w w' := by
  obtain ⟨⟨d1, d2⟩, _, _⟩ := slB_get hs
  obtain ⟨hlh, hlo, hhi⟩ := vS_get hlv
  have HEN := Lib.hid (fun (t : Nat) (h : t ≤ n) (high : Bool) (W : World) (hW : Below w.heap.size w W) => by
    have := rends7_any N D d gl gh Ab nb cb t w.heap.size b high W hs (by omega) hb hb2 (by have := hS.take (t + 2); rwa [take_rep (by omega) h] at this) hW.size ((hr.more hB).below hW)
    rw [← take_rep (n := n) (by omega) h] at this
    exact this)
  have HPW := Lib.hid (fun (t : Nat) (h : t ≤ n) (W : World) => power_any d t W d1 d2 (by omega))
  have HPB := Lib.hid (fun (t : Nat) (h : t ≤ n) => And.intro (powI_bd d1 d2 t).1 (Int.le_trans ((powI_bd d1 d2 t).2 (by omega)) (powI_4 (show t ≤ 16 by omega))))
  have HKP := Lib.hid (fun (t : Nat) (h : t ≤ n) => kpB_ends (N := N) (D := D) (d := d) (lo := lo) (hi := hi) (t := t) hv (by simp; omega))
  have hr9 : rkN N D d (b ++ List.replicate n (gl, gh)) lo hi n = if stF (kpB N D d (b ++ List.replicate n (gl, gh)) lo hi) 0 (n + 1) ≤ n then (stF (kpB N D d (b ++ List.replicate n (gl, gh)) lo hi) 0 (n + 1) : Int) else -1 := rfl
  generalize rkN N D d (b ++ List.replicate n (gl, gh)) lo hi n = r9 at *
  obtain ⟨P, hP⟩ : ∃ P, kpB N D d (b ++ List.replicate n (gl, gh)) lo hi = P := ⟨_, rfl⟩
  rw [hP] at hr9 HKP
  obtain ⟨S, hS9⟩ : ∃ S, b ++ List.replicate n (gl, gh) = S := ⟨_, rfl⟩
  rw [hS9] at HKP HEN
  have HR9 := Lib.hid hr9
  have HA0 := Lib.hid ((AV.start (N := N) (D := D) (d := d) (gl := gl) (gh := gh) (w := w)).alloc (.cells #[.int .i64 lo, .int .i64 hi] 27))
  have HL0 := Lib.hid (blk_new ((w.alloc (.cells #[.int .i64 N, .int .i64 D, .int .i64 d] 23)).alloc (.cells #[.int .i64 gl, .int .i64 gh] 27)) (.cells #[.int .i64 lo, .int .i64 hi] 27) (w.heap.size + 1 + 1) (by simp))
  clear hs hlv hb hb2 hS hv hr hr9 hP hS9
  go_enter Try.func71, Try.ntmps71
  go_upto_region 2 with (fail)
  generalize World.alloc _ _ = w1 at *
  go_loopw [11] (fun ui wr => ∃ t : Nat, t ≤ n + 1 ∧ ui = .int .i64 t ∧ stF P 0 (n + 1) = stF P t (n + 1 - t) ∧ Below w1.heap.size w1 wr) (fun ui _ => n + 1 - (intOf ui).toNat)
  case atStart => exact ⟨0, by omega, rfl, rfl, Below.refl _ _⟩
  case round =>
    obtain ⟨t, ht, rfl, hst, hbw⟩ := hrel
    have HST := Lib.hid hst
    have HBW := Lib.hid hbw
    have HAW := Lib.hid (HA0.out.next hbw)
    have HLW := Lib.hid ((hbw.block _ (lt_of_block HL0.out)).trans HL0.out)
    clear hst hbw
    by_cases hlt : t ≤ n
    · have hkp := HKP.out t hlt
      have hen0 := HEN.out t hlt false
      have hen1 := HEN.out t hlt true
      have hpb := HPB.out t hlt
      have hpw := HPW.out t hlt
      obtain ⟨lw, hlw⟩ : ∃ z, endN false (S.take (t + 2)) (efL N D d t) = z := ⟨_, rfl⟩
      obtain ⟨hw, hhw⟩ : ∃ z, endN true (S.take (t + 2)) (efL N D d t) = z := ⟨_, rfl⟩
      obtain ⟨dn, hdn⟩ : ∃ z, powI d t = z := ⟨_, rfl⟩
      rw [hlw] at hen0
      rw [hhw] at hen1
      rw [hlw, hhw, hdn] at hkp
      rw [hdn] at hpb hpw
      have HE0 := Lib.hid hen0
      have HE1 := Lib.hid hen1
      have HP := Lib.hid hpw
      have m1 := mul_bd (a := dn) (A := 4294967296) (u := lo) (M := 1000000) (by omega) hpb.2 (by omega) (by omega) (by omega)
      have m2 := mul_bd (a := dn) (A := 4294967296) (u := hi) (M := 1000000) (by omega) hpb.2 (by omega) (by omega) (by omega)
      rw [Int.mul_comm dn lo] at m1
      rw [Int.mul_comm dn hi] at m2
      obtain ⟨p1, hp1⟩ : ∃ z, lo * dn = z := ⟨_, rfl⟩
      obtain ⟨p2, hp2⟩ : ∃ z, hi * dn = z := ⟨_, rfl⟩
      rw [hp1, hp2] at hkp
      rw [hp1] at m1
      rw [hp2] at m2
      have i1 : IntKind.i64.wrap (lo * dn) = p1 := by rw [hp1]; exact IntWalk.i64_in _ (by omega)
      have i2 : IntKind.i64.wrap (hi * dn) = p2 := by rw [hp2]; exact IntWalk.i64_in _ (by omega)
      have HKPT := Lib.hid hkp
      have HS1 := Lib.hid (show n + 1 - t = (n - t) + 1 by omega)
      have s0 := cellOf (o := 0) HAW.out.s rfl
      have s1 := cellOf (o := 1) HAW.out.s rfl
      have s2 := cellOf (o := 2) HAW.out.s rfl
      have g0 := cellOf (o := 0) HAW.out.g rfl
      have g1 := cellOf (o := 1) HAW.out.g rfl
      have l0 := lt_of_block HAW.out.s
      have l1 := lt_of_block HAW.out.g
      clear hlw hhw hdn hen0 hen1 hpb hpw m1 m2 hp1 hp2 hkp
      go_upto_region 5 with (go_at_call 66; refine Calls.mono (HE0.out _ HAW.out.b) ?_; rintro e w3 ⟨u3, rfl, _, hb3⟩; have HA3 := Lib.hid (HAW.out.next hb3); have HB3 := Lib.hid (HBW.out.trans (hb3.mono HBW.out.size)); have HL3 := Lib.hid ((hb3.block _ (lt_of_block HLW.out)).trans HLW.out); clear hb3 s0 s1 s2 g0 g1 l0 l1)
      have s0 := cellOf (o := 0) HA3.out.s rfl
      have s1 := cellOf (o := 1) HA3.out.s rfl
      have s2 := cellOf (o := 2) HA3.out.s rfl
      have g0 := cellOf (o := 0) HA3.out.g rfl
      have g1 := cellOf (o := 1) HA3.out.g rfl
      have l0 := lt_of_block HA3.out.s
      have l1 := lt_of_block HA3.out.g
      go_upto_region 6 with (go_at_call 66; refine Calls.mono (HE1.out _ HA3.out.b) ?_; rintro e w4 ⟨u4, rfl, _, hb4⟩; have HA4 := Lib.hid (HA3.out.next hb4); have HB4 := Lib.hid (HB3.out.trans (hb4.mono HB3.out.size)); have HL4 := Lib.hid ((hb4.block _ (lt_of_block HL3.out)).trans HL3.out); clear hb4 s0 s1 s2 g0 g1 l0 l1)
      have s2 := cellOf (o := 2) HA4.out.s rfl
      have x0 := cellOf (o := 0) HL4.out rfl
      have x1 := cellOf (o := 1) HL4.out rfl
      have l0 := lt_of_block HA4.out.s
      have l2 := lt_of_block HL4.out
      by_cases k1 : lw < p1
      · go_wp2_with (go_at_call 58; refine Calls.mono (HP.out _) ?_; rintro e w5 ⟨rfl, rfl⟩)
        go_ret
        have hp0 : P t = false := by rw [HKPT.out, decide_eq_false (by omega)]; rfl
        have h9 := HR9.out
        rw [HST.out, HS1.out, stF_stop hp0, if_pos hlt] at h9
        exact ⟨by rw [h9]; try rfl, HA4.out.b⟩
      · by_cases k2 : p2 < hw
        · go_wp2_with (go_at_call 58; refine Calls.mono (HP.out _) ?_; rintro e w5 ⟨rfl, rfl⟩)
          go_ret
          have hp0 : P t = false := by rw [HKPT.out, decide_eq_false (show ¬ hw ≤ p2 by omega), Bool.and_false]
          have h9 := HR9.out
          rw [HST.out, HS1.out, stF_stop hp0, if_pos hlt] at h9
          exact ⟨by rw [h9]; try rfl, HA4.out.b⟩
        · go_wp2_with (go_at_call 58; refine Calls.mono (HP.out _) ?_; rintro e w5 ⟨rfl, rfl⟩)
          go_roundw
          case rel =>
            have hp1 : P t = true := by rw [HKPT.out, decide_eq_true (show p1 ≤ lw by omega), decide_eq_true (show hw ≤ p2 by omega)]; rfl
            exact ⟨t + 1, by omega, by go_num, by rw [HST.out, HS1.out, stF_step hp1, show n + 1 - (t + 1) = n - t by omega], HB4.out⟩
          case measure => simp [intOf] <;> omega
    · obtain rfl : t = n + 1 := by omega
      have h9 := HR9.out
      rw [HST.out, Nat.sub_self, show stF P (n + 1) 0 = n + 1 from rfl, if_neg (by omega)] at h9
      have HF9 := Lib.hid h9
      have hnl : ¬ ((n : Int) + 1 ≤ (n : Int)) := by omega
      clear h9 hlt
      go_wp2
      go_ret
      exact ⟨by rw [HF9.out]; try rfl, HAW.out.b⟩
end Go.Proofs.Ytnnmmojlgikdgaa

/- The sets that a call allows: wrong numbers. -/
namespace Go.Proofs.Ytnnmmojlgikdgaa
open Go.RowKit

set_option maxRecDepth 100000 in
set_option maxHeartbeats 4000000 in
theorem allow_bad2 (N D d gl gh nn : Int) (Ab Al : Option Addr) (nb cb nl cl B : Nat) (b l : List (Int × Int)) (w : World) (hb : b.length = nb) (hnb : nb ≤ maxLen) (hl : l.length = nl) (hnl : nl ≤ maxLen) (hB : B ≤ w.heap.size) (hrb : RS w B Ab b) (hrl : RS w B Al l) (hs : slB N D d = true) (hc : chkB b = true) (hv : vS (gl, gh) = true) (hll : l.all vS = true) (hsf : saB b gl gh nn = false) :
    Calls Try.prog 63 #[.agg #[.int .i64 N, .int .i64 D, .int .i64 d], .slice Ab nb cb, .agg #[.int .i64 gl, .int .i64 gh], .int .i64 nn, .slice Al nl cl] w fun e w' => e = .returned (.tuple #[.agg #[.int .i64 0, .int .i64 0, .int .i64 0, .slice none 0 0], .int .i64 1]) ∧ Below w.heap.size w w' := by
  have HA0 := Lib.hid (AW.start (N := N) (D := D) (d := d) (gl := gl) (gh := gh) (w := w))
  have HC := Lib.hid (fun W => slcheck_any N D d W)
  have HCB := Lib.hid (fun (W : World) (hW : Below w.heap.size w W) => check_any Ab nb cb w.heap.size b W hb hnb hW.size ((hrb.more hB).below hW))
  have HSG := Lib.hid (fun (W : World) (g : Nat) (hg : g < W.heap.size) (hr : RS W (g + 1) (some ⟨g, 0, none⟩) [(gl, gh)]) => checkSpans_any (some ⟨g, 0, none⟩) 1 1 (g + 1) [(gl, gh)] W rfl (le_maxLen (by omega)) hg hr)
  simp only [List.all_cons, List.all_nil, Bool.and_true] at HSG
  have HSL := Lib.hid (fun (W : World) (hW : Below w.heap.size w W) => checkSpans_any Al nl cl w.heap.size l W hl hnl hW.size ((hrl.more hB).below hW))
  have HWG := Lib.hid (fun (W : World) (g : Nat) (hr : RI W (g + 1) (some ⟨g, 0, none⟩) [gl, gh]) => within_any (-100) 100 (some ⟨g, 0, none⟩) 2 2 (g + 1) [gl, gh] W rfl (le_maxLen (by omega)) hr)
  have HWN := Lib.hid (fun (W : World) (g : Nat) (hr : RI W (g + 1) (some ⟨g, 0, none⟩) [nn]) => within_any 0 16 (some ⟨g, 0, none⟩) 1 1 (g + 1) [nn] W rfl (le_maxLen (by omega)) hr)
  have HWS := Lib.hid (fun (x1 x2 : Int) (W : World) (g : Nat) (hr : RI W (g + 1) (some ⟨g, 0, none⟩) [x1, x2]) => within_any (-1000) 1000 (some ⟨g, 0, none⟩) 2 2 (g + 1) [x1, x2] W rfl (le_maxLen (by omega)) hr)
  rw [slE_yes hs] at HC
  rw [chkE_yes hc] at HCB
  rw [hv] at HSG
  rw [hll] at HSL
  have HRB := Lib.hid (fun (W : World) (hW : Below w.heap.size w W) => (hrb.more hB).below hW)
  have hn3 : nb ≤ 3 := by unfold chkB at hc; simp at hc; omega
  obtain ⟨r0, hr0⟩ : ∃ r, ((decide (b.length = 2) && wB (-100) 100 [gl, gh]) && decide (0 ≤ nn ∧ nn ≤ 16)) = r := ⟨_, rfl⟩
  have hsa : saB b gl gh nn = (r0 && b.all fun s => wB (-1000) 1000 [s.1, s.2]) := by unfold saB; rw [hr0]
  have HR0 := Lib.hid hr0
  have HSA := Lib.hid hsa
  clear hs hc hv hll hr0 hsa hrb hrl
  subst hb
  go_enter Try.func63, Try.ntmps63
  go_upto_region 1 with (fail)
  generalize World.alloc _ _ = w1 at *
  have s0 := cellOf (o := 0) HA0.out.s rfl
  have s1 := cellOf (o := 1) HA0.out.s rfl
  have s2 := cellOf (o := 2) HA0.out.s rfl
  have g0 := cellOf (o := 0) HA0.out.g rfl
  have g1 := cellOf (o := 1) HA0.out.g rfl
  have l0 := lt_of_block HA0.out.s
  have l1 := lt_of_block HA0.out.g
  have l2 := lt_of_block HA0.out.r
  go_upto_region 2 with (go_at_call 15; refine Calls.mono (HC.out _) ?_; rintro e w2 ⟨rfl, hb2⟩; have HA2 := Lib.hid (HA0.out.next hb2); clear hb2 s0 s1 s2 g0 g1 l0 l1 l2)
  go_upto_region 6 with (first
    | (go_at_call 97; refine Calls.mono (HCB.out _ HA2.out.b) ?_; rintro e w3 ⟨rfl, hb3⟩; have HA3 := Lib.hid (HA2.out.next hb3); clear hb3; have g0 := cellOf (o := 0) HA3.out.g rfl; have g1 := cellOf (o := 1) HA3.out.g rfl; have l1 := lt_of_block HA3.out.g)
    | (go_at_call_of 59 (Value.slice Al nl cl); refine Calls.mono (HSL.out _ HA4.out.b) ?_; rintro e w5 ⟨rfl, hb5⟩; have HA5 := Lib.hid (HA4.out.next hb5); clear hb5)
    | (go_at_call 59; refine Calls.mono (HSG.out _ _ (by simp) (RS.new1 (by simp))) ?_; rintro e w4 ⟨rfl, hb4⟩; have HA4 := Lib.hid ((HA3.out.alloc _).next hb4); clear hb4 g0 g1 l1))
  go_cut [13] (fun u13 wx => u13 = .bool r0 ∧ AW N D d gl gh w wx)
  case first =>
    have g0 := cellOf (o := 0) HA5.out.g rfl
    have g1 := cellOf (o := 1) HA5.out.g rfl
    have l1 := lt_of_block HA5.out.g
    by_cases h2 : b.length = 2
    · obtain ⟨rg, hrg⟩ : ∃ r, wB (-100) 100 [gl, gh] = r := ⟨_, rfl⟩
      obtain ⟨rn, hrn⟩ : ∃ r, decide (0 ≤ nn ∧ nn ≤ 16) = r := ⟨_, rfl⟩
      have hr := HR0.out
      rw [hrg, hrn, decide_eq_true h2, Bool.true_and] at hr
      rw [hrg] at HWG
      rw [wB_one, hrn] at HWN
      have HRR := Lib.hid hr
      have hbi : ((b.length : Int) == 2) = true := by simp; omega
      clear hrg hrn hr h2
      cases rg with
      | false =>
        go_wp2_with (go_at_call 49; refine Calls.mono (HWG.out _ _ (RI.new2 (by simp))) ?_; rintro e w6 ⟨rfl, rfl⟩)
        go_meet
        case rel => exact ⟨by rw [← HRR.out]; rfl, HA5.out.alloc _⟩
      | true =>
        go_wp2_with (first
          | (go_at_call_of 49 (Value.int .i64 0); refine Calls.mono (HWN.out _ _ (RI.new1 (by simp))) ?_; rintro e w7 ⟨rfl, rfl⟩)
          | (go_at_call 49; refine Calls.mono (HWG.out _ _ (RI.new2 (by simp))) ?_; rintro e w6 ⟨rfl, rfl⟩))
        go_meet
        case rel => exact ⟨by rw [← HRR.out]; rfl, (HA5.out.alloc _).alloc _⟩
    · have hr := HR0.out
      rw [decide_eq_false h2] at hr
      have HRR := Lib.hid hr
      have hbi : ((b.length : Int) == 2) = false := by simp; omega
      clear hr h2 g0 g1 l1
      go_wp2
      go_meet
      case rel => exact ⟨by rw [← HRR.out]; rfl, HA5.out⟩
  case rest =>
    obtain ⟨rfl, haw⟩ := hcut
    have HA6 := Lib.hid haw
    clear haw
    go_upto_region 8 with (fail)
    go_loopw [13, 56] (fun ur ui wr => ∃ j : Nat, j ≤ b.length ∧ ui = .int .i64 j ∧ ur = .bool (r0 && (b.take j).all fun s => wB (-1000) 1000 [s.1, s.2]) ∧ Below wc.heap.size wc wr) (fun _ ui _ => b.length - (intOf ui).toNat)
    case atStart => exact ⟨0, Nat.zero_le _, rfl, by simp, Below.refl _ _⟩
    case round =>
      obtain ⟨j, hj, rfl, rfl, hbw⟩ := hrel
      have HAW := Lib.hid (HA6.out.next hbw)
      have HBW := Lib.hid hbw
      clear hbw
      by_cases hlt : j < b.length
      · obtain ⟨bb, off, s, rfl, hbb, hsx, hc1, hc2⟩ := (HRB.out wr HAW.out.b).at_ hlt
        have hlb : bb < wr.heap.size := World.block_lt_of_cell? _ _ hc1
        have htk : (b.take (j + 1)).all (fun s => wB (-1000) 1000 [s.1, s.2]) = ((b.take j).all (fun s => wB (-1000) 1000 [s.1, s.2]) && wB (-1000) 1000 [s.1, s.2]) := by
          rw [List.take_add_one, hsx, List.all_append]
          simp
        obtain ⟨x1, x2⟩ := s
        simp only at hc1 hc2 htk
        obtain ⟨rs, hrs⟩ : ∃ r, wB (-1000) 1000 [x1, x2] = r := ⟨_, rfl⟩
        obtain ⟨rj, hrj⟩ : ∃ r, (r0 && (b.take j).all fun s => wB (-1000) 1000 [s.1, s.2]) = r := ⟨_, rfl⟩
        have HW2 := Lib.hid (fun W g hr => by have := HWS.out x1 x2 W g hr; rw [hrs] at this; exact this)
        have HTK := Lib.hid (show (r0 && (b.take (j + 1)).all fun s => wB (-1000) 1000 [s.1, s.2]) = (rj && rs) by rw [htk, ← Bool.and_assoc, hrj, hrs])
        rw [hrj]
        clear htk hrs hrj hsx hbb
        cases rj with
        | false =>
          go_wp2
          go_roundw
          case rel => exact ⟨j + 1, hlt, by go_num, by rw [HTK.out]; rfl, HBW.out.alloc HBW.out.size _⟩
          case measure => simp [intOf] <;> omega
        | true =>
          go_wp2_with (go_at_call 49; refine Calls.mono (HW2.out _ _ (RI.new2 (by simp))) ?_; rintro e w6 ⟨rfl, rfl⟩)
          go_roundw
          case rel => exact ⟨j + 1, hlt, by go_num, by rw [HTK.out]; rfl, (HBW.out.alloc HBW.out.size _).alloc (by simp; have := HBW.out.size; omega) _⟩
          case measure => simp [intOf] <;> omega
      · obtain rfl : j = b.length := by omega
        rw [List.take_length, ← HSA.out]
        clear hlt
        rw [hsf]
        have r0 := cellOf (o := 0) HAW.out.r rfl
        have f0 := freeOf (o := 0) HAW.out.r
        have r1 := cellOf (o := 1) HAW.out.r rfl
        have f1 := freeOf (o := 1) HAW.out.r
        have r2 := cellOf (o := 2) HAW.out.r rfl
        have f2 := freeOf (o := 2) HAW.out.r
        have r3 := cellOf (o := 3) HAW.out.r rfl
        have f3 := freeOf (o := 3) HAW.out.r
        have l2 := lt_of_block HAW.out.r
        go_wp2
        have hp9 := HAW.out.put 0 0 0 (.slice none 0 0)
        have hq9 := HAW.out.putB 0 0 0 (.slice none 0 0)
        clear r0 r1 r2 r3 f0 f1 f2 f3 l2
        generalize (((World.setCell wr _ _).setCell _ _).setCell _ _).setCell _ _ = w9 at *
        have d0 := cellOf (o := 0) hp9 rfl
        have d1' := cellOf (o := 1) hp9 rfl
        have d2' := cellOf (o := 2) hp9 rfl
        have d3 := cellOf (o := 3) hp9 rfl
        exact bodyPost_ret (v := .tuple #[.agg #[.int .i64 0, .int .i64 0, .int .i64 0, .slice none 0 0], .int .i64 1]) (by simp [results, Try.results63, go_sem, d0, d1', d2', d3]) rfl ⟨rfl, hq9⟩
end Go.Proofs.Ytnnmmojlgikdgaa

/- Keeps of sling. -/
namespace Go.Proofs.Ytnnmmojlgikdgaa
open Go.RowKit

theorem gz_app {l m : List Int} {j : Nat} : gz (l ++ m) j = if j < l.length then gz l j else gz m (j - l.length) := by
  unfold gz
  rw [List.getElem?_append]
  split <;> rfl
theorem gz_rep {n j : Nat} {x : Int} : gz (List.replicate n x) j = if j < n then x else 0 := by
  unfold gz
  rw [List.getElem?_replicate]
  split <;> rfl
theorem numB_sets {a c g : Int} {n : Nat} (ha : -1000 ≤ a ∧ a ≤ 1000) (hc : -1000 ≤ c ∧ c ≤ 1000) (hg : -100 ≤ g ∧ g ≤ 100) : numB ([a, c] ++ List.replicate n g) = true := by
  refine (numB_iff _).2 ⟨⟨?_, ?_⟩, fun j => ?_⟩
  · show -1000 ≤ a ∧ a ≤ 1000; exact ha
  · show -1000 ≤ c ∧ c ≤ 1000; exact hc
  · rw [gz_app, if_neg (by simp), gz_rep]
    split <;> omega
theorem wB_two {lo hi x y : Int} (h : wB lo hi [x, y] = true) : (lo ≤ x ∧ x ≤ hi) ∧ (lo ≤ y ∧ y ≤ hi) := by
  unfold wB at h
  simpa using h
theorem sb_of {b : List (Int × Int)} {gl gh nn : Int} (h : saB b gl gh nn = true) (n : Nat) : SB (b ++ List.replicate n (gl, gh)) := by
  unfold saB at h
  simp only [Bool.and_eq_true, decide_eq_true_eq, List.all_eq_true] at h
  obtain ⟨⟨⟨h2, hg⟩, _⟩, hs⟩ := h
  obtain ⟨⟨a1, a2⟩, ⟨c1, c2⟩, rfl⟩ := list_two h2
  have ka := wB_two (hs (a1, a2) (by simp))
  have kc := wB_two (hs (c1, c2) (by simp))
  have kg := wB_two hg
  refine ⟨?_, ?_⟩
  · rw [List.map_append, List.map_replicate]
    exact numB_sets ka.1 kc.1 kg.1
  · rw [List.map_append, List.map_replicate]
    exact numB_sets ka.2 kc.2 kg.2
theorem sv_of {b : List (Int × Int)} {gl gh : Int} (hc : chkB b = true) (hv : vS (gl, gh) = true) (n : Nat) : ∀ s ∈ b ++ List.replicate n (gl, gh), s.1 ≤ s.2 := fun s hs => by
  rcases List.mem_append.1 hs with h | h
  · unfold chkB at hc
    simp only [Bool.and_eq_true, List.all_eq_true] at hc
    exact (vS_get (hc.2 s h)).1
  · have := List.eq_of_mem_replicate h
    subst this
    exact (vS_get hv).1
theorem alE_zero {N D d gl gh nn : Int} {b l : List (Int × Int)} (h : alE N D d b gl gh nn l = 0) : slB N D d = true ∧ chkB b = true ∧ vS (gl, gh) = true ∧ l.all vS = true ∧ saB b gl gh nn = true := by
  unfold alE at h
  cases h1 : slB N D d <;> rw [h1] at h
  · simp at h
  cases h2 : chkB b <;> rw [h2] at h
  · simp at h
  cases h3 : vS (gl, gh) <;> rw [h3] at h
  · simp at h
  cases h4 : l.all vS <;> rw [h4] at h
  · simp at h
  cases h5 : saB b gl gh nn <;> rw [h5] at h
  · simp at h
  exact ⟨rfl, rfl, rfl, rfl, rfl⟩
theorem allow_no (N D d gl gh nn : Int) (Ab Al : Option Addr) (nb cb nl cl B : Nat) (b l : List (Int × Int)) (w : World) (hb : b.length = nb) (hnb : nb ≤ maxLen) (hl : l.length = nl) (hnl : nl ≤ maxLen) (hB : B ≤ w.heap.size) (hrb : RS w B Ab b) (hrl : RS w B Al l) (E : Int) (hE : alE N D d b gl gh nn l = E) (h0 : E ≠ 0) :
    Calls Try.prog 63 #[.agg #[.int .i64 N, .int .i64 D, .int .i64 d], .slice Ab nb cb, .agg #[.int .i64 gl, .int .i64 gh], .int .i64 nn, .slice Al nl cl] w fun e w' => e = .returned (.tuple #[.agg #[.int .i64 0, .int .i64 0, .int .i64 0, .slice none 0 0], .int .i64 E]) ∧ Below w.heap.size w w' := by
  by_cases h : E = 70 ∨ E = 10
  · exact allow_bad1 N D d gl gh nn Ab Al nb cb nl cl B b l w hb hnb hl hnl hB hrb hrl E hE h
  · have hE' := hE
    unfold alE at hE'
    cases h1 : slB N D d <;> rw [h1] at hE'
    · exact absurd (Or.inl hE'.symm) h
    cases h2 : chkB b <;> rw [h2] at hE'
    · exact absurd (Or.inr hE'.symm) h
    cases h3 : vS (gl, gh) <;> rw [h3] at hE'
    · exact absurd (Or.inr hE'.symm) h
    cases h4 : l.all vS <;> rw [h4] at hE'
    · exact absurd (Or.inr hE'.symm) h
    cases h5 : saB b gl gh nn <;> rw [h5] at hE'
    · obtain rfl : E = 1 := hE'.symm
      exact allow_bad2 N D d gl gh nn Ab Al nb cb nl cl B b l w hb hnb hl hnl hB hrb hrl h1 h2 h3 h4 h5
    · exact absurd hE'.symm h0
/-- Keeps. -/
def kpN (N D d : Int) (b : List (Int × Int)) (gl gh nn lo hi : Int) : (Int × Bool) × Int :=
  if alE N D d b gl gh nn [(lo, hi)] = 0 then (keN N D d (b ++ List.replicate nn.toNat (gl, gh)) lo hi nn.toNat, 0) else ((0, false), alE N D d b gl gh nn [(lo, hi)])
end Go.Proofs.Ytnnmmojlgikdgaa

/- Keeps of sling. -/
namespace Go.Proofs.Ytnnmmojlgikdgaa
open Go.RowKit

set_option maxRecDepth 100000 in
set_option maxHeartbeats 2000000 in
theorem keepsT_any (N D d gl gh nn lo hi : Int) (Ab : Option Addr) (nb cb B : Nat) (b : List (Int × Int)) (w : World) (hb : b.length = nb) (hnb : nb ≤ maxLen) (hB : B ≤ w.heap.size) (hr : RS w B Ab b) :
    Calls Try.prog 28 #[.agg #[.int .i64 N, .int .i64 D, .int .i64 d], .slice Ab nb cb, .agg #[.int .i64 gl, .int .i64 gh], .int .i64 nn, .agg #[.int .i64 lo, .int .i64 hi]] w fun e w' => e = .returned (.tuple #[.int .i64 (kpN N D d b gl gh nn lo hi).1.1, .bool (kpN N D d b gl gh nn lo hi).1.2, .int .i64 (kpN N D d b gl gh nn lo hi).2]) ∧ Below w.heap.size w w' := by
  have HA0 := Lib.hid ((AV.start (N := N) (D := D) (d := d) (gl := gl) (gh := gh) (w := w)).alloc (.cells #[.int .i64 lo, .int .i64 hi] 27))
  have HL0 := Lib.hid (blk_new ((w.alloc (.cells #[.int .i64 N, .int .i64 D, .int .i64 d] 23)).alloc (.cells #[.int .i64 gl, .int .i64 gh] 27)) (.cells #[.int .i64 lo, .int .i64 hi] 27) (w.heap.size + 1 + 1) (by simp))
  unfold kpN
  by_cases h0 : alE N D d b gl gh nn [(lo, hi)] = 0
  · rw [if_pos h0]
    obtain ⟨hs, hc, hv, hll, hsa⟩ := alE_zero h0
    have hnn : 0 ≤ nn ∧ nn ≤ 16 := by unfold saB at hsa; simp at hsa; exact hsa.1.2
    have hb2 : b.length = 2 := by unfold saB at hsa; simp at hsa; exact hsa.1.1.1
    have HAL := Lib.hid (fun (W : World) (hW : Below w.heap.size w W) (g : Nat) (hg : g < W.heap.size) (hq : RS W W.heap.size (some ⟨g, 0, none⟩) [(lo, hi)]) => allow_ok N D d gl gh nn Ab (some ⟨g, 0, none⟩) nb cb 1 1 W.heap.size b [(lo, hi)] W hb hnb rfl (le_maxLen (by omega)) (Nat.le_refl _) (((hr.below (hW.mono hB)).more (Nat.le_trans hB hW.size))) hq hs hc hv hll hsa)
    have HKE := Lib.hid (fun (A : Option Addr) (c : Nat) (W : World) (hcc : nn.toNat + 2 ≤ c) (hq : RS W W.heap.size A (b ++ List.replicate nn.toNat (gl, gh))) => keeps_any N D d lo hi A nn.toNat (nn.toNat + 2) c W.heap.size (b ++ List.replicate nn.toNat (gl, gh)) W hs (by simpa using hll) rfl (by omega) (by simp; omega) hcc (sb_of hsa _) (Nat.le_refl _) hq)
    obtain ⟨r9, hr9⟩ : ∃ r, keN N D d (b ++ List.replicate nn.toNat (gl, gh)) lo hi nn.toNat = r := ⟨_, rfl⟩
    rw [hr9] at HKE ⊢
    obtain ⟨rt, ri⟩ := r9
    simp only at HKE ⊢
    clear hr9 h0 hs hc hv hll hsa hnn hb2 hr hb
    go_enter Try.func28, Try.ntmps28
    go_upto_region 1 with (fail)
    generalize World.alloc _ _ = w1 at *
    have s0 := cellOf (o := 0) HA0.out.s rfl
    have s1 := cellOf (o := 1) HA0.out.s rfl
    have s2 := cellOf (o := 2) HA0.out.s rfl
    have g0 := cellOf (o := 0) HA0.out.g rfl
    have g1 := cellOf (o := 1) HA0.out.g rfl
    have x0 := cellOf (o := 0) HL0.out rfl
    have x1 := cellOf (o := 1) HL0.out rfl
    have l0 := lt_of_block HA0.out.s
    have l1 := lt_of_block HA0.out.g
    have l2 := lt_of_block HL0.out
    have HA1 := Lib.hid (HA0.out.alloc (.cells #[.int .i64 lo, .int .i64 hi] 27))
    have HLR := Lib.hid (show RS (w1.alloc (.cells #[.int .i64 lo, .int .i64 hi] 27)) (w1.alloc (.cells #[.int .i64 lo, .int .i64 hi] 27)).heap.size (some ⟨w1.heap.size, 0, none⟩) [(lo, hi)] from (RS.new1 rfl).more (by simp))
    have HLS := Lib.hid (show w1.heap.size < (w1.alloc (.cells #[.int .i64 lo, .int .i64 hi] 27)).heap.size by simp)
    go_upto_region 2 with (go_at_call 63; refine Calls.mono (HAL.out _ HA1.out.b w1.heap.size HLS.out HLR.out) ?_; rintro e w3 ⟨A, c, rfl, hcc, hq3, hb3⟩; have HA3 := Lib.hid (HA1.out.next hb3); have HQ3 := Lib.hid hq3; have HCC := Lib.hid hcc; have HL3 := Lib.hid ((hb3.block _ (lt_of_block (blk_old (.cells #[.int .i64 lo, .int .i64 hi] 27) HL0.out))).trans (blk_old (.cells #[.int .i64 lo, .int .i64 hi] 27) HL0.out)); clear hb3 hq3 hcc s0 s1 s2 g0 g1 x0 x1 l0 l1 l2)
    obtain ⟨m, hm⟩ : ∃ m, nn.toNat + 2 = m := ⟨_, rfl⟩
    have HM := Lib.hid hm
    rw [hm] at ⊢
    clear hm
    have HA4 := Lib.hid (HA3.out.alloc (.cells #[.int .i64 N, .int .i64 D, .int .i64 d, .slice A m c] 101))
    have HL4 := Lib.hid (blk_old (.cells #[.int .i64 N, .int .i64 D, .int .i64 d, .slice A m c] 101) HL3.out)
    have bq := blk_new w3 (.cells #[.int .i64 N, .int .i64 D, .int .i64 d, .slice A m c] 101) _ rfl
    have HQ4 := Lib.hid ((HQ3.out.below ((Below.refl w3.heap.size w3).alloc (Nat.le_refl _) (.cells #[.int .i64 N, .int .i64 D, .int .i64 d, .slice A m c] 101))).more (by simp : w3.heap.size ≤ (w3.alloc (.cells #[.int .i64 N, .int .i64 D, .int .i64 d, .slice A m c] 101)).heap.size))
    obtain ⟨q, hq⟩ : ∃ q, w3.heap.size = q := ⟨_, rfl⟩
    rw [hq] at bq ⊢
    clear hq
    generalize World.alloc w3 _ = w4 at *
    have k0 := cellOf (o := 0) bq rfl
    have k1 := cellOf (o := 1) bq rfl
    have k2 := cellOf (o := 2) bq rfl
    have k3 := cellOf (o := 3) bq rfl
    have x0 := cellOf (o := 0) HL4.out rfl
    have x1 := cellOf (o := 1) HL4.out rfl
    have lq := lt_of_block bq
    have l2 := lt_of_block HL4.out
    clear bq
    have HK4 := Lib.hid (HKE.out A c w4 HCC.out HQ4.out)
    rw [HM.out] at HK4
    go_wp2_with (go_at_call 68; refine Calls.mono HK4.out ?_; rintro e w5 ⟨rfl, hb5⟩; have HB5 := Lib.hid (HA4.out.b.trans (hb5.mono HA4.out.b.size)); clear hb5)
    go_ret3
    exact ⟨rfl, HB5.out⟩
  · rw [if_neg h0]
    have HAL := Lib.hid (fun (W : World) (hW : Below w.heap.size w W) (g : Nat) (hg : g < W.heap.size) (hq : RS W W.heap.size (some ⟨g, 0, none⟩) [(lo, hi)]) => allow_no N D d gl gh nn Ab (some ⟨g, 0, none⟩) nb cb 1 1 W.heap.size b [(lo, hi)] W hb hnb rfl (le_maxLen (by omega)) (Nat.le_refl _) (((hr.below (hW.mono hB)).more (Nat.le_trans hB hW.size))) hq _ rfl h0)
    have h0' : (alE N D d b gl gh nn [(lo, hi)] != 0) = true := by rw [bne_iff_ne]; exact h0
    generalize alE N D d b gl gh nn [(lo, hi)] = E at *
    clear h0 hr hb
    go_enter Try.func28, Try.ntmps28
    go_upto_region 1 with (fail)
    generalize World.alloc _ _ = w1 at *
    have s0 := cellOf (o := 0) HA0.out.s rfl
    have s1 := cellOf (o := 1) HA0.out.s rfl
    have s2 := cellOf (o := 2) HA0.out.s rfl
    have g0 := cellOf (o := 0) HA0.out.g rfl
    have g1 := cellOf (o := 1) HA0.out.g rfl
    have x0 := cellOf (o := 0) HL0.out rfl
    have x1 := cellOf (o := 1) HL0.out rfl
    have l0 := lt_of_block HA0.out.s
    have l1 := lt_of_block HA0.out.g
    have l2 := lt_of_block HL0.out
    have HA1 := Lib.hid (HA0.out.alloc (.cells #[.int .i64 lo, .int .i64 hi] 27))
    have HLR := Lib.hid (show RS (w1.alloc (.cells #[.int .i64 lo, .int .i64 hi] 27)) (w1.alloc (.cells #[.int .i64 lo, .int .i64 hi] 27)).heap.size (some ⟨w1.heap.size, 0, none⟩) [(lo, hi)] from (RS.new1 rfl).more (by simp))
    have HLS := Lib.hid (show w1.heap.size < (w1.alloc (.cells #[.int .i64 lo, .int .i64 hi] 27)).heap.size by simp)
    go_wp2_with (go_at_call 63; refine Calls.mono (HAL.out _ HA1.out.b w1.heap.size HLS.out HLR.out) ?_; rintro e w3 ⟨rfl, hb3⟩; have HA3 := Lib.hid ((HA1.out.next hb3).alloc (.cells #[.int .i64 0, .int .i64 0, .int .i64 0, .slice none 0 0] 101)); clear hb3)
    go_ret3
    exact ⟨rfl, HA3.out.b⟩
end Go.Proofs.Ytnnmmojlgikdgaa

/- Plain mathematics: with smaller sets what was kept is kept. -/
namespace Go.Proofs.Ytnnmmojlgikdgaa

/-- Each span in another one. -/
def subS : List (Int × Int) → List (Int × Int) → Prop
  | s :: S, t :: T => (t.1 ≤ s.1 ∧ s.2 ≤ t.2) ∧ subS S T
  | [], [] => True
  | _, _ => False
theorem subS.len : ∀ {S T : List (Int × Int)}, subS S T → S.length = T.length
  | [], [], _ => rfl
  | _ :: S, _ :: T, h => by simp [subS.len h.2]
  | [], _ :: _, h => absurd h (by simp [subS])
  | _ :: _, [], h => absurd h (by simp [subS])
theorem subS.refl : ∀ S : List (Int × Int), subS S S
  | [] => trivial
  | s :: S => ⟨⟨Int.le_refl _, Int.le_refl _⟩, subS.refl S⟩
theorem subS.app : ∀ {S T : List (Int × Int)} {S' T' : List (Int × Int)}, subS S T → subS S' T' → subS (S ++ S') (T ++ T')
  | [], [], _, _, _, h => h
  | _ :: S, _ :: T, _, _, h, h' => ⟨h.1, subS.app h.2 h'⟩
  | [], _ :: _, _, _, h, _ => absurd h (by simp [subS])
  | _ :: _, [], _, _, h, _ => absurd h (by simp [subS])
theorem subS.rep {s t : Int × Int} (h : t.1 ≤ s.1 ∧ s.2 ≤ t.2) : ∀ n, subS (List.replicate n s) (List.replicate n t)
  | 0 => trivial
  | n + 1 => ⟨h, subS.rep h n⟩
theorem subS.take : ∀ {S T : List (Int × Int)} (n : Nat), subS S T → subS (S.take n) (T.take n)
  | [], [], n, _ => by simp [subS]
  | _ :: S, _ :: T, 0, h => trivial
  | _ :: S, _ :: T, n + 1, h => ⟨h.1, subS.take n h.2⟩
  | [], _ :: _, _, h => absurd h (by simp [subS])
  | _ :: _, [], _, h => absurd h (by simp [subS])
theorem inSp.sub : ∀ {x : List Int} {S T : List (Int × Int)}, inSp x S → subS S T → inSp x T
  | [], [], [], _, _ => trivial
  | a :: x, s :: S, t :: T, h, h' => ⟨⟨Int.le_trans h'.1.1 h.1.1, Int.le_trans h.1.2 h'.1.2⟩, inSp.sub h.2 h'.2⟩
  | [], _ :: _, _, h, _ => absurd h (by simp [inSp])
  | _ :: _, [], _, h, _ => absurd h (by simp [inSp])
  | [], [], _ :: _, _, h => absurd h (by simp [subS])
  | _ :: _, _ :: _, [], _, h => absurd h (by simp [subS])
theorem wit_in (high : Bool) : ∀ (S : List (Int × Int)) (E : List Int), (∀ s ∈ S, s.1 ≤ s.2) → S.length = E.length → inSp (witL high S E) S
  | [], [], _, _ => trivial
  | s :: S, e :: E, h, hl => by
    refine ⟨?_, wit_in high S E (fun t ht => h t (List.mem_cons_of_mem _ ht)) (by simpa using hl)⟩
    have := h s List.mem_cons_self
    unfold witE
    split
    · exact ⟨this, Int.le_refl _⟩
    · exact ⟨Int.le_refl _, this⟩
  | [], _ :: _, _, hl => by simp at hl
  | _ :: _, [], _, hl => by simp at hl
/-- The ends of smaller sets lie between those of greater ones. -/
theorem end_sub {S T : List (Int × Int)} {E : List Int} (h : subS S T) (hv : ∀ s ∈ S, s.1 ≤ s.2) (hl : S.length = E.length) (high : Bool) : endN false T E ≤ endN high S E ∧ endN high S E ≤ endN true T E :=
  dot_wit _ T E ((wit_in high S E hv hl).sub h) (by rw [← h.len]; exact hl)
theorem kpB_sub {N D d lo hi : Int} {S T : List (Int × Int)} {t : Nat} (h : subS S T) (hv : ∀ s ∈ S, s.1 ≤ s.2) (hl : t + 2 ≤ S.length) (hk : kpB N D d T lo hi t = true) : kpB N D d S lo hi t = true := by
  have e : (S.take (t + 2)).length = (efL N D d t).length := by rw [efL_len]; simp; omega
  have a := end_sub (h.take (t + 2)) (fun s hs => hv s (List.mem_of_mem_take hs)) e false
  have b := end_sub (h.take (t + 2)) (fun s hs => hv s (List.mem_of_mem_take hs)) e true
  unfold kpB inF at hk ⊢
  simp only [Bool.and_eq_true, decide_eq_true_eq] at hk ⊢
  omega
/-- Kept behind each of k ticks. -/
theorem keN_all {N D d lo hi : Int} {S : List (Int × Int)} {k : Nat} : (keN N D d S lo hi k).2 = true ↔ ∀ t, t ≤ k → kpB N D d S lo hi t = true := by
  have sp := stF_spec (kpB N D d S lo hi) (k + 1) 0
  have bd := stF_bd (kpB N D d S lo hi) (k + 1) 0
  unfold keN
  constructor
  · intro h t ht
    split at h
    · cases h
    · exact sp.1 t (Nat.zero_le _) (by omega)
  · intro h
    split
    · rename_i hc
      have := sp.2 (by omega)
      rw [h _ hc] at this
      cases this
    · rfl
theorem keN_sub {N D d lo hi : Int} {S T : List (Int × Int)} {k : Nat} (h : subS S T) (hv : ∀ s ∈ S, s.1 ≤ s.2) (hl : S.length = k + 2) (hk : (keN N D d T lo hi k).2 = true) : (keN N D d S lo hi k).2 = true :=
  keN_all.2 fun t ht => kpB_sub h hv (by omega) (keN_all.1 hk t ht)
end Go.Proofs.Ytnnmmojlgikdgaa

/- Gust's closure. -/
namespace Go.Proofs.Ytnnmmojlgikdgaa
open Go.RowKit

theorem saB_gust {b : List (Int × Int)} {n m : Int} (h : saB b 0 0 m = true) (h0 : 0 ≤ n) (h1 : n ≤ 100) : saB b (-n) n m = true := by
  unfold saB wB at h ⊢
  simp only [Bool.and_eq_true, List.all_cons, List.all_nil, Bool.and_true, decide_eq_true_eq] at h ⊢
  exact ⟨⟨⟨h.1.1.1, ⟨by omega, by omega⟩⟩, h.1.2⟩, h.2⟩
theorem vS_gust {n : Int} (h0 : 0 ≤ n) (h1 : n ≤ 100) : vS (-n, n) = true := vS_mk (by omega) (by omega) (by omega)
/-- With gusts up to so much the limit is kept. -/
def guB (N D d : Int) (b : List (Int × Int)) (m : Nat) (lo hi n : Int) : Bool := (keN N D d (b ++ List.replicate m (-n, n)) lo hi m).2
theorem guB_mono {N D d lo hi : Int} {b : List (Int × Int)} {m : Nat} (hc : chkB b = true) (hb : b.length = 2) {i j : Int} (h0 : 0 ≤ i) (hij : i ≤ j) (hj : j ≤ 100) (h : guB N D d b m lo hi j = true) : guB N D d b m lo hi i = true :=
  keN_sub (subS.app (subS.refl b) (subS.rep ⟨by show -j ≤ -i; omega, hij⟩ m)) (sv_of hc (vS_gust h0 (by omega)) m) (by simp; omega) h

set_option maxRecDepth 100000 in
set_option maxHeartbeats 2000000 in
theorem gust1_answers (N D d lo hi : Int) (Ab : Option Addr) (nb cb m B : Nat) (b : List (Int × Int)) (w : World) (gS gB gN gL : Nat) (hb : b.length = nb) (hnb : nb ≤ maxLen) (hB : B ≤ w.heap.size) (hr : RS w B Ab b) (hs : slB N D d = true) (hc : chkB b = true) (hl : vS (lo, hi) = true) (hsa : saB b 0 0 m = true)
    (s0 : w.cell? ⟨gS, 0, none⟩ = some (.int .i64 N)) (s1 : w.cell? ⟨gS, 1, none⟩ = some (.int .i64 D)) (s2 : w.cell? ⟨gS, 2, none⟩ = some (.int .i64 d)) (b0 : w.cell? ⟨gB, 0, none⟩ = some (.slice Ab nb cb)) (n0 : w.cell? ⟨gN, 0, none⟩ = some (.int .i64 m)) (x0 : w.cell? ⟨gL, 0, none⟩ = some (.int .i64 lo)) (x1 : w.cell? ⟨gL, 1, none⟩ = some (.int .i64 hi)) :
    Answers 73 #[.pointer (some ⟨gS, 0, none⟩), .pointer (some ⟨gB, 0, none⟩), .pointer (some ⟨gN, 0, none⟩), .pointer (some ⟨gL, 0, none⟩)] 0 100 (guB N D d b m lo hi) w := by
  refine ⟨Try.call73, fun W n hW h0 h1 => ?_⟩
  have hm : m ≤ 16 := by unfold saB at hsa; simp at hsa; omega
  have hb2 : b.length = 2 := by unfold saB at hsa; simp at hsa; exact hsa.1.1.1
  have HAL := Lib.hid (fun (V : World) (hV : Below W.heap.size W V) => allow_ok N D d (-n) n m Ab none nb cb 0 0 V.heap.size b [] V hb hnb rfl (le_maxLen (by omega)) (Nat.le_refl _) ((((hr.below (hW.mono hB)).more (Nat.le_trans hB hW.size)).below hV).more hV.size) (fun h => absurd h (by simp)) hs hc (vS_gust h0 h1) rfl (saB_gust hsa h0 h1))
  simp only [Int.toNat_natCast] at HAL
  have HKE := Lib.hid (fun (A : Option Addr) (c : Nat) (V : World) (hcc : m + 2 ≤ c) (hq : RS V V.heap.size A (b ++ List.replicate m (-n, n))) => keeps_any N D d lo hi A m (m + 2) c V.heap.size (b ++ List.replicate m (-n, n)) V hs hl rfl hm (by simp; omega) hcc (sb_of (saB_gust hsa h0 h1) m) (Nat.le_refl _) hq)
  have hg : guB N D d b m lo hi n = (keN N D d (b ++ List.replicate m (-n, n)) lo hi m).2 := rfl
  obtain ⟨r9, hr9⟩ : ∃ r, keN N D d (b ++ List.replicate m (-n, n)) lo hi m = r := ⟨_, rfl⟩
  rw [hr9] at HKE hg
  obtain ⟨rt, ri⟩ := r9
  simp only at HKE hg
  have i1 : IntKind.i64.wrap (-n) = -n := IntWalk.i64_in _ (by omega)
  have q0 := cell_keep hW s0
  have q1 := cell_keep hW s1
  have q2 := cell_keep hW s2
  have q3 := cell_keep hW b0
  have q4 := cell_keep hW n0
  have q5 := cell_keep hW x0
  have q6 := cell_keep hW x1
  show Calls Try.prog 73 #[.int .i64 n, .pointer (some ⟨gS, 0, none⟩), .pointer (some ⟨gB, 0, none⟩), .pointer (some ⟨gN, 0, none⟩), .pointer (some ⟨gL, 0, none⟩)] W fun e w' => e = .returned (.bool (guB N D d b m lo hi n)) ∧ Below W.heap.size W w'
  rw [hg]
  have HX := Lib.hid (And.intro q5 q6)
  clear hg hr9 hr hb hs hc hl hsa s0 s1 s2 b0 n0 x0 x1 hW hb2
  go_enter Try.func73, Try.ntmps73
  go_upto_region 2 with (go_at_call 63; refine Calls.mono (HAL.out _ (Below.refl _ _)) ?_; rintro e w3 ⟨A, c, rfl, hcc, hq3, hb3⟩; have HB3 := Lib.hid hb3; have HQ3 := Lib.hid hq3; have HCC := Lib.hid hcc; have HX3 := Lib.hid (And.intro (cell_keep hb3 HX.out.1) (cell_keep hb3 HX.out.2)); clear hb3 hq3 hcc q0 q1 q2 q3 q4 q5 q6)
  have HB4 := Lib.hid (HB3.out.alloc HB3.out.size (.cells #[.int .i64 N, .int .i64 D, .int .i64 d, .slice A (m + 2) c] 101))
  have bq := blk_new w3 (.cells #[.int .i64 N, .int .i64 D, .int .i64 d, .slice A (m + 2) c] 101) _ rfl
  have HQ4 := Lib.hid ((HQ3.out.below ((Below.refl w3.heap.size w3).alloc (Nat.le_refl _) (.cells #[.int .i64 N, .int .i64 D, .int .i64 d, .slice A (m + 2) c] 101))).more (by simp : w3.heap.size ≤ (w3.alloc (.cells #[.int .i64 N, .int .i64 D, .int .i64 d, .slice A (m + 2) c] 101)).heap.size))
  have x0 := cell_keep ((Below.refl w3.heap.size w3).alloc (Nat.le_refl _) (.cells #[.int .i64 N, .int .i64 D, .int .i64 d, .slice A (m + 2) c] 101)) HX3.out.1
  have x1 := cell_keep ((Below.refl w3.heap.size w3).alloc (Nat.le_refl _) (.cells #[.int .i64 N, .int .i64 D, .int .i64 d, .slice A (m + 2) c] 101)) HX3.out.2
  obtain ⟨q, hq⟩ : ∃ q, w3.heap.size = q := ⟨_, rfl⟩
  rw [hq] at bq ⊢
  clear hq
  generalize World.alloc w3 _ = w4 at *
  have k0 := cellOf (o := 0) bq rfl
  have k1 := cellOf (o := 1) bq rfl
  have k2 := cellOf (o := 2) bq rfl
  have k3 := cellOf (o := 3) bq rfl
  have lq := lt_of_block bq
  have l2 := World.block_lt_of_cell? _ _ x0
  clear bq
  have HK4 := Lib.hid (HKE.out A c w4 HCC.out HQ4.out)
  go_wp2_with (go_at_call 68; refine Calls.mono HK4.out ?_; rintro e w5 ⟨rfl, hb5⟩; have HB5 := Lib.hid (HB4.out.trans (hb5.mono HB4.out.size)); clear hb5)
  go_ret
  exact ⟨rfl, HB5.out⟩
end Go.Proofs.Ytnnmmojlgikdgaa

/- Plain mathematics: the greatest gusts. -/
namespace Go.Proofs.Ytnnmmojlgikdgaa

/-- The greatest number up to k with a property, or -1. -/
def dnI (p : Int → Bool) : Nat → Int
  | 0 => if p 0 then 0 else -1
  | k + 1 => if p ((k + 1 : Nat) : Int) then ((k + 1 : Nat) : Int) else dnI p k
theorem dnI_bd (p : Int → Bool) : ∀ k, -1 ≤ dnI p k ∧ dnI p k ≤ k
  | 0 => by unfold dnI; split <;> omega
  | k + 1 => by
    have := dnI_bd p k
    unfold dnI
    split <;> omega
theorem dnI_spec (p : Int → Bool) : ∀ k : Nat, (∀ j : Int, dnI p k < j → j ≤ k → p j = false) ∧ (0 ≤ dnI p k → p (dnI p k) = true)
  | 0 => by
    unfold dnI
    split
    · rename_i h
      exact ⟨fun j a b => by omega, fun _ => h⟩
    · rename_i h
      refine ⟨fun j a b => ?_, fun h => by omega⟩
      obtain rfl : j = 0 := by omega
      simpa using h
  | k + 1 => by
    obtain ⟨a, b⟩ := dnI_spec p k
    unfold dnI
    split
    · rename_i h
      exact ⟨fun j c e => by omega, fun _ => h⟩
    · rename_i h
      refine ⟨fun j c e => ?_, b⟩
      by_cases hj : j = ((k + 1 : Nat) : Int)
      · subst hj; simpa using h
      · exact a j c (by omega)
theorem last_dn {p : Int → Bool} {k : Nat} (mono : ∀ i j, 0 ≤ i → i ≤ j → j ≤ (k : Int) → p j = true → p i = true) : lastN p 0 k = (dnI p k, decide (0 ≤ dnI p k)) := by
  obtain ⟨s1, s2, s3, s4⟩ := firB_spec (fun n => !p n) ((k : Int) + 1).toNat 0
  have d1 := dnI_bd p k
  obtain ⟨d2, d3⟩ := dnI_spec p k
  unfold lastN
  simp only [Int.sub_zero] at *
  have key : firB (fun n => !p n) 0 ((k : Int) + 1).toNat = dnI p k + 1 := by
    generalize firB (fun n => !p n) 0 ((k : Int) + 1).toNat = m at *
    by_cases h1 : m < dnI p k + 1
    · have h2 := s4 (by omega)
      have h3 := mono m (dnI p k) (by omega) (by omega) (by omega) (d3 (by omega))
      rw [h3] at h2
      cases h2
    · by_cases h2 : dnI p k + 1 < m
      · have h3 := s3 (dnI p k + 1) (by omega) h2
        rw [d2 (dnI p k + 1) (by omega) (by omega)] at h3
        cases h3
      · omega
  rw [key]
  have e : decide (0 < dnI p k + 1) = decide (0 ≤ dnI p k) := by
    rw [decide_eq_decide]; omega
  simp only [Int.add_sub_cancel, e]
end Go.Proofs.Ytnnmmojlgikdgaa

/- Gust of sling. -/
namespace Go.Proofs.Ytnnmmojlgikdgaa
open Go.RowKit

/-- The boxes of Gust. -/
structure GW (N D d lo hi nn : Int) (Ab : Option Addr) (nb cb : Nat) (w W : World) : Prop where
  s : W.heap[w.heap.size]? = some (.cells #[.int .i64 N, .int .i64 D, .int .i64 d] 23 (0, 0))
  b : W.heap[w.heap.size + 1]? = some (.cells #[.slice Ab nb cb] 41 (0, 0))
  n : W.heap[w.heap.size + 1 + 1]? = some (.cells #[.int .i64 nn] 3 (0, 0))
  l : W.heap[w.heap.size + 1 + 1 + 1]? = some (.cells #[.int .i64 lo, .int .i64 hi] 27 (0, 0))
  w0 : Below w.heap.size w W
section
variable {N D d lo hi nn : Int} {Ab : Option Addr} {nb cb : Nat} {w W W' : World}
theorem GW.next (h : GW N D d lo hi nn Ab nb cb w W) (hb : Below W.heap.size W W') : GW N D d lo hi nn Ab nb cb w W' :=
  ⟨(hb.block _ (lt_of_block h.s)).trans h.s, (hb.block _ (lt_of_block h.b)).trans h.b, (hb.block _ (lt_of_block h.n)).trans h.n, (hb.block _ (lt_of_block h.l)).trans h.l, h.w0.trans (hb.mono h.w0.size)⟩
theorem GW.alloc (h : GW N D d lo hi nn Ab nb cb w W) (o : Obj) : GW N D d lo hi nn Ab nb cb w (W.alloc o) := h.next ((Below.refl _ _).alloc (Nat.le_refl _) _)
theorem GW.start : GW N D d lo hi nn Ab nb cb w ((((w.alloc (.cells #[.int .i64 N, .int .i64 D, .int .i64 d] 23)).alloc (.cells #[.slice Ab nb cb] 41)).alloc (.cells #[.int .i64 nn] 3)).alloc (.cells #[.int .i64 lo, .int .i64 hi] 27)) :=
  ⟨blk_old _ (blk_old _ (blk_old _ (blk_new _ _ _ rfl))), blk_old _ (blk_old _ (blk_new _ _ _ (by simp))), blk_old _ (blk_new _ _ _ (by simp)), blk_new _ _ _ (by simp), by go_grown⟩
end
def guN (N D d : Int) (b : List (Int × Int)) (nn lo hi : Int) : Int × Int :=
  if alE N D d b 0 0 nn [(lo, hi)] = 0 then (if 0 ≤ dnI (guB N D d b nn.toNat lo hi) 100 then (dnI (guB N D d b nn.toNat lo hi) 100, 0) else (0, 3)) else (0, alE N D d b 0 0 nn [(lo, hi)])

set_option maxRecDepth 100000 in
set_option maxHeartbeats 2000000 in
theorem gustT_any (N D d nn lo hi : Int) (Ab : Option Addr) (nb cb B : Nat) (b : List (Int × Int)) (w : World) (hb : b.length = nb) (hnb : nb ≤ maxLen) (hB : B ≤ w.heap.size) (hr : RS w B Ab b) :
    Calls Try.prog 30 #[.agg #[.int .i64 N, .int .i64 D, .int .i64 d], .slice Ab nb cb, .int .i64 nn, .agg #[.int .i64 lo, .int .i64 hi]] w fun e w' => e = .returned (.tuple #[.int .i64 (guN N D d b nn lo hi).1, .int .i64 (guN N D d b nn lo hi).2]) ∧ Below w.heap.size w w' := by
  have HA0 := Lib.hid (GW.start (N := N) (D := D) (d := d) (lo := lo) (hi := hi) (nn := nn) (Ab := Ab) (nb := nb) (cb := cb) (w := w))
  unfold guN
  by_cases h0 : alE N D d b 0 0 nn [(lo, hi)] = 0
  · rw [if_pos h0]
    obtain ⟨hs, hc, hv, hll, hsa⟩ := alE_zero h0
    have hnn : 0 ≤ nn ∧ nn ≤ 16 := by unfold saB at hsa; simp at hsa; exact hsa.1.2
    have hb2 : b.length = 2 := by unfold saB at hsa; simp at hsa; exact hsa.1.1.1
    have HAL := Lib.hid (fun (W : World) (hW : Below w.heap.size w W) (g : Nat) (hg : g < W.heap.size) (hq : RS W W.heap.size (some ⟨g, 0, none⟩) [(lo, hi)]) => allow_ok N D d 0 0 nn Ab (some ⟨g, 0, none⟩) nb cb 1 1 W.heap.size b [(lo, hi)] W hb hnb rfl (le_maxLen (by omega)) (Nat.le_refl _) (((hr.below (hW.mono hB)).more (Nat.le_trans hB hW.size))) hq hs hc hv hll hsa)
    obtain ⟨m, rfl⟩ : ∃ m : Nat, nn = (m : Int) := ⟨nn.toNat, by omega⟩
    rw [Int.toNat_natCast]
    simp only [Int.toNat_natCast] at HAL
    have HLA := Lib.hid (fun (W : World) (hW : GW N D d lo hi (m : Int) Ab nb cb w W) =>
      last_any 73 #[.pointer (some ⟨w.heap.size, 0, none⟩), .pointer (some ⟨w.heap.size + 1, 0, none⟩), .pointer (some ⟨w.heap.size + 1 + 1, 0, none⟩), .pointer (some ⟨w.heap.size + 1 + 1 + 1, 0, none⟩)] 0 100 (guB N D d b m lo hi) W (by omega) (by omega) (by omega) (fun i j a b c d => guB_mono hc hb2 a b c d) (gust1_answers N D d lo hi Ab nb cb m w.heap.size b W _ _ _ _ hb hnb hW.w0.size ((hr.more hB).below hW.w0) hs hc (by simpa using hll) hsa (cellOf (o := 0) hW.s rfl) (cellOf (o := 1) hW.s rfl) (cellOf (o := 2) hW.s rfl) (cellOf (o := 0) hW.b rfl) (cellOf (o := 0) hW.n rfl) (cellOf (o := 0) hW.l rfl) (cellOf (o := 1) hW.l rfl)))
    have hdn := last_dn (p := guB N D d b m lo hi) (k := 100) (fun i j a b c d => guB_mono hc hb2 a b c d)
    rw [show ((100 : Nat) : Int) = 100 from rfl] at hdn
    rw [hdn] at HLA
    generalize dnI (guB N D d b m lo hi) 100 = r at *
    clear hdn h0 hs hc hv hll hsa hnn hb2 hr hb
    by_cases hr0 : 0 ≤ r
    · rw [if_pos hr0]
      rw [decide_eq_true hr0] at HLA
      clear hr0
      go_enter Try.func30, Try.ntmps30
      go_upto_region 1 with (fail)
      generalize World.alloc _ _ = w1 at *
      have s0 := cellOf (o := 0) HA0.out.s rfl
      have s1 := cellOf (o := 1) HA0.out.s rfl
      have s2 := cellOf (o := 2) HA0.out.s rfl
      have b0 := cellOf (o := 0) HA0.out.b rfl
      have n0 := cellOf (o := 0) HA0.out.n rfl
      have x0 := cellOf (o := 0) HA0.out.l rfl
      have x1 := cellOf (o := 1) HA0.out.l rfl
      have l0 := lt_of_block HA0.out.s
      have l1 := lt_of_block HA0.out.b
      have l2 := lt_of_block HA0.out.n
      have l3 := lt_of_block HA0.out.l
      have HA1 := Lib.hid (HA0.out.alloc (.cells #[.int .i64 lo, .int .i64 hi] 27))
      have HLR := Lib.hid (show RS (w1.alloc (.cells #[.int .i64 lo, .int .i64 hi] 27)) (w1.alloc (.cells #[.int .i64 lo, .int .i64 hi] 27)).heap.size (some ⟨w1.heap.size, 0, none⟩) [(lo, hi)] from (RS.new1 rfl).more (by simp))
      have HLS := Lib.hid (show w1.heap.size < (w1.alloc (.cells #[.int .i64 lo, .int .i64 hi] 27)).heap.size by simp)
      go_upto_region 4 with (go_at_call 63; refine Calls.mono (HAL.out _ HA1.out.w0 w1.heap.size HLS.out HLR.out) ?_; rintro e w3 ⟨A, c, rfl, hcc, hq3, hb3⟩; have HA3 := Lib.hid ((HA1.out.next hb3).alloc (.cells #[.int .i64 N, .int .i64 D, .int .i64 d, .slice A (m + 2) c] 101)); clear hb3 hq3 hcc s0 s1 s2 b0 n0 x0 x1 l0 l1 l2 l3)
      generalize World.alloc w3 _ = w4 at *
      go_wp2_with (go_at_call 72; refine Calls.mono (HLA.out _ HA3.out) ?_; rintro e w5 ⟨rfl, hb5⟩; have HB5 := Lib.hid (HA3.out.w0.trans (hb5.mono HA3.out.w0.size)); clear hb5)
      go_ret2
      exact ⟨rfl, HB5.out⟩
    · rw [if_neg hr0]
      rw [decide_eq_false hr0] at HLA
      clear hr0
      go_enter Try.func30, Try.ntmps30
      go_upto_region 1 with (fail)
      generalize World.alloc _ _ = w1 at *
      have s0 := cellOf (o := 0) HA0.out.s rfl
      have s1 := cellOf (o := 1) HA0.out.s rfl
      have s2 := cellOf (o := 2) HA0.out.s rfl
      have b0 := cellOf (o := 0) HA0.out.b rfl
      have n0 := cellOf (o := 0) HA0.out.n rfl
      have x0 := cellOf (o := 0) HA0.out.l rfl
      have x1 := cellOf (o := 1) HA0.out.l rfl
      have l0 := lt_of_block HA0.out.s
      have l1 := lt_of_block HA0.out.b
      have l2 := lt_of_block HA0.out.n
      have l3 := lt_of_block HA0.out.l
      have HA1 := Lib.hid (HA0.out.alloc (.cells #[.int .i64 lo, .int .i64 hi] 27))
      have HLR := Lib.hid (show RS (w1.alloc (.cells #[.int .i64 lo, .int .i64 hi] 27)) (w1.alloc (.cells #[.int .i64 lo, .int .i64 hi] 27)).heap.size (some ⟨w1.heap.size, 0, none⟩) [(lo, hi)] from (RS.new1 rfl).more (by simp))
      have HLS := Lib.hid (show w1.heap.size < (w1.alloc (.cells #[.int .i64 lo, .int .i64 hi] 27)).heap.size by simp)
      go_upto_region 4 with (go_at_call 63; refine Calls.mono (HAL.out _ HA1.out.w0 w1.heap.size HLS.out HLR.out) ?_; rintro e w3 ⟨A, c, rfl, hcc, hq3, hb3⟩; have HA3 := Lib.hid ((HA1.out.next hb3).alloc (.cells #[.int .i64 N, .int .i64 D, .int .i64 d, .slice A (m + 2) c] 101)); clear hb3 hq3 hcc s0 s1 s2 b0 n0 x0 x1 l0 l1 l2 l3)
      generalize World.alloc w3 _ = w4 at *
      go_wp2_with (go_at_call 72; refine Calls.mono (HLA.out _ HA3.out) ?_; rintro e w5 ⟨rfl, hb5⟩; have HB5 := Lib.hid (HA3.out.w0.trans (hb5.mono HA3.out.w0.size)); clear hb5)
      go_ret2
      exact ⟨rfl, HB5.out⟩
  · rw [if_neg h0]
    have HAL := Lib.hid (fun (W : World) (hW : Below w.heap.size w W) (g : Nat) (hg : g < W.heap.size) (hq : RS W W.heap.size (some ⟨g, 0, none⟩) [(lo, hi)]) => allow_no N D d 0 0 nn Ab (some ⟨g, 0, none⟩) nb cb 1 1 W.heap.size b [(lo, hi)] W hb hnb rfl (le_maxLen (by omega)) (Nat.le_refl _) (((hr.below (hW.mono hB)).more (Nat.le_trans hB hW.size))) hq _ rfl h0)
    have h0' : (alE N D d b 0 0 nn [(lo, hi)] != 0) = true := by rw [bne_iff_ne]; exact h0
    generalize alE N D d b 0 0 nn [(lo, hi)] = E at *
    clear h0 hr hb
    go_enter Try.func30, Try.ntmps30
    go_upto_region 1 with (fail)
    generalize World.alloc _ _ = w1 at *
    have s0 := cellOf (o := 0) HA0.out.s rfl
    have s1 := cellOf (o := 1) HA0.out.s rfl
    have s2 := cellOf (o := 2) HA0.out.s rfl
    have b0 := cellOf (o := 0) HA0.out.b rfl
    have n0 := cellOf (o := 0) HA0.out.n rfl
    have x0 := cellOf (o := 0) HA0.out.l rfl
    have x1 := cellOf (o := 1) HA0.out.l rfl
    have l0 := lt_of_block HA0.out.s
    have l1 := lt_of_block HA0.out.b
    have l2 := lt_of_block HA0.out.n
    have l3 := lt_of_block HA0.out.l
    have HA1 := Lib.hid (HA0.out.alloc (.cells #[.int .i64 lo, .int .i64 hi] 27))
    have HLR := Lib.hid (show RS (w1.alloc (.cells #[.int .i64 lo, .int .i64 hi] 27)) (w1.alloc (.cells #[.int .i64 lo, .int .i64 hi] 27)).heap.size (some ⟨w1.heap.size, 0, none⟩) [(lo, hi)] from (RS.new1 rfl).more (by simp))
    have HLS := Lib.hid (show w1.heap.size < (w1.alloc (.cells #[.int .i64 lo, .int .i64 hi] 27)).heap.size by simp)
    go_wp2_with (go_at_call 63; refine Calls.mono (HAL.out _ HA1.out.w0 w1.heap.size HLS.out HLR.out) ?_; rintro e w3 ⟨rfl, hb3⟩; have HA3 := Lib.hid ((HA1.out.next hb3).alloc (.cells #[.int .i64 0, .int .i64 0, .int .i64 0, .slice none 0 0] 101)); clear hb3)
    go_ret2
    exact ⟨rfl, HA3.out.w0⟩
end Go.Proofs.Ytnnmmojlgikdgaa

/- Keeps of the reference. -/
namespace Go.Proofs.Ytnnmmojlgikdgaa
open Go.RowKit

theorem rnum_any (gl gh nn : Int) (Ab : Option Addr) (nb cb B : Nat) (b : List (Int × Int)) (w : World) (hc : chkB b = true) (hv : vS (gl, gh) = true) (hb : b.length = nb) (hB : B ≤ w.heap.size) (hr : RS w B Ab b) :
    Calls Try.prog 70 #[.slice Ab nb cb, .agg #[.int .i64 gl, .int .i64 gh], .int .i64 nn] w fun e w' => e = .returned (.int .i64 (if saB b gl gh nn then 0 else 1)) ∧ Below w.heap.size w w' := by
  by_cases h2 : b.length = 2
  · obtain ⟨⟨a1, a2⟩, ⟨c1, c2⟩, rfl⟩ := list_two h2
    rw [saB_nu hc hv]
    obtain rfl : nb = 2 := by rw [← hb]; rfl
    exact checkNumbers_two a1 a2 c1 c2 gl gh nn Ab cb B w hB hr
  · rw [saB_len h2]
    exact checkNumbers_no gl gh nn Ab nb cb w (by omega)

set_option maxRecDepth 100000 in
set_option maxHeartbeats 2000000 in
theorem rkeepsT_any (N D d gl gh nn lo hi : Int) (Ab : Option Addr) (nb cb B : Nat) (b : List (Int × Int)) (w : World) (hb : b.length = nb) (hnb : nb ≤ maxLen) (hB : B ≤ w.heap.size) (hr : RS w B Ab b) :
    Calls Try.prog 29 #[.agg #[.int .i64 N, .int .i64 D, .int .i64 d], .slice Ab nb cb, .agg #[.int .i64 gl, .int .i64 gh], .int .i64 nn, .agg #[.int .i64 lo, .int .i64 hi]] w fun e w' => e = .returned (.tuple #[.int .i64 (kpN N D d b gl gh nn lo hi).1.1, .bool (kpN N D d b gl gh nn lo hi).1.2, .int .i64 (kpN N D d b gl gh nn lo hi).2]) ∧ Below w.heap.size w w' := by
  have HA0 := Lib.hid ((AV.start (N := N) (D := D) (d := d) (gl := gl) (gh := gh) (w := w)).alloc (.cells #[.int .i64 lo, .int .i64 hi] 27))
  have HL0 := Lib.hid (blk_new ((w.alloc (.cells #[.int .i64 N, .int .i64 D, .int .i64 d] 23)).alloc (.cells #[.int .i64 gl, .int .i64 gh] 27)) (.cells #[.int .i64 lo, .int .i64 hi] 27) (w.heap.size + 1 + 1) (by simp))
  have HC := Lib.hid (fun W => rslcheck_any N D d W)
  have HCB := Lib.hid (fun (W : World) (hW : Below w.heap.size w W) => rcheck_any Ab nb cb w.heap.size b W hb hnb hW.size ((hr.more hB).below hW))
  have HV := Lib.hid (fun W => rvalid_any gl gh W)
  rw [← vS_vI gl gh] at HV
  have HW := Lib.hid (fun W => rvalid_any lo hi W)
  rw [← vS_vI lo hi] at HW
  have no : ∀ E, alE N D d b gl gh nn [(lo, hi)] = E → E ≠ 0 → kpN N D d b gl gh nn lo hi = ((0, false), E) := fun E h h0 => by unfold kpN; rw [h, if_neg h0]
  cases hs : slB N D d with
  | false =>
    rw [no 70 (by unfold alE; rw [hs]; rfl) (by decide)]
    rw [slE_no hs] at HC
    clear hs hr hb no
    go_enter Try.func29, Try.ntmps29
    go_upto_region 1 with (fail)
    generalize World.alloc _ _ = w1 at *
    have s0 := cellOf (o := 0) HA0.out.s rfl
    have s1 := cellOf (o := 1) HA0.out.s rfl
    have s2 := cellOf (o := 2) HA0.out.s rfl
    have g0 := cellOf (o := 0) HA0.out.g rfl
    have g1 := cellOf (o := 1) HA0.out.g rfl
    have x0 := cellOf (o := 0) HL0.out rfl
    have x1 := cellOf (o := 1) HL0.out rfl
    have l0 := lt_of_block HA0.out.s
    have l1 := lt_of_block HA0.out.g
    have l2 := lt_of_block HL0.out
    go_wp2_with (first
      | (go_at_call 16; refine Calls.mono (HC.out _) ?_; rintro e w2 ⟨rfl, hb2⟩; have HA2 := Lib.hid (HA0.out.next hb2); have HL2 := Lib.hid ((hb2.block _ (lt_of_block HL0.out)).trans HL0.out); clear hb2 s0 s1 s2 g0 g1 x0 x1 l0 l1 l2; have s0 := cellOf (o := 0) HA2.out.s rfl; have s1 := cellOf (o := 1) HA2.out.s rfl; have s2 := cellOf (o := 2) HA2.out.s rfl; have g0 := cellOf (o := 0) HA2.out.g rfl; have g1 := cellOf (o := 1) HA2.out.g rfl; have x0 := cellOf (o := 0) HL2.out rfl; have x1 := cellOf (o := 1) HL2.out rfl; have l0 := lt_of_block HA2.out.s; have l1 := lt_of_block HA2.out.g; have l2 := lt_of_block HL2.out))
    go_ret3
    exact ⟨by first | rfl | (simp; done), HA2.out.b⟩
  | true =>
    rw [slE_yes hs] at HC
    cases hc : chkB b with
    | false =>
      rw [no 10 (by unfold alE; rw [hs, hc]; rfl) (by decide)]
      rw [chkE_no hc] at HCB
      clear hs hc hr hb no
      go_enter Try.func29, Try.ntmps29
      go_upto_region 1 with (fail)
      generalize World.alloc _ _ = w1 at *
      have s0 := cellOf (o := 0) HA0.out.s rfl
      have s1 := cellOf (o := 1) HA0.out.s rfl
      have s2 := cellOf (o := 2) HA0.out.s rfl
      have g0 := cellOf (o := 0) HA0.out.g rfl
      have g1 := cellOf (o := 1) HA0.out.g rfl
      have x0 := cellOf (o := 0) HL0.out rfl
      have x1 := cellOf (o := 1) HL0.out rfl
      have l0 := lt_of_block HA0.out.s
      have l1 := lt_of_block HA0.out.g
      have l2 := lt_of_block HL0.out
      go_wp2_with (first
        | (go_at_call 16; refine Calls.mono (HC.out _) ?_; rintro e w2 ⟨rfl, hb2⟩; have HA2 := Lib.hid (HA0.out.next hb2); have HL2 := Lib.hid ((hb2.block _ (lt_of_block HL0.out)).trans HL0.out); clear hb2 s0 s1 s2 g0 g1 x0 x1 l0 l1 l2; have s0 := cellOf (o := 0) HA2.out.s rfl; have s1 := cellOf (o := 1) HA2.out.s rfl; have s2 := cellOf (o := 2) HA2.out.s rfl; have g0 := cellOf (o := 0) HA2.out.g rfl; have g1 := cellOf (o := 1) HA2.out.g rfl; have x0 := cellOf (o := 0) HL2.out rfl; have x1 := cellOf (o := 1) HL2.out rfl; have l0 := lt_of_block HA2.out.s; have l1 := lt_of_block HA2.out.g; have l2 := lt_of_block HL2.out)
        | (go_at_call 69; refine Calls.mono (HCB.out _ HA2.out.b) ?_; rintro e w3 ⟨rfl, hb3⟩; have HA3 := Lib.hid (HA2.out.next hb3); have HL3 := Lib.hid ((hb3.block _ (lt_of_block HL2.out)).trans HL2.out); clear hb3 s0 s1 s2 g0 g1 x0 x1 l0 l1 l2; have s0 := cellOf (o := 0) HA3.out.s rfl; have s1 := cellOf (o := 1) HA3.out.s rfl; have s2 := cellOf (o := 2) HA3.out.s rfl; have g0 := cellOf (o := 0) HA3.out.g rfl; have g1 := cellOf (o := 1) HA3.out.g rfl; have x0 := cellOf (o := 0) HL3.out rfl; have x1 := cellOf (o := 1) HL3.out rfl; have l0 := lt_of_block HA3.out.s; have l1 := lt_of_block HA3.out.g; have l2 := lt_of_block HL3.out))
      go_ret3
      exact ⟨by first | rfl | (simp; done), HA3.out.b⟩
    | true =>
      rw [chkE_yes hc] at HCB
      cases hv : vS (gl, gh) with
      | false =>
        rw [no 10 (by unfold alE; rw [hs, hc, hv]; rfl) (by decide)]
        rw [hv] at HV
        clear hs hc hv hr hb no
        go_enter Try.func29, Try.ntmps29
        go_upto_region 1 with (fail)
        generalize World.alloc _ _ = w1 at *
        have s0 := cellOf (o := 0) HA0.out.s rfl
        have s1 := cellOf (o := 1) HA0.out.s rfl
        have s2 := cellOf (o := 2) HA0.out.s rfl
        have g0 := cellOf (o := 0) HA0.out.g rfl
        have g1 := cellOf (o := 1) HA0.out.g rfl
        have x0 := cellOf (o := 0) HL0.out rfl
        have x1 := cellOf (o := 1) HL0.out rfl
        have l0 := lt_of_block HA0.out.s
        have l1 := lt_of_block HA0.out.g
        have l2 := lt_of_block HL0.out
        go_wp2_with (first
          | (go_at_call 16; refine Calls.mono (HC.out _) ?_; rintro e w2 ⟨rfl, hb2⟩; have HA2 := Lib.hid (HA0.out.next hb2); have HL2 := Lib.hid ((hb2.block _ (lt_of_block HL0.out)).trans HL0.out); clear hb2 s0 s1 s2 g0 g1 x0 x1 l0 l1 l2; have s0 := cellOf (o := 0) HA2.out.s rfl; have s1 := cellOf (o := 1) HA2.out.s rfl; have s2 := cellOf (o := 2) HA2.out.s rfl; have g0 := cellOf (o := 0) HA2.out.g rfl; have g1 := cellOf (o := 1) HA2.out.g rfl; have x0 := cellOf (o := 0) HL2.out rfl; have x1 := cellOf (o := 1) HL2.out rfl; have l0 := lt_of_block HA2.out.s; have l1 := lt_of_block HA2.out.g; have l2 := lt_of_block HL2.out)
          | (go_at_call 69; refine Calls.mono (HCB.out _ HA2.out.b) ?_; rintro e w3 ⟨rfl, hb3⟩; have HA3 := Lib.hid (HA2.out.next hb3); have HL3 := Lib.hid ((hb3.block _ (lt_of_block HL2.out)).trans HL2.out); clear hb3 s0 s1 s2 g0 g1 x0 x1 l0 l1 l2; have s0 := cellOf (o := 0) HA3.out.s rfl; have s1 := cellOf (o := 1) HA3.out.s rfl; have s2 := cellOf (o := 2) HA3.out.s rfl; have g0 := cellOf (o := 0) HA3.out.g rfl; have g1 := cellOf (o := 1) HA3.out.g rfl; have x0 := cellOf (o := 0) HL3.out rfl; have x1 := cellOf (o := 1) HL3.out rfl; have l0 := lt_of_block HA3.out.s; have l1 := lt_of_block HA3.out.g; have l2 := lt_of_block HL3.out)
          | (go_at_call_of 61 (Value.agg #[.int .i64 gl, .int .i64 gh]); refine Calls.mono (HV.out _) ?_; rintro e w4 ⟨rfl, hb4⟩; have HA4 := Lib.hid (HA3.out.next hb4); have HL4 := Lib.hid ((hb4.block _ (lt_of_block HL3.out)).trans HL3.out); clear hb4 s0 s1 s2 g0 g1 x0 x1 l0 l1 l2; have s0 := cellOf (o := 0) HA4.out.s rfl; have s1 := cellOf (o := 1) HA4.out.s rfl; have s2 := cellOf (o := 2) HA4.out.s rfl; have g0 := cellOf (o := 0) HA4.out.g rfl; have g1 := cellOf (o := 1) HA4.out.g rfl; have x0 := cellOf (o := 0) HL4.out rfl; have x1 := cellOf (o := 1) HL4.out rfl; have l0 := lt_of_block HA4.out.s; have l1 := lt_of_block HA4.out.g; have l2 := lt_of_block HL4.out))
        go_ret3
        exact ⟨by first | rfl | (simp; done), HA4.out.b⟩
      | true =>
        rw [hv] at HV
        cases hl : vS (lo, hi) with
        | false =>
          rw [no 10 (by unfold alE; rw [hs, hc, hv]; simp [hl]) (by decide)]
          rw [hl] at HW
          clear hs hc hv hl hr hb no
          go_enter Try.func29, Try.ntmps29
          go_upto_region 1 with (fail)
          generalize World.alloc _ _ = w1 at *
          have s0 := cellOf (o := 0) HA0.out.s rfl
          have s1 := cellOf (o := 1) HA0.out.s rfl
          have s2 := cellOf (o := 2) HA0.out.s rfl
          have g0 := cellOf (o := 0) HA0.out.g rfl
          have g1 := cellOf (o := 1) HA0.out.g rfl
          have x0 := cellOf (o := 0) HL0.out rfl
          have x1 := cellOf (o := 1) HL0.out rfl
          have l0 := lt_of_block HA0.out.s
          have l1 := lt_of_block HA0.out.g
          have l2 := lt_of_block HL0.out
          go_wp2_with (first
            | (go_at_call 16; refine Calls.mono (HC.out _) ?_; rintro e w2 ⟨rfl, hb2⟩; have HA2 := Lib.hid (HA0.out.next hb2); have HL2 := Lib.hid ((hb2.block _ (lt_of_block HL0.out)).trans HL0.out); clear hb2 s0 s1 s2 g0 g1 x0 x1 l0 l1 l2; have s0 := cellOf (o := 0) HA2.out.s rfl; have s1 := cellOf (o := 1) HA2.out.s rfl; have s2 := cellOf (o := 2) HA2.out.s rfl; have g0 := cellOf (o := 0) HA2.out.g rfl; have g1 := cellOf (o := 1) HA2.out.g rfl; have x0 := cellOf (o := 0) HL2.out rfl; have x1 := cellOf (o := 1) HL2.out rfl; have l0 := lt_of_block HA2.out.s; have l1 := lt_of_block HA2.out.g; have l2 := lt_of_block HL2.out)
            | (go_at_call 69; refine Calls.mono (HCB.out _ HA2.out.b) ?_; rintro e w3 ⟨rfl, hb3⟩; have HA3 := Lib.hid (HA2.out.next hb3); have HL3 := Lib.hid ((hb3.block _ (lt_of_block HL2.out)).trans HL2.out); clear hb3 s0 s1 s2 g0 g1 x0 x1 l0 l1 l2; have s0 := cellOf (o := 0) HA3.out.s rfl; have s1 := cellOf (o := 1) HA3.out.s rfl; have s2 := cellOf (o := 2) HA3.out.s rfl; have g0 := cellOf (o := 0) HA3.out.g rfl; have g1 := cellOf (o := 1) HA3.out.g rfl; have x0 := cellOf (o := 0) HL3.out rfl; have x1 := cellOf (o := 1) HL3.out rfl; have l0 := lt_of_block HA3.out.s; have l1 := lt_of_block HA3.out.g; have l2 := lt_of_block HL3.out)
            | (go_at_call_of 61 (Value.agg #[.int .i64 gl, .int .i64 gh]); refine Calls.mono (HV.out _) ?_; rintro e w4 ⟨rfl, hb4⟩; have HA4 := Lib.hid (HA3.out.next hb4); have HL4 := Lib.hid ((hb4.block _ (lt_of_block HL3.out)).trans HL3.out); clear hb4 s0 s1 s2 g0 g1 x0 x1 l0 l1 l2; have s0 := cellOf (o := 0) HA4.out.s rfl; have s1 := cellOf (o := 1) HA4.out.s rfl; have s2 := cellOf (o := 2) HA4.out.s rfl; have g0 := cellOf (o := 0) HA4.out.g rfl; have g1 := cellOf (o := 1) HA4.out.g rfl; have x0 := cellOf (o := 0) HL4.out rfl; have x1 := cellOf (o := 1) HL4.out rfl; have l0 := lt_of_block HA4.out.s; have l1 := lt_of_block HA4.out.g; have l2 := lt_of_block HL4.out)
            | (go_at_call_of 61 (Value.agg #[.int .i64 lo, .int .i64 hi]); refine Calls.mono (HW.out _) ?_; rintro e w5 ⟨rfl, hb5⟩; have HA5 := Lib.hid (HA4.out.next hb5); have HL5 := Lib.hid ((hb5.block _ (lt_of_block HL4.out)).trans HL4.out); clear hb5 s0 s1 s2 g0 g1 x0 x1 l0 l1 l2; have s0 := cellOf (o := 0) HA5.out.s rfl; have s1 := cellOf (o := 1) HA5.out.s rfl; have s2 := cellOf (o := 2) HA5.out.s rfl; have g0 := cellOf (o := 0) HA5.out.g rfl; have g1 := cellOf (o := 1) HA5.out.g rfl; have x0 := cellOf (o := 0) HL5.out rfl; have x1 := cellOf (o := 1) HL5.out rfl; have l0 := lt_of_block HA5.out.s; have l1 := lt_of_block HA5.out.g; have l2 := lt_of_block HL5.out))
          go_ret3
          exact ⟨by first | rfl | (simp; done), HA5.out.b⟩
        | true =>
          rw [hl] at HW
          have HN := Lib.hid (fun (W : World) (hW : Below w.heap.size w W) => rnum_any gl gh nn Ab nb cb w.heap.size b W hc hv hb hW.size ((hr.more hB).below hW))
          cases hsa : saB b gl gh nn with
          | false =>
            rw [no 1 (by unfold alE; rw [hs, hc, hv]; simp [hl, hsa]) (by decide)]
            rw [hsa] at HN
            clear hs hc hv hl hsa hr hb no
            go_enter Try.func29, Try.ntmps29
            go_upto_region 1 with (fail)
            generalize World.alloc _ _ = w1 at *
            have s0 := cellOf (o := 0) HA0.out.s rfl
            have s1 := cellOf (o := 1) HA0.out.s rfl
            have s2 := cellOf (o := 2) HA0.out.s rfl
            have g0 := cellOf (o := 0) HA0.out.g rfl
            have g1 := cellOf (o := 1) HA0.out.g rfl
            have x0 := cellOf (o := 0) HL0.out rfl
            have x1 := cellOf (o := 1) HL0.out rfl
            have l0 := lt_of_block HA0.out.s
            have l1 := lt_of_block HA0.out.g
            have l2 := lt_of_block HL0.out
            go_wp2_with (first
              | (go_at_call 16; refine Calls.mono (HC.out _) ?_; rintro e w2 ⟨rfl, hb2⟩; have HA2 := Lib.hid (HA0.out.next hb2); have HL2 := Lib.hid ((hb2.block _ (lt_of_block HL0.out)).trans HL0.out); clear hb2 s0 s1 s2 g0 g1 x0 x1 l0 l1 l2; have s0 := cellOf (o := 0) HA2.out.s rfl; have s1 := cellOf (o := 1) HA2.out.s rfl; have s2 := cellOf (o := 2) HA2.out.s rfl; have g0 := cellOf (o := 0) HA2.out.g rfl; have g1 := cellOf (o := 1) HA2.out.g rfl; have x0 := cellOf (o := 0) HL2.out rfl; have x1 := cellOf (o := 1) HL2.out rfl; have l0 := lt_of_block HA2.out.s; have l1 := lt_of_block HA2.out.g; have l2 := lt_of_block HL2.out)
              | (go_at_call 69; refine Calls.mono (HCB.out _ HA2.out.b) ?_; rintro e w3 ⟨rfl, hb3⟩; have HA3 := Lib.hid (HA2.out.next hb3); have HL3 := Lib.hid ((hb3.block _ (lt_of_block HL2.out)).trans HL2.out); clear hb3 s0 s1 s2 g0 g1 x0 x1 l0 l1 l2; have s0 := cellOf (o := 0) HA3.out.s rfl; have s1 := cellOf (o := 1) HA3.out.s rfl; have s2 := cellOf (o := 2) HA3.out.s rfl; have g0 := cellOf (o := 0) HA3.out.g rfl; have g1 := cellOf (o := 1) HA3.out.g rfl; have x0 := cellOf (o := 0) HL3.out rfl; have x1 := cellOf (o := 1) HL3.out rfl; have l0 := lt_of_block HA3.out.s; have l1 := lt_of_block HA3.out.g; have l2 := lt_of_block HL3.out)
              | (go_at_call_of 61 (Value.agg #[.int .i64 gl, .int .i64 gh]); refine Calls.mono (HV.out _) ?_; rintro e w4 ⟨rfl, hb4⟩; have HA4 := Lib.hid (HA3.out.next hb4); have HL4 := Lib.hid ((hb4.block _ (lt_of_block HL3.out)).trans HL3.out); clear hb4 s0 s1 s2 g0 g1 x0 x1 l0 l1 l2; have s0 := cellOf (o := 0) HA4.out.s rfl; have s1 := cellOf (o := 1) HA4.out.s rfl; have s2 := cellOf (o := 2) HA4.out.s rfl; have g0 := cellOf (o := 0) HA4.out.g rfl; have g1 := cellOf (o := 1) HA4.out.g rfl; have x0 := cellOf (o := 0) HL4.out rfl; have x1 := cellOf (o := 1) HL4.out rfl; have l0 := lt_of_block HA4.out.s; have l1 := lt_of_block HA4.out.g; have l2 := lt_of_block HL4.out)
              | (go_at_call_of 61 (Value.agg #[.int .i64 lo, .int .i64 hi]); refine Calls.mono (HW.out _) ?_; rintro e w5 ⟨rfl, hb5⟩; have HA5 := Lib.hid (HA4.out.next hb5); have HL5 := Lib.hid ((hb5.block _ (lt_of_block HL4.out)).trans HL4.out); clear hb5 s0 s1 s2 g0 g1 x0 x1 l0 l1 l2; have s0 := cellOf (o := 0) HA5.out.s rfl; have s1 := cellOf (o := 1) HA5.out.s rfl; have s2 := cellOf (o := 2) HA5.out.s rfl; have g0 := cellOf (o := 0) HA5.out.g rfl; have g1 := cellOf (o := 1) HA5.out.g rfl; have x0 := cellOf (o := 0) HL5.out rfl; have x1 := cellOf (o := 1) HL5.out rfl; have l0 := lt_of_block HA5.out.s; have l1 := lt_of_block HA5.out.g; have l2 := lt_of_block HL5.out)
              | (go_at_call 70; refine Calls.mono (HN.out _ HA5.out.b) ?_; rintro e w6 ⟨rfl, hb6⟩; have HA6 := Lib.hid (HA5.out.next hb6); have HL6 := Lib.hid ((hb6.block _ (lt_of_block HL5.out)).trans HL5.out); clear hb6 s0 s1 s2 g0 g1 x0 x1 l0 l1 l2; have s0 := cellOf (o := 0) HA6.out.s rfl; have s1 := cellOf (o := 1) HA6.out.s rfl; have s2 := cellOf (o := 2) HA6.out.s rfl; have g0 := cellOf (o := 0) HA6.out.g rfl; have g1 := cellOf (o := 1) HA6.out.g rfl; have x0 := cellOf (o := 0) HL6.out rfl; have x1 := cellOf (o := 1) HL6.out rfl; have l0 := lt_of_block HA6.out.s; have l1 := lt_of_block HA6.out.g; have l2 := lt_of_block HL6.out))
            go_ret3
            exact ⟨by first | rfl | (simp; done), HA6.out.b⟩
          | true =>
            have hnn : 0 ≤ nn ∧ nn ≤ 16 := by unfold saB at hsa; simp at hsa; exact hsa.1.2
            have hb2 : b.length = 2 := by unfold saB at hsa; simp at hsa; exact hsa.1.1.1
            obtain ⟨m, rfl⟩ : ∃ m : Nat, nn = (m : Int) := ⟨nn.toNat, by omega⟩
            have hm : m ≤ 16 := by omega
            have HK := Lib.hid (fun (W : World) (hW : Below w.heap.size w W) => rkeeps7_any N D d gl gh lo hi Ab nb cb m w.heap.size b W hs hl hm hb (by omega) (sb_of hsa m) (sv_of hc hv m) hW.size ((hr.more hB).below hW))
            have hk : kpN N D d b gl gh (m : Int) lo hi = (keN N D d (b ++ List.replicate m (gl, gh)) lo hi m, 0) := by
              unfold kpN
              rw [if_pos (by unfold alE; rw [hs, hc, hv]; simp [hl, hsa]), Int.toNat_natCast]
            rw [hk]
            rw [hsa] at HN
            unfold keN
            unfold rkN at HK
            obtain ⟨s, hs9⟩ : ∃ s, stF (kpB N D d (b ++ List.replicate m (gl, gh)) lo hi) 0 (m + 1) = s := ⟨_, rfl⟩
            rw [hs9] at HK ⊢
            clear hs hc hv hl hsa hr hb no hk hnn hb2 hs9
            by_cases hsm : s ≤ m
            · rw [if_pos hsm] at HK ⊢
              have hs0 : ¬ ((s : Int) < 0) := by omega
              clear hsm
              go_enter Try.func29, Try.ntmps29
              go_upto_region 1 with (fail)
              generalize World.alloc _ _ = w1 at *
              have s0 := cellOf (o := 0) HA0.out.s rfl
              have s1 := cellOf (o := 1) HA0.out.s rfl
              have s2 := cellOf (o := 2) HA0.out.s rfl
              have g0 := cellOf (o := 0) HA0.out.g rfl
              have g1 := cellOf (o := 1) HA0.out.g rfl
              have x0 := cellOf (o := 0) HL0.out rfl
              have x1 := cellOf (o := 1) HL0.out rfl
              have l0 := lt_of_block HA0.out.s
              have l1 := lt_of_block HA0.out.g
              have l2 := lt_of_block HL0.out
              go_wp2_with (first
                | (go_at_call 16; refine Calls.mono (HC.out _) ?_; rintro e w2 ⟨rfl, hb2⟩; have HA2 := Lib.hid (HA0.out.next hb2); have HL2 := Lib.hid ((hb2.block _ (lt_of_block HL0.out)).trans HL0.out); clear hb2 s0 s1 s2 g0 g1 x0 x1 l0 l1 l2; have s0 := cellOf (o := 0) HA2.out.s rfl; have s1 := cellOf (o := 1) HA2.out.s rfl; have s2 := cellOf (o := 2) HA2.out.s rfl; have g0 := cellOf (o := 0) HA2.out.g rfl; have g1 := cellOf (o := 1) HA2.out.g rfl; have x0 := cellOf (o := 0) HL2.out rfl; have x1 := cellOf (o := 1) HL2.out rfl; have l0 := lt_of_block HA2.out.s; have l1 := lt_of_block HA2.out.g; have l2 := lt_of_block HL2.out)
                | (go_at_call 69; refine Calls.mono (HCB.out _ HA2.out.b) ?_; rintro e w3 ⟨rfl, hb3⟩; have HA3 := Lib.hid (HA2.out.next hb3); have HL3 := Lib.hid ((hb3.block _ (lt_of_block HL2.out)).trans HL2.out); clear hb3 s0 s1 s2 g0 g1 x0 x1 l0 l1 l2; have s0 := cellOf (o := 0) HA3.out.s rfl; have s1 := cellOf (o := 1) HA3.out.s rfl; have s2 := cellOf (o := 2) HA3.out.s rfl; have g0 := cellOf (o := 0) HA3.out.g rfl; have g1 := cellOf (o := 1) HA3.out.g rfl; have x0 := cellOf (o := 0) HL3.out rfl; have x1 := cellOf (o := 1) HL3.out rfl; have l0 := lt_of_block HA3.out.s; have l1 := lt_of_block HA3.out.g; have l2 := lt_of_block HL3.out)
                | (go_at_call_of 61 (Value.agg #[.int .i64 gl, .int .i64 gh]); refine Calls.mono (HV.out _) ?_; rintro e w4 ⟨rfl, hb4⟩; have HA4 := Lib.hid (HA3.out.next hb4); have HL4 := Lib.hid ((hb4.block _ (lt_of_block HL3.out)).trans HL3.out); clear hb4 s0 s1 s2 g0 g1 x0 x1 l0 l1 l2; have s0 := cellOf (o := 0) HA4.out.s rfl; have s1 := cellOf (o := 1) HA4.out.s rfl; have s2 := cellOf (o := 2) HA4.out.s rfl; have g0 := cellOf (o := 0) HA4.out.g rfl; have g1 := cellOf (o := 1) HA4.out.g rfl; have x0 := cellOf (o := 0) HL4.out rfl; have x1 := cellOf (o := 1) HL4.out rfl; have l0 := lt_of_block HA4.out.s; have l1 := lt_of_block HA4.out.g; have l2 := lt_of_block HL4.out)
                | (go_at_call_of 61 (Value.agg #[.int .i64 lo, .int .i64 hi]); refine Calls.mono (HW.out _) ?_; rintro e w5 ⟨rfl, hb5⟩; have HA5 := Lib.hid (HA4.out.next hb5); have HL5 := Lib.hid ((hb5.block _ (lt_of_block HL4.out)).trans HL4.out); clear hb5 s0 s1 s2 g0 g1 x0 x1 l0 l1 l2; have s0 := cellOf (o := 0) HA5.out.s rfl; have s1 := cellOf (o := 1) HA5.out.s rfl; have s2 := cellOf (o := 2) HA5.out.s rfl; have g0 := cellOf (o := 0) HA5.out.g rfl; have g1 := cellOf (o := 1) HA5.out.g rfl; have x0 := cellOf (o := 0) HL5.out rfl; have x1 := cellOf (o := 1) HL5.out rfl; have l0 := lt_of_block HA5.out.s; have l1 := lt_of_block HA5.out.g; have l2 := lt_of_block HL5.out)
                | (go_at_call 70; refine Calls.mono (HN.out _ HA5.out.b) ?_; rintro e w6 ⟨rfl, hb6⟩; have HA6 := Lib.hid (HA5.out.next hb6); have HL6 := Lib.hid ((hb6.block _ (lt_of_block HL5.out)).trans HL5.out); clear hb6 s0 s1 s2 g0 g1 x0 x1 l0 l1 l2; have s0 := cellOf (o := 0) HA6.out.s rfl; have s1 := cellOf (o := 1) HA6.out.s rfl; have s2 := cellOf (o := 2) HA6.out.s rfl; have g0 := cellOf (o := 0) HA6.out.g rfl; have g1 := cellOf (o := 1) HA6.out.g rfl; have x0 := cellOf (o := 0) HL6.out rfl; have x1 := cellOf (o := 1) HL6.out rfl; have l0 := lt_of_block HA6.out.s; have l1 := lt_of_block HA6.out.g; have l2 := lt_of_block HL6.out)
                | (go_at_call 71; refine Calls.mono (HK.out _ HA6.out.b) ?_; rintro e w7 ⟨rfl, hb7⟩; have HA7 := Lib.hid (HA6.out.next hb7); clear hb7))
              go_ret3
              exact ⟨by first | rfl | (simp; done), HA7.out.b⟩
            · rw [if_neg hsm] at HK ⊢
              clear hsm
              go_enter Try.func29, Try.ntmps29
              go_upto_region 1 with (fail)
              generalize World.alloc _ _ = w1 at *
              have s0 := cellOf (o := 0) HA0.out.s rfl
              have s1 := cellOf (o := 1) HA0.out.s rfl
              have s2 := cellOf (o := 2) HA0.out.s rfl
              have g0 := cellOf (o := 0) HA0.out.g rfl
              have g1 := cellOf (o := 1) HA0.out.g rfl
              have x0 := cellOf (o := 0) HL0.out rfl
              have x1 := cellOf (o := 1) HL0.out rfl
              have l0 := lt_of_block HA0.out.s
              have l1 := lt_of_block HA0.out.g
              have l2 := lt_of_block HL0.out
              go_wp2_with (first
                | (go_at_call 16; refine Calls.mono (HC.out _) ?_; rintro e w2 ⟨rfl, hb2⟩; have HA2 := Lib.hid (HA0.out.next hb2); have HL2 := Lib.hid ((hb2.block _ (lt_of_block HL0.out)).trans HL0.out); clear hb2 s0 s1 s2 g0 g1 x0 x1 l0 l1 l2; have s0 := cellOf (o := 0) HA2.out.s rfl; have s1 := cellOf (o := 1) HA2.out.s rfl; have s2 := cellOf (o := 2) HA2.out.s rfl; have g0 := cellOf (o := 0) HA2.out.g rfl; have g1 := cellOf (o := 1) HA2.out.g rfl; have x0 := cellOf (o := 0) HL2.out rfl; have x1 := cellOf (o := 1) HL2.out rfl; have l0 := lt_of_block HA2.out.s; have l1 := lt_of_block HA2.out.g; have l2 := lt_of_block HL2.out)
                | (go_at_call 69; refine Calls.mono (HCB.out _ HA2.out.b) ?_; rintro e w3 ⟨rfl, hb3⟩; have HA3 := Lib.hid (HA2.out.next hb3); have HL3 := Lib.hid ((hb3.block _ (lt_of_block HL2.out)).trans HL2.out); clear hb3 s0 s1 s2 g0 g1 x0 x1 l0 l1 l2; have s0 := cellOf (o := 0) HA3.out.s rfl; have s1 := cellOf (o := 1) HA3.out.s rfl; have s2 := cellOf (o := 2) HA3.out.s rfl; have g0 := cellOf (o := 0) HA3.out.g rfl; have g1 := cellOf (o := 1) HA3.out.g rfl; have x0 := cellOf (o := 0) HL3.out rfl; have x1 := cellOf (o := 1) HL3.out rfl; have l0 := lt_of_block HA3.out.s; have l1 := lt_of_block HA3.out.g; have l2 := lt_of_block HL3.out)
                | (go_at_call_of 61 (Value.agg #[.int .i64 gl, .int .i64 gh]); refine Calls.mono (HV.out _) ?_; rintro e w4 ⟨rfl, hb4⟩; have HA4 := Lib.hid (HA3.out.next hb4); have HL4 := Lib.hid ((hb4.block _ (lt_of_block HL3.out)).trans HL3.out); clear hb4 s0 s1 s2 g0 g1 x0 x1 l0 l1 l2; have s0 := cellOf (o := 0) HA4.out.s rfl; have s1 := cellOf (o := 1) HA4.out.s rfl; have s2 := cellOf (o := 2) HA4.out.s rfl; have g0 := cellOf (o := 0) HA4.out.g rfl; have g1 := cellOf (o := 1) HA4.out.g rfl; have x0 := cellOf (o := 0) HL4.out rfl; have x1 := cellOf (o := 1) HL4.out rfl; have l0 := lt_of_block HA4.out.s; have l1 := lt_of_block HA4.out.g; have l2 := lt_of_block HL4.out)
                | (go_at_call_of 61 (Value.agg #[.int .i64 lo, .int .i64 hi]); refine Calls.mono (HW.out _) ?_; rintro e w5 ⟨rfl, hb5⟩; have HA5 := Lib.hid (HA4.out.next hb5); have HL5 := Lib.hid ((hb5.block _ (lt_of_block HL4.out)).trans HL4.out); clear hb5 s0 s1 s2 g0 g1 x0 x1 l0 l1 l2; have s0 := cellOf (o := 0) HA5.out.s rfl; have s1 := cellOf (o := 1) HA5.out.s rfl; have s2 := cellOf (o := 2) HA5.out.s rfl; have g0 := cellOf (o := 0) HA5.out.g rfl; have g1 := cellOf (o := 1) HA5.out.g rfl; have x0 := cellOf (o := 0) HL5.out rfl; have x1 := cellOf (o := 1) HL5.out rfl; have l0 := lt_of_block HA5.out.s; have l1 := lt_of_block HA5.out.g; have l2 := lt_of_block HL5.out)
                | (go_at_call 70; refine Calls.mono (HN.out _ HA5.out.b) ?_; rintro e w6 ⟨rfl, hb6⟩; have HA6 := Lib.hid (HA5.out.next hb6); have HL6 := Lib.hid ((hb6.block _ (lt_of_block HL5.out)).trans HL5.out); clear hb6 s0 s1 s2 g0 g1 x0 x1 l0 l1 l2; have s0 := cellOf (o := 0) HA6.out.s rfl; have s1 := cellOf (o := 1) HA6.out.s rfl; have s2 := cellOf (o := 2) HA6.out.s rfl; have g0 := cellOf (o := 0) HA6.out.g rfl; have g1 := cellOf (o := 1) HA6.out.g rfl; have x0 := cellOf (o := 0) HL6.out rfl; have x1 := cellOf (o := 1) HL6.out rfl; have l0 := lt_of_block HA6.out.s; have l1 := lt_of_block HA6.out.g; have l2 := lt_of_block HL6.out)
                | (go_at_call 71; refine Calls.mono (HK.out _ HA6.out.b) ?_; rintro e w7 ⟨rfl, hb7⟩; have HA7 := Lib.hid (HA6.out.next hb7); clear hb7))
              go_ret3
              exact ⟨by first | rfl | (simp; done), HA7.out.b⟩
end Go.Proofs.Ytnnmmojlgikdgaa

/- Gust of the reference. -/
namespace Go.Proofs.Ytnnmmojlgikdgaa
open Go.RowKit

def dnJ (p : Int → Bool) : Nat → Int
  | 0 => -1
  | k + 1 => if p (k : Int) then (k : Int) else dnJ p k
theorem dnJ_eq (p : Int → Bool) : ∀ k, dnI p k = dnJ p (k + 1)
  | 0 => rfl
  | k + 1 => by
    show (if p ((k + 1 : Nat) : Int) then ((k + 1 : Nat) : Int) else dnI p k) = (if p ((k + 1 : Nat) : Int) then ((k + 1 : Nat) : Int) else dnJ p (k + 1))
    rw [dnJ_eq p k]
theorem rkN_neg {N D d lo hi : Int} {S : List (Int × Int)} {k : Nat} : decide (rkN N D d S lo hi k < 0) = (keN N D d S lo hi k).2 := by
  unfold rkN keN
  by_cases h : stF (kpB N D d S lo hi) 0 (k + 1) ≤ k
  · rw [if_pos h, if_pos h]
    simp only [decide_eq_false_iff_not]
    omega
  · rw [if_neg h, if_neg h]
    rfl

set_option maxRecDepth 100000 in
set_option maxHeartbeats 2000000 in
theorem rgustT_any (N D d nn lo hi : Int) (Ab : Option Addr) (nb cb B : Nat) (b : List (Int × Int)) (w : World) (hb : b.length = nb) (hnb : nb ≤ maxLen) (hB : B ≤ w.heap.size) (hr : RS w B Ab b) :
    Calls Try.prog 31 #[.agg #[.int .i64 N, .int .i64 D, .int .i64 d], .slice Ab nb cb, .int .i64 nn, .agg #[.int .i64 lo, .int .i64 hi]] w fun e w' => e = .returned (.tuple #[.int .i64 (guN N D d b nn lo hi).1, .int .i64 (guN N D d b nn lo hi).2]) ∧ Below w.heap.size w w' := by
  have HA0 := Lib.hid (AV.start (N := N) (D := D) (d := d) (gl := lo) (gh := hi) (w := w))
  have HKT := Lib.hid (fun (W : World) (hW : Below w.heap.size w W) => rkeepsT_any N D d 0 0 nn lo hi Ab nb cb w.heap.size b W hb hnb hW.size ((hr.more hB).below hW))
  unfold guN
  by_cases h0 : alE N D d b 0 0 nn [(lo, hi)] = 0
  · rw [if_pos h0]
    obtain ⟨hs, hc, hv, hll, hsa⟩ := alE_zero h0
    have hl : vS (lo, hi) = true := by simpa using hll
    have hnn : 0 ≤ nn ∧ nn ≤ 16 := by unfold saB at hsa; simp at hsa; exact hsa.1.2
    have hb2 : b.length = 2 := by unfold saB at hsa; simp at hsa; exact hsa.1.1.1
    have hk : (kpN N D d b 0 0 nn lo hi).2 = 0 := by unfold kpN; rw [if_pos h0]
    rw [hk] at HKT
    obtain ⟨m, rfl⟩ : ∃ m : Nat, nn = (m : Int) := ⟨nn.toNat, by omega⟩
    rw [Int.toNat_natCast]
    have HRK := Lib.hid (fun (g : Nat) (hg : g ≤ 100) (W : World) (hW : Below w.heap.size w W) => rkeeps7_any N D d (-(g : Int)) g lo hi Ab nb cb m w.heap.size b W hs hl (by omega) hb (by omega) (sb_of (saB_gust hsa (by omega) (by omega)) m) (sv_of hc (vS_gust (by omega) (by omega)) m) hW.size ((hr.more hB).below hW))
    have HP := Lib.hid (fun (g : Nat) => show guB N D d b m lo hi (g : Int) = decide (rkN N D d (b ++ List.replicate m (-(g : Int), (g : Int))) lo hi m < 0) by rw [rkN_neg]; rfl)
    obtain ⟨p, hp⟩ : ∃ p, guB N D d b m lo hi = p := ⟨_, rfl⟩
    rw [hp] at HP ⊢
    have hd : dnI p 100 = dnJ p 101 := dnJ_eq p 100
    rw [hd]
    obtain ⟨r, hr9⟩ : ∃ r, dnJ p 101 = r := ⟨_, rfl⟩
    rw [hr9]
    have HR9 := Lib.hid hr9
    obtain ⟨⟨R1, R2⟩, hRR⟩ : ∃ R : Int × Int, (if 0 ≤ r then (r, (0 : Int)) else (0, 3)) = R := ⟨_, rfl⟩
    rw [hRR]
    have HRR := Lib.hid hRR
    simp only
    clear hRR
    generalize kpN N D d b 0 0 (m : Int) lo hi = kk at *
    obtain ⟨⟨kt, ki⟩, ke⟩ := kk
    simp only at HKT
    clear h0 hs hc hv hll hl hsa hnn hb2 hr hb hk hp hd hr9
    go_enter Try.func31, Try.ntmps31
    go_upto_region 1 with (fail)
    generalize World.alloc _ _ = w1 at *
    have s0 := cellOf (o := 0) HA0.out.s rfl
    have s1 := cellOf (o := 1) HA0.out.s rfl
    have s2 := cellOf (o := 2) HA0.out.s rfl
    have g0 := cellOf (o := 0) HA0.out.g rfl
    have g1 := cellOf (o := 1) HA0.out.g rfl
    have l0 := lt_of_block HA0.out.s
    have l1 := lt_of_block HA0.out.g
    go_upto_region 5 with (go_at_call 29; refine Calls.mono (HKT.out _ HA0.out.b) ?_; rintro e w3 ⟨rfl, hb3⟩; have HA3 := Lib.hid (HA0.out.next hb3); clear hb3 s0 s1 s2 g0 g1 l0 l1)
    go_loopw [13] (fun ug wr => ∃ k : Nat, k ≤ 101 ∧ ug = .int .i64 ((k : Int) - 1) ∧ dnJ p k = r ∧ Below w3.heap.size w3 wr) (fun ug _ => (intOf ug + 1).toNat)
    case atStart => exact ⟨101, by omega, rfl, HR9.out, Below.refl _ _⟩
    case round =>
      obtain ⟨k, hk, rfl, hd, hbw⟩ := hrel
      have HD := Lib.hid hd
      have HBW := Lib.hid hbw
      have HAW := Lib.hid (HA3.out.next hbw)
      have s0 := cellOf (o := 0) HAW.out.s rfl
      have s1 := cellOf (o := 1) HAW.out.s rfl
      have s2 := cellOf (o := 2) HAW.out.s rfl
      have g0 := cellOf (o := 0) HAW.out.g rfl
      have g1 := cellOf (o := 1) HAW.out.g rfl
      have l0 := lt_of_block HAW.out.s
      have l1 := lt_of_block HAW.out.g
      clear hd hbw
      cases k with
      | zero =>
        have h9 : r = -1 := by rw [← HD.out]; rfl
        have H9 := Lib.hid h9
        clear h9
        go_wp2
        go_ret2
        exact ⟨by have e9 := HRR.out; rw [if_neg (by rw [H9.out]; decide)] at e9; injection e9 with a c; rw [← a, ← c]; rfl, HAW.out.b⟩
      | succ g =>
        have e1 : ((g + 1 : Nat) : Int) - 1 = g := by omega
        rw [e1]
        clear e1
        have hpg := HP.out g
        have hd9 := HD.out
        have i1 : IntKind.i64.wrap (-(g : Int)) = -(g : Int) := IntWalk.i64_in _ (by omega)
        have i2 : IntKind.i64.wrap ((g : Int) - 1) = (g : Int) - 1 := IntWalk.i64_in _ (by omega)
        have hg0 : (0 : Int) ≤ (g : Int) := by omega
        have HK := Lib.hid (HRK.out g (by omega) wr HAW.out.b)
        obtain ⟨z, hz⟩ : ∃ z, rkN N D d (b ++ List.replicate m (-(g : Int), (g : Int))) lo hi m = z := ⟨_, rfl⟩
        rw [hz] at HK hpg
        clear hz
        by_cases hz0 : z < 0
        · rw [decide_eq_true hz0] at hpg
          have h9 : (if p (g : Int) then (g : Int) else dnJ p g) = r := hd9
          rw [hpg, if_pos rfl] at h9
          have H9 := Lib.hid h9
          clear hpg hd9 h9
          go_wp2_with (go_at_call 71; refine Calls.mono HK.out ?_; rintro e w5 ⟨rfl, hb5⟩; have HB5 := Lib.hid (HAW.out.b.trans (hb5.mono HAW.out.b.size)); clear hb5)
          go_ret2
          exact ⟨by have e9 := HRR.out; rw [if_pos (by rw [← H9.out]; omega), ← H9.out] at e9; injection e9 with a c; rw [← a, ← c]; rfl, HB5.out⟩
        · rw [decide_eq_false hz0] at hpg
          have h9 : (if p (g : Int) then (g : Int) else dnJ p g) = r := hd9
          rw [hpg, if_neg (by decide)] at h9
          have H9 := Lib.hid h9
          clear hpg hd9 h9
          go_wp2_with (go_at_call 71; refine Calls.mono HK.out ?_; rintro e w5 ⟨rfl, hb5⟩; have HB5 := Lib.hid (HBW.out.trans (hb5.mono HBW.out.size)); clear hb5)
          go_roundw
          case rel => exact ⟨g, by omega, rfl, H9.out, HB5.out⟩
          case measure => simp [intOf] <;> omega
  · rw [if_neg h0]
    have hk : (kpN N D d b 0 0 nn lo hi).2 = alE N D d b 0 0 nn [(lo, hi)] := by unfold kpN; rw [if_neg h0]
    rw [hk] at HKT
    have h0' : (alE N D d b 0 0 nn [(lo, hi)] != 0) = true := by rw [bne_iff_ne]; exact h0
    generalize alE N D d b 0 0 nn [(lo, hi)] = E at *
    generalize kpN N D d b 0 0 nn lo hi = kk at *
    obtain ⟨⟨kt, ki⟩, ke⟩ := kk
    simp only at HKT
    clear h0 hr hb hk
    go_enter Try.func31, Try.ntmps31
    go_upto_region 1 with (fail)
    generalize World.alloc _ _ = w1 at *
    have s0 := cellOf (o := 0) HA0.out.s rfl
    have s1 := cellOf (o := 1) HA0.out.s rfl
    have s2 := cellOf (o := 2) HA0.out.s rfl
    have g0 := cellOf (o := 0) HA0.out.g rfl
    have g1 := cellOf (o := 1) HA0.out.g rfl
    have l0 := lt_of_block HA0.out.s
    have l1 := lt_of_block HA0.out.g
    go_wp2_with (go_at_call 29; refine Calls.mono (HKT.out _ HA0.out.b) ?_; rintro e w3 ⟨rfl, hb3⟩; have HA3 := Lib.hid (HA0.out.next hb3); clear hb3)
    go_ret2
    exact ⟨rfl, HA3.out.b⟩
end Go.Proofs.Ytnnmmojlgikdgaa

/- The law of Keeps and Gust. -/
namespace Go.Proofs.Ytnnmmojlgikdgaa
open Go.RowKit

/-- A sling and sets in their boxes. -/
structure KW (N D d gl gh lo hi m : Int) (A : Option Addr) (n c : Nat) (w W : World) : Prop where
  s : W.heap[w.heap.size]? = some (.cells #[.int .i64 N, .int .i64 D, .int .i64 d] 23 (0, 0))
  x : W.heap[w.heap.size + 1]? = some (.cells #[.slice A n c, .int .i64 gl, .int .i64 gh, .int .i64 lo, .int .i64 hi, .int .i64 m] 43 (0, 0))
  b : Below w.heap.size w W
section
variable {N D d gl gh lo hi m : Int} {A : Option Addr} {n c : Nat} {w W W' : World}
theorem KW.next (h : KW N D d gl gh lo hi m A n c w W) (hb : Below W.heap.size W W') : KW N D d gl gh lo hi m A n c w W' :=
  ⟨(hb.block _ (lt_of_block h.s)).trans h.s, (hb.block _ (lt_of_block h.x)).trans h.x, h.b.trans (hb.mono h.b.size)⟩
theorem KW.start : KW N D d gl gh lo hi m A n c w ((w.alloc (.cells #[.int .i64 N, .int .i64 D, .int .i64 d] 23)).alloc (.cells #[.slice A n c, .int .i64 gl, .int .i64 gh, .int .i64 lo, .int .i64 hi, .int .i64 m] 43)) :=
  ⟨blk_old _ (blk_new _ _ _ rfl), blk_new _ _ _ (by simp), by go_grown⟩
end

set_option maxRecDepth 100000 in
set_option maxHeartbeats 2000000 in
theorem law_keeps (wk : WK7) (w : World) (N D d : Int) (A : Option Addr) (n c : Nat) (gl gh lo hi m : Int) (b : List (Int × Int)) (hl : b.length = n) (hn : n ≤ maxLen) (hr : RS w w.heap.size A b) :
    Calls Try.prog 5 #[.agg #[.int .i64 N, .int .i64 D, .int .i64 d], .agg #[.slice A n c, .int .i64 gl, .int .i64 gh, .int .i64 lo, .int .i64 hi, .int .i64 m]] w fun e w' => e = .returned (.bool true) ∧ Below w.heap.size w w' := by
  have HWK := Lib.hid wk
  have H1 := Lib.hid (fun (W : World) (hW : Below w.heap.size w W) => keepsT_any N D d gl gh m lo hi A n c w.heap.size b W hl hn hW.size (hr.below hW))
  have H2 := Lib.hid (fun (W : World) (hW : Below w.heap.size w W) => rkeepsT_any N D d gl gh m lo hi A n c w.heap.size b W hl hn hW.size (hr.below hW))
  have H3 := Lib.hid (fun (W : World) (hW : Below w.heap.size w W) => gustT_any N D d m lo hi A n c w.heap.size b W hl hn hW.size (hr.below hW))
  have H4 := Lib.hid (fun (W : World) (hW : Below w.heap.size w W) => rgustT_any N D d m lo hi A n c w.heap.size b W hl hn hW.size (hr.below hW))
  generalize kpN N D d b gl gh m lo hi = r at *
  generalize guN N D d b m lo hi = g at *
  obtain ⟨⟨r0, r1⟩, r2⟩ := r
  obtain ⟨g0, g1⟩ := g
  simp only at H1 H2 H3 H4
  have HK0 := Lib.hid (KW.start (N := N) (D := D) (d := d) (gl := gl) (gh := gh) (lo := lo) (hi := hi) (m := m) (A := A) (n := n) (c := c) (w := w))
  clear wk hr hl
  go_enter Try.func5, Try.ntmps5
  go_upto_region 1 with (fail)
  generalize World.alloc _ _ = w1 at *
  have s0 := cellOf (o := 0) HK0.out.s rfl
  have s1 := cellOf (o := 1) HK0.out.s rfl
  have s2 := cellOf (o := 2) HK0.out.s rfl
  have x0 := cellOf (o := 0) HK0.out.x rfl
  have x1 := cellOf (o := 1) HK0.out.x rfl
  have x2 := cellOf (o := 2) HK0.out.x rfl
  have x3 := cellOf (o := 3) HK0.out.x rfl
  have x4 := cellOf (o := 4) HK0.out.x rfl
  have x5 := cellOf (o := 5) HK0.out.x rfl
  have l0 := lt_of_block HK0.out.s
  have l1 := lt_of_block HK0.out.x
  cases r1 with
  | false =>
    go_wp2_with (first
      | (go_at_call 28; refine Calls.mono (H1.out _ HK0.out.b) ?_; rintro e v1 ⟨rfl, hb1⟩; have HK1 := Lib.hid (HK0.out.next hb1); clear hb1 s0 s1 s2 x0 x1 x2 x3 x4 x5 l0 l1; have s0 := cellOf (o := 0) HK1.out.s rfl; have s1 := cellOf (o := 1) HK1.out.s rfl; have s2 := cellOf (o := 2) HK1.out.s rfl; have x0 := cellOf (o := 0) HK1.out.x rfl; have x1 := cellOf (o := 1) HK1.out.x rfl; have x2 := cellOf (o := 2) HK1.out.x rfl; have x3 := cellOf (o := 3) HK1.out.x rfl; have x4 := cellOf (o := 4) HK1.out.x rfl; have x5 := cellOf (o := 5) HK1.out.x rfl; have l0 := lt_of_block HK1.out.s; have l1 := lt_of_block HK1.out.x)
      | (go_at_call 29; refine Calls.mono (H2.out _ HK1.out.b) ?_; rintro e v2 ⟨rfl, hb2⟩; have HK2 := Lib.hid (HK1.out.next hb2); clear hb2 s0 s1 s2 x0 x1 x2 x3 x4 x5 l0 l1; have s0 := cellOf (o := 0) HK2.out.s rfl; have s1 := cellOf (o := 1) HK2.out.s rfl; have s2 := cellOf (o := 2) HK2.out.s rfl; have x0 := cellOf (o := 0) HK2.out.x rfl; have x1 := cellOf (o := 1) HK2.out.x rfl; have x2 := cellOf (o := 2) HK2.out.x rfl; have x3 := cellOf (o := 3) HK2.out.x rfl; have x4 := cellOf (o := 4) HK2.out.x rfl; have x5 := cellOf (o := 5) HK2.out.x rfl; have l0 := lt_of_block HK2.out.s; have l1 := lt_of_block HK2.out.x)
      | (go_at_call 30; refine Calls.mono (H3.out _ HK2.out.b) ?_; rintro e v3 ⟨rfl, hb3⟩; have HK3 := Lib.hid (HK2.out.next hb3); clear hb3 s0 s1 s2 x0 x1 x2 x3 x4 x5 l0 l1; have s0 := cellOf (o := 0) HK3.out.s rfl; have s1 := cellOf (o := 1) HK3.out.s rfl; have s2 := cellOf (o := 2) HK3.out.s rfl; have x0 := cellOf (o := 0) HK3.out.x rfl; have x1 := cellOf (o := 1) HK3.out.x rfl; have x2 := cellOf (o := 2) HK3.out.x rfl; have x3 := cellOf (o := 3) HK3.out.x rfl; have x4 := cellOf (o := 4) HK3.out.x rfl; have x5 := cellOf (o := 5) HK3.out.x rfl; have l0 := lt_of_block HK3.out.s; have l1 := lt_of_block HK3.out.x)
      | (go_at_call 31; refine Calls.mono (H4.out _ HK3.out.b) ?_; rintro e v4 ⟨rfl, hb4⟩; have HK4 := Lib.hid (HK3.out.next hb4); clear hb4 s0 s1 s2 x0 x1 x2 x3 x4 x5 l0 l1; have s0 := cellOf (o := 0) HK4.out.s rfl; have s1 := cellOf (o := 1) HK4.out.s rfl; have s2 := cellOf (o := 2) HK4.out.s rfl; have x0 := cellOf (o := 0) HK4.out.x rfl; have x1 := cellOf (o := 1) HK4.out.x rfl; have x2 := cellOf (o := 2) HK4.out.x rfl; have x3 := cellOf (o := 3) HK4.out.x rfl; have x4 := cellOf (o := 4) HK4.out.x rfl; have x5 := cellOf (o := 5) HK4.out.x rfl; have l0 := lt_of_block HK4.out.s; have l1 := lt_of_block HK4.out.x)
      | (go_at_call 22; refine Calls.mono (HWK.out _) ?_; rintro e v9 ⟨rfl, hb9⟩; have HX9 := Lib.hid (HK4.out.b.trans (hb9.mono HK4.out.b.size)); clear hb9))
    go_ret
    exact ⟨rfl, HX9.out⟩
  | true =>
    go_wp2_with (first
      | (go_at_call 28; refine Calls.mono (H1.out _ HK0.out.b) ?_; rintro e v1 ⟨rfl, hb1⟩; have HK1 := Lib.hid (HK0.out.next hb1); clear hb1 s0 s1 s2 x0 x1 x2 x3 x4 x5 l0 l1; have s0 := cellOf (o := 0) HK1.out.s rfl; have s1 := cellOf (o := 1) HK1.out.s rfl; have s2 := cellOf (o := 2) HK1.out.s rfl; have x0 := cellOf (o := 0) HK1.out.x rfl; have x1 := cellOf (o := 1) HK1.out.x rfl; have x2 := cellOf (o := 2) HK1.out.x rfl; have x3 := cellOf (o := 3) HK1.out.x rfl; have x4 := cellOf (o := 4) HK1.out.x rfl; have x5 := cellOf (o := 5) HK1.out.x rfl; have l0 := lt_of_block HK1.out.s; have l1 := lt_of_block HK1.out.x)
      | (go_at_call 29; refine Calls.mono (H2.out _ HK1.out.b) ?_; rintro e v2 ⟨rfl, hb2⟩; have HK2 := Lib.hid (HK1.out.next hb2); clear hb2 s0 s1 s2 x0 x1 x2 x3 x4 x5 l0 l1; have s0 := cellOf (o := 0) HK2.out.s rfl; have s1 := cellOf (o := 1) HK2.out.s rfl; have s2 := cellOf (o := 2) HK2.out.s rfl; have x0 := cellOf (o := 0) HK2.out.x rfl; have x1 := cellOf (o := 1) HK2.out.x rfl; have x2 := cellOf (o := 2) HK2.out.x rfl; have x3 := cellOf (o := 3) HK2.out.x rfl; have x4 := cellOf (o := 4) HK2.out.x rfl; have x5 := cellOf (o := 5) HK2.out.x rfl; have l0 := lt_of_block HK2.out.s; have l1 := lt_of_block HK2.out.x)
      | (go_at_call 30; refine Calls.mono (H3.out _ HK2.out.b) ?_; rintro e v3 ⟨rfl, hb3⟩; have HK3 := Lib.hid (HK2.out.next hb3); clear hb3 s0 s1 s2 x0 x1 x2 x3 x4 x5 l0 l1; have s0 := cellOf (o := 0) HK3.out.s rfl; have s1 := cellOf (o := 1) HK3.out.s rfl; have s2 := cellOf (o := 2) HK3.out.s rfl; have x0 := cellOf (o := 0) HK3.out.x rfl; have x1 := cellOf (o := 1) HK3.out.x rfl; have x2 := cellOf (o := 2) HK3.out.x rfl; have x3 := cellOf (o := 3) HK3.out.x rfl; have x4 := cellOf (o := 4) HK3.out.x rfl; have x5 := cellOf (o := 5) HK3.out.x rfl; have l0 := lt_of_block HK3.out.s; have l1 := lt_of_block HK3.out.x)
      | (go_at_call 31; refine Calls.mono (H4.out _ HK3.out.b) ?_; rintro e v4 ⟨rfl, hb4⟩; have HK4 := Lib.hid (HK3.out.next hb4); clear hb4 s0 s1 s2 x0 x1 x2 x3 x4 x5 l0 l1; have s0 := cellOf (o := 0) HK4.out.s rfl; have s1 := cellOf (o := 1) HK4.out.s rfl; have s2 := cellOf (o := 2) HK4.out.s rfl; have x0 := cellOf (o := 0) HK4.out.x rfl; have x1 := cellOf (o := 1) HK4.out.x rfl; have x2 := cellOf (o := 2) HK4.out.x rfl; have x3 := cellOf (o := 3) HK4.out.x rfl; have x4 := cellOf (o := 4) HK4.out.x rfl; have x5 := cellOf (o := 5) HK4.out.x rfl; have l0 := lt_of_block HK4.out.s; have l1 := lt_of_block HK4.out.x)
      | (go_at_call 22; refine Calls.mono (HWK.out _) ?_; rintro e v9 ⟨rfl, hb9⟩; have HX9 := Lib.hid (HK4.out.b.trans (hb9.mono HK4.out.b.size)); clear hb9))
    go_ret
    exact ⟨rfl, HX9.out⟩
end Go.Proofs.Ytnnmmojlgikdgaa

/- Contracts of the functions that the statement reaches: JSets2, JRends, JEff4, JSets3, JAllow, JCheckSets, Spn, Rl, JAllow3, JCheckSets2. -/
import Derived.Test.YtnnmmojlgikdgaaM7
import Derived.Test.YtnnmmojlgikdgaaM11
import Derived.Test.YtnnmmojlgikdgaaM6
import Derived.Test.YtnnmmojlgikdgaaM4
import Derived.Test.YtnnmmojlgikdgaaM2
import Derived.Test.YtnnmmojlgikdgaaM5

/- The sets of a swing: witness, end. -/
namespace Go.Proofs.Ytnnmmojlgikdgaa
open Go.RowKit

set_option maxRecDepth 100000 in
set_option maxHeartbeats 2000000 in
theorem witness_any (N D d : Int) (A : Option Addr) (k n c B : Nat) (S : List (Int × Int)) (high : Bool) (w : World) (hs : slB N D d = true) (hnk : n = k + 2) (hk : k ≤ 16) (hl : S.length = n) (hB : B ≤ w.heap.size) (hr : RS w B A S) :
    Calls Try.prog 67 #[.agg #[.int .i64 N, .int .i64 D, .int .i64 d, .slice A n c], .bool high] w fun e w' => ∃ u, e = .returned u ∧ QI (witL high S (efL N D d k)) u w' ∧ Below w.heap.size w w' := by
  have hn18 : n ≤ 18 := by omega
  have HEL := Lib.hid (show (efL N D d k).length = n by rw [efL_len]; omega)
  have HEF := Lib.hid (fun W => effects_any N D d A k n c W hs hnk hk)
  have HSL := Lib.hid hl
  have HB0 := Lib.hid ((Below.refl w.heap.size w).alloc (Nat.le_refl _) (.cells #[.int .i64 N, .int .i64 D, .int .i64 d, .slice A n c] 101))
  have HT0 := Lib.hid (blk_new w (.cells #[.int .i64 N, .int .i64 D, .int .i64 d, .slice A n c] 101) _ rfl)
  have HR := Lib.hid hr
  clear hs hnk hr hl
  go_enter Try.func67, Try.ntmps67
  go_upto_region 1 with (fail)
  generalize World.alloc w _ = w1 at *
  have b0 := cellOf (o := 0) HT0.out rfl
  have b1 := cellOf (o := 1) HT0.out rfl
  have b2 := cellOf (o := 2) HT0.out rfl
  have b3 := cellOf (o := 3) HT0.out rfl
  have l1 := lt_of_block HT0.out
  go_upto_region 2 with (go_at_call 100; refine Calls.mono (HEF.out _) ?_; rintro e w2 ⟨u, rfl, hq2, hb2⟩; obtain ⟨EA, ec, rfl, _, hri⟩ := hq2; have HRI := Lib.hid hri; have HB2 := Lib.hid (HB0.out.trans (hb2.mono HB0.out.size)); have HT2 := Lib.hid ((hb2.block _ (lt_of_block HT0.out)).trans HT0.out); clear hb2 hri b0 b1 b2 b3 l1)
  obtain ⟨E, hE⟩ : ∃ E, efL N D d k = E := ⟨_, rfl⟩
  have HE := Lib.hid hE
  rw [hE] at HRI HEL ⊢
  clear hE
  have b3 := cellOf (o := 3) HT2.out rfl
  have l1 := lt_of_block HT2.out
  have hEl := HEL.out
  rw [hEl]
  clear hEl
  go_upto_region 4 with (fail)
  clear b3 l1
  go_loopw [7, 18] (fun ul ui wr => ∃ i : Nat, i ≤ n ∧ ui = .int .i64 i ∧ OI w2.heap.size ul ((witL high S E).take i) wr ∧ Below w2.heap.size w2 wr) (fun _ ui _ => n - (intOf ui).toNat)
  case atStart => exact ⟨0, by omega, rfl, OI.nil, Below.refl _ _⟩
  case round =>
    obtain ⟨i, hi, rfl, hol, hbw⟩ := hrel
    by_cases hlt : i < n
    · have hwl : (witL high S E).length = n := by rw [witL_len high (by rw [HSL.out, HEL.out]), HSL.out]
      obtain ⟨b, off, s, rfl, hb, hsx, hc1, hc2⟩ := (HR.out.below ((HB2.out.trans (hbw.mono HB2.out.size)).mono hB)).at_ (show i < S.length by rw [HSL.out]; exact hlt)
      obtain ⟨be, oe, e, rfl, hbe, hex, hce⟩ := (HRI.out.below hbw).at_ (show i < E.length by rw [HEL.out]; exact hlt)
      have hwit := witL_get (high := high) hsx hex
      have hmore := take_more (show i < (witL high S E).length by rw [hwl]; exact hlt)
      rw [show gz (witL high S E) i = witE high s e by unfold gz; rw [hwit]; rfl] at hmore
      have HMO := Lib.hid hmore
      have hlen : ((witL high S E).take i).length ≤ 1000000 := by simp; omega
      obtain ⟨s1, s2⟩ := s
      simp only at hc1 hc2
      have hlb : b < wr.heap.size := World.block_lt_of_cell? _ _ hc1
      have hlbe : be < wr.heap.size := World.block_lt_of_cell? _ _ hce
      have HO := Lib.hid (hol.stay ((Below.refl wr.heap.size wr).alloc (Nat.le_refl _) (.cells #[.int .i64 s1, .int .i64 s2] 27)))
      have HBW := Lib.hid (hbw.alloc hbw.size (.cells #[.int .i64 s1, .int .i64 s2] 27))
      obtain ⟨p, hp⟩ : ∃ p, witE high (s1, s2) e = p := ⟨_, rfl⟩
      rw [hp] at HMO
      clear hwit hmore hsx hex hol hbw hb hbe hwl
      go_upto_region 6 with (fail)
      have hce2 := cell_keep ((Below.refl wr.heap.size wr).alloc (Nat.le_refl _) (.cells #[.int .i64 s1, .int .i64 s2] 27)) hce
      have bkq := blk_new wr (.cells #[.int .i64 s1, .int .i64 s2] 27) _ rfl
      obtain ⟨q, hq⟩ : ∃ q, wr.heap.size = q := ⟨_, rfl⟩
      rw [hq] at bkq ⊢
      clear hq hce hc1 hc2 hlb hlbe
      generalize World.alloc wr _ = wq at *
      have c90 := cellOf (o := 0) bkq rfl
      have c91 := cellOf (o := 1) bkq rfl
      have lq := lt_of_block bkq
      have lbe : be < wq.heap.size := World.block_lt_of_cell? _ _ hce2
      clear bkq
      have hway : (0 < e ∧ high = true ∧ s2 = p) ∨ (0 < e ∧ high = false ∧ s1 = p) ∨ (e < 0 ∧ high = false ∧ s2 = p) ∨ (e < 0 ∧ high = true ∧ s1 = p) ∨ (e = 0 ∧ high = true ∧ s1 = p) ∨ (e = 0 ∧ high = false ∧ s1 = p) := by
        rw [← hp]
        unfold witE
        cases high <;> by_cases h1 : 0 < e <;> by_cases h2 : e < 0 <;> simp [h1, h2] <;> omega
      clear hp
      rcases hway with ⟨h1, rfl, rfl⟩ | ⟨h1, rfl, rfl⟩ | ⟨h1, rfl, rfl⟩ | ⟨h1, rfl, rfl⟩ | ⟨h1, rfl, rfl⟩ | ⟨h1, rfl, rfl⟩
      all_goals
        try have h2 : ¬ e < 0 := by omega
        try have h3 : ¬ 0 < e := by omega
        go_wp2_with (at_builtin; refine wpList_pushJ rfl _ _ rfl _ _ rfl HO.out HBW.out _ rfl rfl rfl rfl rfl hlen ?_)
        intro v' w' hv' hb'
        have HV' := Lib.hid hv'
        have HB' := Lib.hid hb'
        clear hv' hb'
        go_wp2
        go_roundw
        case rel => exact ⟨i + 1, hlt, by go_num, by rw [← HMO.out]; exact HV'.out, HB'.out⟩
        case measure => simp [intOf] <;> omega
    · obtain rfl : i = n := by omega
      have hq := hol.qi
      rw [show (witL high S E).take i = witL high S E from List.take_of_length_le (by rw [witL_len high (by rw [HSL.out, HEL.out]), HSL.out]; exact Nat.le_refl _)] at hq
      have HQ9 := Lib.hid hq
      have HBF := Lib.hid (HB2.out.trans (hbw.mono HB2.out.size))
      clear hol hbw hq
      go_wp2
      go_ret
      exact ⟨_, rfl, by rw [HE.out]; exact HQ9.out, HBF.out⟩

set_option maxRecDepth 100000 in
set_option maxHeartbeats 2000000 in
theorem end_any (N D d : Int) (A : Option Addr) (k n c B : Nat) (S : List (Int × Int)) (high : Bool) (w : World) (hs : slB N D d = true) (hnk : n = k + 2) (hk : k ≤ 16) (hl : S.length = n) (hS : SB S) (hB : B ≤ w.heap.size) (hr : RS w B A S) :
    Calls Try.prog 65 #[.agg #[.int .i64 N, .int .i64 D, .int .i64 d, .slice A n c], .bool high] w fun e w' => e = .returned (.tuple #[.int .i64 (endN high S (efL N D d k)), .int .i64 (powI d k)]) ∧ Below w.heap.size w w' := by
  have hn18 : n ≤ 18 := by omega
  have HEL := Lib.hid (show (efL N D d k).length = n by rw [efL_len]; omega)
  have HEF := Lib.hid (fun W => effects_any N D d A k n c W hs hnk hk)
  have HWI := Lib.hid (fun (W : World) (hW : Below w.heap.size w W) => witness_any N D d A k n c w.heap.size S high W hs hnk hk hl hW.size ((hr.more hB).below hW))
  have HSL := Lib.hid hl
  have hwl : (witL high S (efL N D d k)).length = n := by rw [witL_len high (by rw [HSL.out, HEL.out]), HSL.out]
  have HWL := Lib.hid hwl
  have HPB := Lib.hid (part_bd hs (show (witL high S (efL N D d k)).length = k + 2 by rw [hwl, hnk]) hk (hS.wit high _ (by rw [efL_len, hl, hnk])))
  have HB0 := Lib.hid ((Below.refl w.heap.size w).alloc (Nat.le_refl _) (.cells #[.int .i64 N, .int .i64 D, .int .i64 d, .slice A n c] 101))
  have HT0 := Lib.hid (blk_new w (.cells #[.int .i64 N, .int .i64 D, .int .i64 d, .slice A n c] 101) _ rfl)
  clear hs hnk hr hl hS hwl
  unfold endN
  obtain ⟨E, hE⟩ : ∃ E, efL N D d k = E := ⟨_, rfl⟩
  rw [hE] at HPB HEL HWL HWI HEF ⊢
  obtain ⟨X, hX⟩ : ∃ X, witL high S E = X := ⟨_, rfl⟩
  rw [hX] at HPB HWL HWI ⊢
  clear hE hX
  go_enter Try.func65, Try.ntmps65
  go_upto_region 1 with (fail)
  generalize World.alloc w _ = w1 at *
  have b0 := cellOf (o := 0) HT0.out rfl
  have b1 := cellOf (o := 1) HT0.out rfl
  have b2 := cellOf (o := 2) HT0.out rfl
  have b3 := cellOf (o := 3) HT0.out rfl
  have l1 := lt_of_block HT0.out
  go_upto_region 2 with (go_at_call 100; refine Calls.mono (HEF.out _) ?_; rintro e w2 ⟨u, rfl, hq2, hb2⟩; obtain ⟨EA, ec, rfl, _, hri⟩ := hq2; have HRI := Lib.hid hri; have HB2 := Lib.hid (HB0.out.trans (hb2.mono HB0.out.size)); have HT2 := Lib.hid ((hb2.block _ (lt_of_block HT0.out)).trans HT0.out); clear hb2 hri b0 b1 b2 b3 l1)
  have b0 := cellOf (o := 0) HT2.out rfl
  have b1 := cellOf (o := 1) HT2.out rfl
  have b2 := cellOf (o := 2) HT2.out rfl
  have b3 := cellOf (o := 3) HT2.out rfl
  have l1 := lt_of_block HT2.out
  go_upto_region 3 with (go_at_call 67; refine Calls.mono (HWI.out _ HB2.out) ?_; rintro e w3 ⟨u, rfl, hq3, hb3⟩; obtain ⟨XA, xc, rfl, _, hri⟩ := hq3; have HRX := Lib.hid hri; have HB3 := Lib.hid (HB2.out.trans (hb3.mono HB2.out.size)); have HR3 := Lib.hid ((HRI.out.below hb3).more hb3.size); clear hb3 hri b0 b1 b2 b3 l1)
  have hXl := HWL.out
  have hEl := HEL.out
  rw [hXl, hEl]
  clear hXl hEl
  go_loopw [4, 18] (fun us ui wr => ∃ i : Nat, i ≤ n ∧ ui = .int .i64 i ∧ us = .int .i64 (dotL (X.take i) E) ∧ wr = w3) (fun _ ui _ => n - (intOf ui).toNat)
  case atStart => exact ⟨0, by omega, rfl, by rw [List.take_zero, dotL_nil], rfl⟩
  case round =>
    obtain ⟨i, hi, rfl, rfl, rfl⟩ := hrel
    by_cases hlt : i < n
    · obtain ⟨be, oe, e, rfl, hbe, hex, hce⟩ := HR3.out.at_ (show i < E.length by rw [HEL.out]; exact hlt)
      obtain ⟨bx, ox, x, rfl, hbx, hxx, hcx⟩ := HRX.out.at_ (show i < X.length by rw [HWL.out]; exact hlt)
      have hmo := dot_more X E i x e hxx hex
      have p1 := HPB.out i
      have p2 := HPB.out (i + 1)
      have HMO := Lib.hid hmo
      obtain ⟨q1, hq1⟩ : ∃ q, dotL (X.take i) E = q := ⟨_, rfl⟩
      obtain ⟨q2, hq2⟩ : ∃ q, dotL (X.take (i + 1)) E = q := ⟨_, rfl⟩
      obtain ⟨q3, hq3⟩ : ∃ q, e * x = q := ⟨_, rfl⟩
      rw [hq1, hq2, hq3] at hmo
      rw [hq1] at p1 ⊢
      rw [hq2] at p2
      have HQ2 := Lib.hid hq2
      have i1 : IntKind.i64.wrap (e * x) = q3 := by rw [hq3]; exact IntWalk.i64_in _ (by omega)
      have i2 : IntKind.i64.wrap (q1 + q3) = q2 := by rw [← hmo]; exact IntWalk.i64_in _ (by omega)
      clear hq1 hq2 hq3 hmo p1 p2 hex hxx
      go_wp2
      go_roundw
      case rel => exact ⟨i + 1, hlt, by go_num, by rw [HQ2.out], trivial⟩
      case measure => simp [intOf] <;> omega
    · obtain rfl : i = n := by omega
      have hq : dotL (X.take i) E = dotL X E := by rw [List.take_of_length_le (by rw [HWL.out]; exact Nat.le_refl _)]
      rw [hq]
      clear hq
      go_wp2
      go_ret2
      exact ⟨rfl, HB3.out⟩
end Go.Proofs.Ytnnmmojlgikdgaa

/- The reference's ends. -/
namespace Go.Proofs.Ytnnmmojlgikdgaa
open Go.RowKit

set_option maxRecDepth 100000 in
set_option maxHeartbeats 4000000 in
theorem rends7_any (N D d gl gh : Int) (Ab : Option Addr) (nb cb n B : Nat) (b : List (Int × Int)) (high : Bool) (w : World) (hs : slB N D d = true) (hn : n ≤ 16) (hb : b.length = nb) (hb2 : nb = 2) (hS : SB (b ++ List.replicate n (gl, gh))) (hB : B ≤ w.heap.size) (hr : RS w B Ab b) :
    Calls Try.prog 66 #[.agg #[.int .i64 N, .int .i64 D, .int .i64 d], .slice Ab nb cb, .agg #[.int .i64 gl, .int .i64 gh], .int .i64 n, .bool high] w fun e w' => ∃ u, e = .returned (.tuple #[u, .int .i64 (endN high (b ++ List.replicate n (gl, gh)) (efL N D d n))]) ∧ QI (witL high (b ++ List.replicate n (gl, gh)) (efL N D d n)) u w' ∧ Below w.heap.size w w' := by
  have HWE := Lib.hid (fun W => weights_any N D d n W hs hn)
  have hSl : (b ++ List.replicate n (gl, gh)).length = n + 2 := by simp; omega
  have hEl := efL_len N D d n
  have hwl : (witL high (b ++ List.replicate n (gl, gh)) (efL N D d n)).length = n + 2 := by rw [witL_len high (by rw [hSl, hEl]), hSl]
  have HPB := Lib.hid (part_bd hs hwl hn (hS.wit high _ (by rw [hSl, hEl])))
  have HSg := Lib.hid (fun (i : Nat) (h : i < 2) => show (b ++ List.replicate n (gl, gh))[i]? = b[i]? from List.getElem?_append_left (by omega))
  have HSr := Lib.hid (fun (i : Nat) (h : 2 ≤ i) (h' : i < n + 2) => show (b ++ List.replicate n (gl, gh))[i]? = some (gl, gh) by rw [List.getElem?_append_right (by omega), List.getElem?_replicate, if_pos (by omega)])
  have HR := Lib.hid (fun (W : World) (hW : Below w.heap.size w W) => (hr.more hB).below hW)
  have HBL := Lib.hid (show b.length = 2 by omega)
  have HB2 := Lib.hid hb2
  have HB0 := Lib.hid (((Below.refl w.heap.size w).alloc (Nat.le_refl _) (.cells #[.int .i64 N, .int .i64 D, .int .i64 d] 23)).alloc (by simp) (.cells #[.int .i64 gl, .int .i64 gh] 27))
  have HT0 := Lib.hid (blk_old (.cells #[.int .i64 gl, .int .i64 gh] 27) (blk_new w (.cells #[.int .i64 N, .int .i64 D, .int .i64 d] 23) _ rfl))
  have HG0 := Lib.hid (blk_new (w.alloc (.cells #[.int .i64 N, .int .i64 D, .int .i64 d] 23)) (.cells #[.int .i64 gl, .int .i64 gh] 27) (w.heap.size + 1) (by simp))
  unfold endN
  obtain ⟨E, hE⟩ : ∃ E, efL N D d n = E := ⟨_, rfl⟩
  obtain ⟨S, hS9⟩ : ∃ S, b ++ List.replicate n (gl, gh) = S := ⟨_, rfl⟩
  rw [hE] at HWE HPB hEl hwl ⊢
  rw [hS9] at HPB HSg HSr hwl hSl ⊢
  obtain ⟨X, hX⟩ : ∃ X, witL high S E = X := ⟨_, rfl⟩
  have HX := Lib.hid hX
  rw [hX] at HPB hwl ⊢
  have HSL := Lib.hid hSl
  have HEL := Lib.hid hEl
  have HWL := Lib.hid hwl
  clear hE hS9 hX hSl hEl hwl hs hS hr hb hb2
  go_enter Try.func66, Try.ntmps66
  go_upto_region 1 with (fail)
  generalize World.alloc _ _ = w1 at *
  have b0 := cellOf (o := 0) HT0.out rfl
  have b1 := cellOf (o := 1) HT0.out rfl
  have b2 := cellOf (o := 2) HT0.out rfl
  have l1 := lt_of_block HT0.out
  go_upto_region 5 with (go_at_call 101; refine Calls.mono (HWE.out _) ?_; rintro e w2 ⟨u, rfl, hq2, hb2⟩; obtain ⟨EA, ec, rfl, _, hri⟩ := hq2; have HRI := Lib.hid hri; have HB2w := Lib.hid (HB0.out.trans (hb2.mono HB0.out.size)); have HG2 := Lib.hid ((hb2.block _ (lt_of_block HG0.out)).trans HG0.out); clear hb2 hri b0 b1 b2 l1)
  rw [HEL.out]
  go_loopw [13, 14, 15] (fun ul us ui wr => ∃ i : Nat, i ≤ n + 2 ∧ ui = .int .i64 i ∧ OI w2.heap.size ul (X.take i) wr ∧ us = .int .i64 (dotL (X.take i) E) ∧ Below w2.heap.size w2 wr) (fun _ _ ui _ => n + 2 - (intOf ui).toNat)
  case atStart => exact ⟨0, by omega, rfl, OI.nil, by rw [List.take_zero, dotL_nil], Below.refl _ _⟩
  case round =>
    obtain ⟨i, hi, rfl, hol, rfl, hbw⟩ := hrel
    have HOL := Lib.hid hol
    have HBW := Lib.hid hbw
    by_cases hlt : i < n + 2
    · have hlti : (i : Int) < (n : Int) + 2 := by omega
      obtain ⟨be, oe, e, rfl, hbe, hex, hce⟩ := HRI.out.at_ (show i < E.length by rw [HEL.out]; exact hlt)
      have hsx : ∃ s, S[i]? = some s := ⟨_, List.getElem?_eq_getElem (show i < S.length by rw [HSL.out]; exact hlt)⟩
      obtain ⟨⟨s1, s2⟩, hsx⟩ := hsx
      have hwit := witL_get (high := high) hsx hex
      rw [HX.out] at hwit
      have hmore := take_more (show i < X.length by rw [HWL.out]; exact hlt)
      rw [show gz X i = witE high (s1, s2) e by unfold gz; rw [hwit]; rfl] at hmore
      have hmo := dot_more X E i _ e hwit hex
      have p1 := HPB.out i
      have p2 := HPB.out (i + 1)
      obtain ⟨p, hp⟩ : ∃ p, witE high (s1, s2) e = p := ⟨_, rfl⟩
      rw [hp] at hmore hmo
      have HMO := Lib.hid hmore
      obtain ⟨q1, hq1⟩ : ∃ q, dotL (X.take i) E = q := ⟨_, rfl⟩
      obtain ⟨q2, hq2⟩ : ∃ q, dotL (X.take (i + 1)) E = q := ⟨_, rfl⟩
      obtain ⟨q3, hq3⟩ : ∃ q, e * p = q := ⟨_, rfl⟩
      rw [hq1, hq2, hq3] at hmo
      rw [hq1] at p1 ⊢
      rw [hq2] at p2
      have HQ2 := Lib.hid hq2
      have i1 : IntKind.i64.wrap (e * p) = q3 := by rw [hq3]; exact IntWalk.i64_in _ (by omega)
      have i2 : IntKind.i64.wrap (q1 + q3) = q2 := by rw [← hmo]; exact IntWalk.i64_in _ (by omega)
      have hlen : (X.take i).length ≤ 1000000 := by simp; omega
      have HCE := Lib.hid hce
      have HGW := Lib.hid ((hbw.block _ (lt_of_block HG2.out)).trans HG2.out)
      have hway : (0 < e ∧ high = true ∧ s2 = p) ∨ (0 < e ∧ high = false ∧ s1 = p) ∨ (e < 0 ∧ high = false ∧ s2 = p) ∨ (e < 0 ∧ high = true ∧ s1 = p) ∨ (e = 0 ∧ high = true ∧ s1 = p) ∨ (e = 0 ∧ high = false ∧ s1 = p) := by
        rw [← hp]
        unfold witE
        cases high <;> by_cases h1 : 0 < e <;> by_cases h2 : e < 0 <;> simp [h1, h2] <;> omega
      have g0 := cellOf (o := 0) HGW.out rfl
      have g1 := cellOf (o := 1) HGW.out rfl
      have lg := lt_of_block HGW.out
      clear hp hq1 hq2 hq3 hmo p1 p2 hwit hmore hex hol hbw hbe hce
      have HWAY := Lib.hid hway
      clear hway
      by_cases hi2 : i < 2
      · obtain ⟨bb, off, s, rfl, hbb, hbx, hc1, hc2⟩ := (HR.out wr (HB2w.out.trans (HBW.out.mono HB2w.out.size))).at_ (show i < b.length by rw [HBL.out]; exact hi2)
        have he := HSg.out i hi2
        rw [hsx, hbx] at he
        injection he with he
        subst he
        simp only at hc1 hc2
        have hlb : bb < wr.heap.size := World.block_lt_of_cell? _ _ hc1
        have hi2i : (i : Int) < 2 := by omega
        have hi2n : (i : Int) < (nb : Int) := by have := HB2.out; omega
        have hi2nn : i < nb := by have := HB2.out; omega
        clear hsx hbx hbb
        go_upto_region 10 with (fail)
        have hway := HWAY.out
        have bkq := blk_new wr (.cells #[.int .i64 s1, .int .i64 s2] 27) _ rfl
        have HBA := Lib.hid ((Below.refl wr.heap.size wr).alloc (Nat.le_refl _) (.cells #[.int .i64 s1, .int .i64 s2] 27))
        obtain ⟨q, hq⟩ : ∃ q, wr.heap.size = q := ⟨_, rfl⟩
        rw [hq] at bkq ⊢
        clear hq
        clear g0 g1 lg hc1 hc2 hlb hi2i hi2n hi2nn HWAY
        generalize World.alloc wr _ = wq at *
        have HOQ := Lib.hid (HOL.out.stay HBA.out)
        have HBQ := Lib.hid (HBW.out.trans (HBA.out.mono HBW.out.size))
        have hceq := cell_keep HBQ.out HCE.out
        have c90 := cellOf (o := 0) bkq rfl
        have c91 := cellOf (o := 1) bkq rfl
        have lq := lt_of_block bkq
        have lbe : be < wq.heap.size := World.block_lt_of_cell? _ _ hceq
        clear bkq
        rcases hway with ⟨h1, rfl, rfl⟩ | ⟨h1, rfl, rfl⟩ | ⟨h1, rfl, rfl⟩ | ⟨h1, rfl, rfl⟩ | ⟨h1, rfl, rfl⟩ | ⟨h1, rfl, rfl⟩
        all_goals
          try have h2 : ¬ e < 0 := by omega
          try have h3 : ¬ 0 < e := by omega
          first
            | (have h9 : e = 0 := h1; clear h9 h1)
            | skip
          go_wp2_with (at_builtin; refine wpList_pushJ rfl _ _ rfl _ _ rfl HOQ.out HBQ.out _ rfl rfl rfl rfl rfl hlen ?_; intro v' w' hv' hb'; have HV' := Lib.hid hv'; have HB' := Lib.hid hb'; have hcw := cell_keep hb' HCE.out; have lbw : be < w'.heap.size := World.block_lt_of_cell? _ _ hcw; clear hv' hb' hceq c90 c91 lq lbe)
          go_roundw
          case rel => exact ⟨i + 1, hlt, by go_num, by rw [← HMO.out]; exact HV'.out, by rw [HQ2.out], HB'.out⟩
          case measure => simp [intOf] <;> omega
      · have he := HSr.out i (by omega) hlt
        rw [hsx] at he
        injection he with he
        injection he with e1 e2
        subst e1 e2
        have hi2i : ¬ ((i : Int) < 2) := by omega
        clear hsx
        go_upto_region 10 with (fail)
        have hway := HWAY.out
        have bkq := blk_new wr (.cells #[.int .i64 s1, .int .i64 s2] 27) _ rfl
        have HBA := Lib.hid ((Below.refl wr.heap.size wr).alloc (Nat.le_refl _) (.cells #[.int .i64 s1, .int .i64 s2] 27))
        obtain ⟨q, hq⟩ : ∃ q, wr.heap.size = q := ⟨_, rfl⟩
        rw [hq] at bkq ⊢
        clear hq
        clear g0 g1 lg hi2i HWAY
        generalize World.alloc wr _ = wq at *
        have HOQ := Lib.hid (HOL.out.stay HBA.out)
        have HBQ := Lib.hid (HBW.out.trans (HBA.out.mono HBW.out.size))
        have hceq := cell_keep HBQ.out HCE.out
        have c90 := cellOf (o := 0) bkq rfl
        have c91 := cellOf (o := 1) bkq rfl
        have lq := lt_of_block bkq
        have lbe : be < wq.heap.size := World.block_lt_of_cell? _ _ hceq
        clear bkq
        rcases hway with ⟨h1, rfl, rfl⟩ | ⟨h1, rfl, rfl⟩ | ⟨h1, rfl, rfl⟩ | ⟨h1, rfl, rfl⟩ | ⟨h1, rfl, rfl⟩ | ⟨h1, rfl, rfl⟩
        all_goals
          try have h2 : ¬ e < 0 := by omega
          try have h3 : ¬ 0 < e := by omega
          first
            | (have h9 : e = 0 := h1; clear h9 h1)
            | skip
          go_wp2_with (at_builtin; refine wpList_pushJ rfl _ _ rfl _ _ rfl HOQ.out HBQ.out _ rfl rfl rfl rfl rfl hlen ?_; intro v' w' hv' hb'; have HV' := Lib.hid hv'; have HB' := Lib.hid hb'; have hcw := cell_keep hb' HCE.out; have lbw : be < w'.heap.size := World.block_lt_of_cell? _ _ hcw; clear hv' hb' hceq c90 c91 lq lbe)
          go_roundw
          case rel => exact ⟨i + 1, hlt, by go_num, by rw [← HMO.out]; exact HV'.out, by rw [HQ2.out], HB'.out⟩
          case measure => simp [intOf] <;> omega
    · obtain rfl : i = n + 2 := by omega
      have hq := hol.qi
      rw [show X.take (n + 2) = X from List.take_of_length_le (by rw [HWL.out]; exact Nat.le_refl _)] at hq ⊢
      have HQ9 := Lib.hid hq
      have HBF := Lib.hid (HB2w.out.trans (hbw.mono HB2w.out.size))
      have hlti : ¬ ((n : Int) + 2 < (n : Int) + 2) := by omega
      clear hol hbw hq hlt
      go_wp2
      go_ret2
      exact ⟨_, rfl, HQ9.out, HBF.out⟩
end Go.Proofs.Ytnnmmojlgikdgaa

/- Plain mathematics: is a limit kept? -/
namespace Go.Proofs.Ytnnmmojlgikdgaa

def inF (lo hi num den : Int) : Bool := decide (lo * den ≤ num) && decide (num ≤ hi * den)
def kpB (N D d : Int) (S : List (Int × Int)) (lo hi : Int) (t : Nat) : Bool :=
  inF lo hi (endN false (S.take (t + 2)) (efL N D d t)) (powI d t) && inF lo hi (endN true (S.take (t + 2)) (efL N D d t)) (powI d t)
/-- The first number from i on that has not the property, at most f further. -/
def stF (p : Nat → Bool) : Nat → Nat → Nat
  | i, 0 => i
  | i, f + 1 => if p i then stF p (i + 1) f else i
theorem stF_bd (p : Nat → Bool) : ∀ f i, i ≤ stF p i f ∧ stF p i f ≤ i + f
  | 0, i => ⟨Nat.le_refl _, Nat.le_refl _⟩
  | f + 1, i => by
    unfold stF
    split
    · have := stF_bd p f (i + 1); omega
    · omega
theorem stF_spec (p : Nat → Bool) : ∀ f i, (∀ j, i ≤ j → j < stF p i f → p j = true) ∧ (stF p i f < i + f → p (stF p i f) = false)
  | 0, i => ⟨fun j h1 h2 => by simp [stF] at h2; omega, fun h => by simp [stF] at h⟩
  | f + 1, i => by
    unfold stF
    cases hp : p i with
    | true =>
      obtain ⟨a, b⟩ := stF_spec p f (i + 1)
      refine ⟨fun j h1 h2 => ?_, fun h => b (by simp at h; omega)⟩
      by_cases e : j = i
      · subst e; exact hp
      · exact a j (by omega) (by simpa using h2)
    | false => exact ⟨fun j h1 h2 => by simp at h2; omega, fun _ => by simpa using hp⟩
theorem stF_step {p : Nat → Bool} {i f : Nat} (h : p i = true) : stF p i (f + 1) = stF p (i + 1) f := by
  show (if p i then stF p (i + 1) f else i) = _
  rw [if_pos h]
theorem stF_stop {p : Nat → Bool} {i f : Nat} (h : p i = false) : stF p i (f + 1) = i := by
  show (if p i then stF p (i + 1) f else i) = _
  rw [h]
  rfl
def keN (N D d : Int) (S : List (Int × Int)) (lo hi : Int) (k : Nat) : Int × Bool :=
  if stF (kpB N D d S lo hi) 0 (k + 1) ≤ k then (stF (kpB N D d S lo hi) 0 (k + 1), false) else (0, true)
end Go.Proofs.Ytnnmmojlgikdgaa

/- The sets of a swing: until, keeps. -/
namespace Go.Proofs.Ytnnmmojlgikdgaa
open Go.RowKit

set_option maxRecDepth 100000 in
set_option maxHeartbeats 1000000 in
theorem until_any (N D d : Int) (A : Option Addr) (n c t : Nat) (w : World) (ht : t + 2 ≤ c) (hc : t ≤ 1000) :
    Calls Try.prog 103 #[.agg #[.int .i64 N, .int .i64 D, .int .i64 d, .slice A n c], .int .i64 t] w fun e w' => e = .returned (.agg #[.int .i64 N, .int .i64 D, .int .i64 d, .slice A (t + 2 : Nat) c]) ∧ Below w.heap.size w w' := by
  have HT0 := Lib.hid (blk_old (.cells #[.int .i64 0, .int .i64 0, .int .i64 0, .slice none 0 0] 101) (blk_new w (.cells #[.int .i64 N, .int .i64 D, .int .i64 d, .slice A n c] 101) _ rfl))
  have HR0 := Lib.hid (blk_new (w.alloc (.cells #[.int .i64 N, .int .i64 D, .int .i64 d, .slice A n c] 101)) (.cells #[.int .i64 0, .int .i64 0, .int .i64 0, .slice none 0 0] 101) (w.heap.size + 1) (by simp))
  have HB0 := Lib.hid (((Below.refl w.heap.size w).alloc (Nat.le_refl _) (.cells #[.int .i64 N, .int .i64 D, .int .i64 d, .slice A n c] 101)).alloc (by simp) (.cells #[.int .i64 0, .int .i64 0, .int .i64 0, .slice none 0 0] 101))
  have i1 : IntKind.i64.wrap ((t : Int) + 2) = (t : Int) + 2 := IntWalk.i64_in _ (by omega)
  have h2 : (t : Int) + 2 ≤ (c : Int) := by omega
  have h3 : (0 : Int) ≤ (t : Int) + 2 := by omega
  have h4 : ((t : Int) + 2).toNat = t + 2 := by omega
  have HM := Lib.hid (map_add0 A c 2)
  go_enter Try.func103, Try.ntmps103
  go_upto_region 1 with (fail)
  generalize World.alloc _ _ = w1 at *
  have b0 := cellOf (o := 0) HT0.out rfl
  have b1 := cellOf (o := 1) HT0.out rfl
  have b2 := cellOf (o := 2) HT0.out rfl
  have b3 := cellOf (o := 3) HT0.out rfl
  have l1 := lt_of_block HT0.out
  have bk0 := HR0.out
  obtain ⟨Q, hQ⟩ : ∃ q9 : Nat → Value → World → Prop, q9 = QG [some (.pointer (some ⟨w.heap.size, 0, none⟩)), some (.agg #[.int .i64 N, .int .i64 D, .int .i64 d]), some (.pointer (some ⟨w.heap.size, 3, none⟩)), some (.slice A n c), some (.int .i64 ((t : Int))), some (.int .i64 (((t : Int) + 2))), some (.slice A (t + 2) c), some (.agg #[.int .i64 N, .int .i64 D, .int .i64 d, .slice A (t + 2) c]), none] (fun _ _ _ => True) := ⟨_, rfl⟩
  have hst : Stays Q := by rw [hQ]; exact QG.stays (fun _ _ _ _ _ _ => trivial)
  have HQ := Lib.hid hQ
  clear hQ
  obtain ⟨fX, hfX⟩ : ∃ f9 : World → World, f9 = (fun y => ((((y.setCell ⟨w.heap.size + 1, 0, none⟩ (.int .i64 N)).setCell ⟨w.heap.size + 1, 1, none⟩ (.int .i64 D)).setCell ⟨w.heap.size + 1, 2, none⟩ (.int .i64 d)).setCell ⟨w.heap.size + 1, 3, none⟩ (.slice A (t + 2) c))) := ⟨_, rfl⟩
  have HfX := Lib.hid hfX
  clear hfX
  refine wpIn_wide.1 (region_inv2 (n := 9) (by kernel_rfl) (RT Q w1 8 fX) (by kernel_rfl) rfl (RT.start _ _ _ _ _) ?hstep ?hend)
  case hstep =>
    intro i' o ho val L b' x hF hR hpre hl
    match i', ho with
    | 0, ho =>
      simp at ho; subst ho; refine step_plain rfl ?_; have hN := hF.later hl 8 rfl (e := ⟨0, .phase⟩) (by simp) rfl rfl
      have hR := hR.1 hN
      have e2 := hF.was 2 (by kernel_rfl) rfl; have hgoal := RT.go (f := fX) hR hst HQ 0 rfl (by decide) hN; clear hF hpre hl hR hN; go_simp; exact ⟨_, rfl, hgoal _ _ (Below.refl _ _) rfl⟩
    | 1, ho =>
      simp at ho; subst ho; refine step_plain rfl ?_; have hN := hF.later hl 8 rfl (e := ⟨1, .phase⟩) (by simp) rfl rfl
      have hR := hR.1 hN
      have e5 := hF.gv hR.2 HQ 0 rfl (hpre ⟨0, .data⟩ (by simp) rfl) rfl; have hgoal := RT.go (f := fX) hR hst HQ 1 rfl (by decide) hN; have q0 := cell_keep hR.1 b0; have q1 := cell_keep hR.1 b1; have q2 := cell_keep hR.1 b2; clear hF hpre hl hR hN; go_simp; exact ⟨_, rfl, hgoal _ _ (Below.refl _ _) rfl⟩
    | 2, ho =>
      simp at ho; subst ho; refine step_plain rfl ?_; have hN := hF.later hl 8 rfl (e := ⟨2, .phase⟩) (by simp) rfl rfl
      have hR := hR.1 hN
      have e2 := hF.was 2 (by kernel_rfl) rfl; have hgoal := RT.go (f := fX) hR hst HQ 2 rfl (by decide) hN; clear hF hpre hl hR hN; go_simp; exact ⟨_, rfl, hgoal _ _ (Below.refl _ _) rfl⟩
    | 3, ho =>
      simp at ho; subst ho; refine step_plain rfl ?_; have hN := hF.later hl 8 rfl (e := ⟨3, .phase⟩) (by simp) rfl rfl
      have hR := hR.1 hN
      have e7 := hF.gv hR.2 HQ 2 rfl (hpre ⟨2, .data⟩ (by simp) rfl) rfl; have hgoal := RT.go (f := fX) hR hst HQ 3 rfl (by decide) hN; have q0 := cell_keep hR.1 b3; clear hF hpre hl hR hN; go_simp; exact ⟨_, rfl, hgoal _ _ (Below.refl _ _) rfl⟩
    | 4, ho =>
      simp at ho; subst ho; refine step_plain rfl ?_; have hN := hF.later hl 8 rfl (e := ⟨4, .phase⟩) (by simp) rfl rfl
      have hR := hR.1 hN
      have e1 := hF.was 1 (by kernel_rfl) rfl; have hgoal := RT.go (f := fX) hR hst HQ 4 rfl (by decide) hN; clear hF hpre hl hR hN; go_simp; exact ⟨_, rfl, hgoal _ _ (Below.refl _ _) rfl⟩
    | 5, ho =>
      simp at ho; subst ho; refine step_plain rfl ?_; have hN := hF.later hl 8 rfl (e := ⟨5, .phase⟩) (by simp) rfl rfl
      have hR := hR.1 hN
      have e9 := hF.gv hR.2 HQ 4 rfl (hpre ⟨4, .data⟩ (by simp) rfl) rfl; have hgoal := RT.go (f := fX) hR hst HQ 5 rfl (by decide) hN; clear hF hpre hl hR hN; go_simp; exact ⟨_, rfl, hgoal _ _ (Below.refl _ _) rfl⟩
    | 6, ho =>
      simp at ho; subst ho; refine step_plain rfl ?_; have hN := hF.later hl 8 rfl (e := ⟨6, .phase⟩) (by simp) rfl rfl
      have hR := hR.1 hN
      have e8 := hF.gv hR.2 HQ 3 rfl (hpre ⟨3, .data⟩ (by simp) rfl) rfl; have e10 := hF.gv hR.2 HQ 5 rfl (hpre ⟨5, .data⟩ (by simp) rfl) rfl; have hgoal := RT.go (f := fX) hR hst HQ 6 rfl (by decide) hN
      have hM := Lib.hid hR.1
      clear hF hpre hl hR hN
      have hm0 := HM.out
      go_simp; exact ⟨_, rfl, hgoal _ _ (Below.refl _ _) (by simp)⟩
    | 7, ho =>
      simp at ho; subst ho; refine step_plain rfl ?_; have hN := hF.later hl 8 rfl (e := ⟨7, .data⟩) (by simp) rfl rfl
      have hR := hR.1 hN
      have e6 := hF.gv hR.2 HQ 1 rfl (hpre ⟨1, .data⟩ (by simp) rfl) rfl; have e11 := hF.gv hR.2 HQ 6 rfl (hpre ⟨6, .data⟩ (by simp) rfl) rfl; have hgoal := RT.go (f := fX) hR hst HQ 7 rfl (by decide) hN; clear hF hpre hl hR hN; go_simp; exact ⟨_, rfl, hgoal _ _ (Below.refl _ _) rfl⟩
    | 8, ho =>
      simp at ho; subst ho; refine step_plain rfl ?_; have hN := hF.none2 hl (by decide)
      have hls : 8 < L.size := by rw [hF.lsize]; decide
      have hR := hR.1 hN
      have e4 := hF.was 4 (by kernel_rfl) rfl; have e12 := hF.gv hR.2 HQ 7 rfl (hpre ⟨7, .data⟩ (by simp) rfl) rfl
      have qb := (hR.1.block (w.heap.size + 1) (lt_of_block bk0)).trans bk0
      have g0 := cellOf (o := 0) qb rfl; have f0 := freeOf (o := 0) qb; have g1 := cellOf (o := 1) qb rfl; have f1 := freeOf (o := 1) qb; have g2 := cellOf (o := 2) qb rfl; have f2 := freeOf (o := 2) qb; have g3 := cellOf (o := 3) qb rfl; have f3 := freeOf (o := 3) qb; have hgoal := RT.store (f := fX) (v := undef) hR hls
      have hq := lt_of_block qb
      have HG := Lib.hid hgoal
      clear hF hpre hl hR hls hN qb hgoal; go_simp
      exact ⟨undef, by have h9 := HG.out; rw [HfX.out] at h9 ⊢; exact h9⟩
    | i + 9, ho => simp at ho
  case hend =>
    intro val L b' x hF hall hR
    have e := hF.all (by kernel_rfl) hall
    obtain ⟨y, hy, ey, hq⟩ := hR.done (hall 8 (by decide))
    rw [HfX.out] at ey; dsimp only at ey
    have bk := (block_setCell (o := 3) (.slice A (t + 2) c) (block_setCell (o := 2) (.int .i64 d) (block_setCell (o := 1) (.int .i64 D) (block_setCell (o := 0) (.int .i64 N) ((hy.block (w.heap.size + 1) (lt_of_block bk0)).trans bk0)))))
    rw [← ey] at bk
    have hX := Lib.hid (fun n9 w9 (h9 : Below n9 w9 w1) (hn9 : n9 ≤ w.heap.size + 1) => show Below n9 w9 x by rw [ey]; exact (((((h9.trans (hy.mono (by have := lt_of_block bk0; omega))).setCell (p := ⟨w.heap.size + 1, 0, none⟩) hn9 (.int .i64 N)).setCell (p := ⟨w.heap.size + 1, 1, none⟩) hn9 (.int .i64 D)).setCell (p := ⟨w.heap.size + 1, 2, none⟩) hn9 (.int .i64 d)).setCell (p := ⟨w.heap.size + 1, 3, none⟩) hn9 (.slice A (t + 2) c)))
    clear hF hall hR hst HfX hq hy ey HQ 
    subst e
    simp [final, dstOf, List.range, List.range.loop]
    have y0 := cellOf (o := 0) bk rfl
    have y1 := cellOf (o := 1) bk rfl
    have y2 := cellOf (o := 2) bk rfl
    have y3 := cellOf (o := 3) bk rfl
    have HB4 := Lib.hid (hX.out _ _ HB0.out (by omega))
    clear bk hX
    go_wp2
    exact bodyPost_ret (v := .agg #[.int .i64 N, .int .i64 D, .int .i64 d, .slice A (t + 2) c]) (by simp [results, Try.results103, go_sem, y0, y1, y2, y3]) rfl ⟨rfl, HB4.out⟩

set_option maxRecDepth 100000 in
set_option maxHeartbeats 2000000 in
theorem keeps_any (N D d lo hi : Int) (A : Option Addr) (k n c B : Nat) (S : List (Int × Int)) (w : World) (hs : slB N D d = true) (hv : vS (lo, hi) = true) (hnk : n = k + 2) (hk : k ≤ 16) (hl : S.length = n) (hc : n ≤ c) (hS : SB S) (hB : B ≤ w.heap.size) (hr : RS w B A S) :
    Calls Try.prog 68 #[.agg #[.int .i64 N, .int .i64 D, .int .i64 d, .slice A n c], .agg #[.int .i64 lo, .int .i64 hi]] w fun e w' => e = .returned (.tuple #[.int .i64 (keN N D d S lo hi k).1, .bool (keN N D d S lo hi k).2]) ∧ Below w.heap.size w w' := by
  have hn18 : n ≤ 18 := by omega
  obtain ⟨⟨d1, d2⟩, _, _⟩ := slB_get hs
  have HTK := Lib.hid (fun W => ticks_any N D d A n c W (by unfold maxLen; omega))
  have HUN := Lib.hid (fun (t : Nat) (h : t ≤ k) (W : World) => until_any N D d A n c t W (by omega) (by omega))
  have HEN := Lib.hid (fun (t : Nat) (h : t ≤ k) (high : Bool) (W : World) (hW : Below w.heap.size w W) => end_any N D d A t (t + 2) c w.heap.size (S.take (t + 2)) high W hs rfl (by omega) (by simp; omega) (hS.take _) hW.size (fun hp => by
    obtain ⟨b, off, e1, e2, e3⟩ := ((hr.more hB).below hW) (by simp at hp; omega)
    exact ⟨b, off, e1, e2, fun j p hj => e3 j p (by rw [List.getElem?_take] at hj; split at hj; exact hj; cases hj)⟩))
  have HPW := Lib.hid (fun (t : Nat) (h : t ≤ k) => And.intro (powI_bd d1 d2 t).1 (Int.le_trans ((powI_bd d1 d2 t).2 (by omega)) (powI_4 (show t ≤ 16 by omega))))
  have HIN := Lib.hid (fun (num den : Int) (hd : 1 ≤ den ∧ den ≤ 4294967296) (W : World) (g : Nat) (hg : g < W.heap.size) (h : RS W (g + 1) (some ⟨g, 0, none⟩) [(lo, hi)]) => inside1_any num den lo hi (some ⟨g, 0, none⟩) 1 (g + 1) W hv hd hg h)
  have HKP := Lib.hid (fun (t : Nat) => show kpB N D d S lo hi t = (inF lo hi (endN false (S.take (t + 2)) (efL N D d t)) (powI d t) && inF lo hi (endN true (S.take (t + 2)) (efL N D d t)) (powI d t)) from rfl)
  have HS0 := Lib.hid (((Below.refl w.heap.size w).alloc (Nat.le_refl _) (.cells #[.int .i64 N, .int .i64 D, .int .i64 d, .slice A n c] 101)).alloc (by simp) (.cells #[.int .i64 lo, .int .i64 hi] 27))
  have HT0 := Lib.hid (blk_old (.cells #[.int .i64 lo, .int .i64 hi] 27) (blk_new w (.cells #[.int .i64 N, .int .i64 D, .int .i64 d, .slice A n c] 101) _ rfl))
  have HL0 := Lib.hid (blk_new (w.alloc (.cells #[.int .i64 N, .int .i64 D, .int .i64 d, .slice A n c] 101)) (.cells #[.int .i64 lo, .int .i64 hi] 27) (w.heap.size + 1) (by simp))
  obtain ⟨P, hP⟩ : ∃ P, kpB N D d S lo hi = P := ⟨_, rfl⟩
  have hr9 : keN N D d S lo hi k = if stF P 0 (k + 1) ≤ k then ((stF P 0 (k + 1) : Int), false) else (0, true) := by unfold keN; rw [hP]
  rw [hP] at HKP
  generalize keN N D d S lo hi k = r9 at *
  obtain ⟨rt, ri⟩ := r9
  simp only
  have HR9 := Lib.hid hr9
  have i0 : IntKind.i64.wrap ((n : Int) - 2 + 1) = ((k + 1 : Nat) : Int) := by rw [hnk, show ((k + 2 : Nat) : Int) - 2 + 1 = ((k + 1 : Nat) : Int) by omega]; exact IntWalk.i64_in _ (by omega)
  clear hs hv hl hS hr hP hr9 d1 d2 hnk
  go_enter Try.func68, Try.ntmps68
  go_upto_region 1 with (fail)
  generalize World.alloc _ _ = w1 at *
  have b0 := cellOf (o := 0) HT0.out rfl
  have b1 := cellOf (o := 1) HT0.out rfl
  have b2 := cellOf (o := 2) HT0.out rfl
  have b3 := cellOf (o := 3) HT0.out rfl
  have l1 := lt_of_block HT0.out
  go_upto_region 2 with (go_at_call 102; refine Calls.mono (HTK.out _) ?_; rintro e w2 ⟨rfl, hb2⟩; have HB2 := Lib.hid (HS0.out.trans (hb2.mono HS0.out.size)); have HT2 := Lib.hid ((hb2.block _ (lt_of_block HT0.out)).trans HT0.out); have HL2 := Lib.hid ((hb2.block _ (lt_of_block HL0.out)).trans HL0.out); clear hb2 b0 b1 b2 b3 l1)
  clear i0
  go_loopw [15] (fun ui wr => ∃ t : Nat, t ≤ k + 1 ∧ ui = .int .i64 t ∧ stF P 0 (k + 1) = stF P t (k + 1 - t) ∧ Below w2.heap.size w2 wr) (fun ui _ => k + 1 - (intOf ui).toNat)
  case atStart => exact ⟨0, by omega, rfl, rfl, Below.refl _ _⟩
  case round =>
    obtain ⟨t, ht, rfl, hst, hbw⟩ := hrel
    have HST := Lib.hid hst
    have HBW := Lib.hid hbw
    have HTW := Lib.hid ((hbw.block _ (lt_of_block HT2.out)).trans HT2.out)
    have HLW := Lib.hid ((hbw.block _ (lt_of_block HL2.out)).trans HL2.out)
    have HBB := Lib.hid (HB2.out.trans (hbw.mono HB2.out.size))
    clear hst hbw
    by_cases hlt : t < k + 1
    · have htk : t ≤ k := by omega
      have hlti : (t : Int) < ((k + 1 : Nat) : Int) := by omega
      have hkp := HKP.out t
      have hen0 := HEN.out t htk false
      have hen1 := HEN.out t htk true
      have hpw := HPW.out t htk
      obtain ⟨lw, hlw⟩ : ∃ z, endN false (S.take (t + 2)) (efL N D d t) = z := ⟨_, rfl⟩
      obtain ⟨hw, hhw⟩ : ∃ z, endN true (S.take (t + 2)) (efL N D d t) = z := ⟨_, rfl⟩
      obtain ⟨dn, hdn⟩ : ∃ z, powI d t = z := ⟨_, rfl⟩
      rw [hlw, hdn] at hen0
      rw [hhw, hdn] at hen1
      rw [hlw, hhw, hdn] at hkp
      rw [hdn] at hpw
      have HE0 := Lib.hid hen0
      have HE1 := Lib.hid hen1
      have HI0 := Lib.hid (HIN.out lw dn hpw)
      have HI1 := Lib.hid (HIN.out hw dn hpw)
      clear hlw hhw hdn hen0 hen1 hpw
      have S0 := cellOf (o := 0) HTW.out rfl
      have S1 := cellOf (o := 1) HTW.out rfl
      have S2 := cellOf (o := 2) HTW.out rfl
      have S3 := cellOf (o := 3) HTW.out rfl
      have l1 := lt_of_block HTW.out
      go_upto_region 5 with (go_at_call 103; refine Calls.mono (HUN.out t htk _) ?_; rintro e w3 ⟨rfl, hb3⟩; have HB3 := Lib.hid (HBW.out.trans (hb3.mono HBW.out.size)); have HL3 := Lib.hid ((hb3.block _ (lt_of_block HLW.out)).trans HLW.out); clear hb3 S0 S1 S2 S3 l1)
      have HB4 := Lib.hid (HB3.out.alloc HB3.out.size (.cells #[.int .i64 N, .int .i64 D, .int .i64 d, .slice A (t + 2) c] 101))
      have HL4 := Lib.hid (blk_old (.cells #[.int .i64 N, .int .i64 D, .int .i64 d, .slice A (t + 2) c] 101) HL3.out)
      have bq := blk_new w3 (.cells #[.int .i64 N, .int .i64 D, .int .i64 d, .slice A (t + 2) c] 101) _ rfl
      obtain ⟨q, hq⟩ : ∃ q, w3.heap.size = q := ⟨_, rfl⟩
      rw [hq] at bq ⊢
      clear hq
      generalize World.alloc w3 _ = w4 at *
      have HQ4 := Lib.hid bq
      have S0 := cellOf (o := 0) bq rfl
      have S1 := cellOf (o := 1) bq rfl
      have S2 := cellOf (o := 2) bq rfl
      have S3 := cellOf (o := 3) bq rfl
      have lq := lt_of_block bq
      clear bq
      go_upto_region 6 with (go_at_call 65; refine Calls.mono (HE0.out _ (HB2.out.trans (HB4.out.mono HB2.out.size))) ?_; rintro e w5 ⟨rfl, hb5⟩; have HB5 := Lib.hid (HB4.out.trans (hb5.mono HB4.out.size)); have HL5 := Lib.hid ((hb5.block _ (lt_of_block HL4.out)).trans HL4.out); have HQ5 := Lib.hid ((hb5.block _ (lt_of_block HQ4.out)).trans HQ4.out); clear hb5 S0 S1 S2 S3 lq)
      have S0 := cellOf (o := 0) HQ5.out rfl
      have S1 := cellOf (o := 1) HQ5.out rfl
      have S2 := cellOf (o := 2) HQ5.out rfl
      have S3 := cellOf (o := 3) HQ5.out rfl
      have lq := lt_of_block HQ5.out
      go_upto_region 7 with (go_at_call 65; refine Calls.mono (HE1.out _ (HB2.out.trans (HB5.out.mono HB2.out.size))) ?_; rintro e w6 ⟨rfl, hb6⟩; have HB6 := Lib.hid (HB5.out.trans (hb6.mono HB5.out.size)); have HL6 := Lib.hid ((hb6.block _ (lt_of_block HL5.out)).trans HL5.out); clear hb6 S0 S1 S2 S3 lq)
      have x0 := cellOf (o := 0) HL6.out rfl
      have x1 := cellOf (o := 1) HL6.out rfl
      have lx := lt_of_block HL6.out
      obtain ⟨bl, hbl⟩ : ∃ z, inF lo hi lw dn = z := ⟨_, rfl⟩
      obtain ⟨bh, hbh⟩ : ∃ z, inF lo hi hw dn = z := ⟨_, rfl⟩
      rw [hbl, hbh] at hkp
      have HI0' := Lib.hid (fun W g hg h => by have := HI0.out W g hg h; rw [show (decide (lo * dn ≤ lw) && decide (lw ≤ hi * dn)) = bl from hbl] at this; exact this)
      have HI1' := Lib.hid (fun W g hg h => by have := HI1.out W g hg h; rw [show (decide (lo * dn ≤ hw) && decide (hw ≤ hi * dn)) = bh from hbh] at this; exact this)
      have HKPT := Lib.hid hkp
      clear hbl hbh hkp HI0 HI1
      have hst1 : k + 1 - t = (k - t) + 1 := by omega
      have HS1 := Lib.hid hst1
      clear hst1
      cases bl with
      | false =>
        go_wp2_with (go_at_call 60; refine Calls.mono (HI0'.out _ _ (by simp) (RS.new1 (by simp))) ?_; rintro e w7 ⟨rfl, hb7⟩; have HB7 := Lib.hid ((HB6.out.alloc HB6.out.size _).trans (hb7.mono (by simp; have := HB6.out.size; omega))); clear hb7)
        have HBF := Lib.hid (HB2.out.trans (HB7.out.mono HB2.out.size))
        go_ret2
        have hp0 : P t = false := by rw [HKPT.out]; rfl
        have h9 := HR9.out
        rw [HST.out, HS1.out, stF_stop hp0, if_pos htk] at h9
        injection h9 with e1 e2
        exact ⟨by rw [e1, e2]; rfl, HBF.out⟩
      | true =>
        cases bh with
        | false =>
          go_wp2_with (first
            | (go_at_call_of 60 (Value.int .i64 lw); refine Calls.mono (HI0'.out _ _ (by simp) (RS.new1 (by simp))) ?_; rintro e w7 ⟨rfl, hb7⟩; have y0 := keepA hb7 x0; have y1 := keepA hb7 x1; have ly := World.block_lt_of_cell? _ _ y0; have HB7 := Lib.hid ((HB6.out.alloc HB6.out.size _).trans (hb7.mono (by simp; have := HB6.out.size; omega))); clear hb7 x0 x1 lx)
            | (go_at_call_of 60 (Value.int .i64 hw); refine Calls.mono (HI1'.out _ _ (by simp) (RS.new1 (by simp))) ?_; rintro e w8 ⟨rfl, hb8⟩; have HB8 := Lib.hid ((HB7.out.alloc HB7.out.size _).trans (hb8.mono (by simp; have := HB7.out.size; omega))); clear hb8))
          have HBF := Lib.hid (HB2.out.trans (HB8.out.mono HB2.out.size))
          go_ret2
          have hp0 : P t = false := by rw [HKPT.out]; rfl
          have h9 := HR9.out
          rw [HST.out, HS1.out, stF_stop hp0, if_pos htk] at h9
          injection h9 with e1 e2
          exact ⟨by rw [e1, e2]; rfl, HBF.out⟩
        | true =>
          go_wp2_with (first
            | (go_at_call_of 60 (Value.int .i64 lw); refine Calls.mono (HI0'.out _ _ (by simp) (RS.new1 (by simp))) ?_; rintro e w7 ⟨rfl, hb7⟩; have y0 := keepA hb7 x0; have y1 := keepA hb7 x1; have ly := World.block_lt_of_cell? _ _ y0; have HB7 := Lib.hid ((HB6.out.alloc HB6.out.size _).trans (hb7.mono (by simp; have := HB6.out.size; omega))); clear hb7 x0 x1 lx)
            | (go_at_call_of 60 (Value.int .i64 hw); refine Calls.mono (HI1'.out _ _ (by simp) (RS.new1 (by simp))) ?_; rintro e w8 ⟨rfl, hb8⟩; have HB8 := Lib.hid ((HB7.out.alloc HB7.out.size _).trans (hb8.mono (by simp; have := HB7.out.size; omega))); clear hb8))
          go_roundw
          case rel =>
            have hp1 : P t = true := by rw [HKPT.out]; rfl
            exact ⟨t + 1, by omega, by go_num, by rw [HST.out, HS1.out, stF_step hp1, show k + 1 - (t + 1) = k - t by omega], HB8.out⟩
          case measure => simp [intOf] <;> omega
    · obtain rfl : t = k + 1 := by omega
      have h9 := HR9.out
      rw [HST.out, Nat.sub_self, show stF P (k + 1) 0 = k + 1 from rfl, if_neg (by omega)] at h9
      have HF9 := Lib.hid h9
      clear h9 hlt
      go_wp2
      go_ret2
      exact ⟨by have e9 := HF9.out; injection e9 with e1 e2; rw [e1, e2]; rfl, HBB.out⟩
end Go.Proofs.Ytnnmmojlgikdgaa

/- The sets that a call allows. -/
namespace Go.Proofs.Ytnnmmojlgikdgaa
open Go.RowKit

/-- The boxes of 'allow'. -/
structure AW (N D d gl gh : Int) (w W : World) : Prop where
  s : W.heap[w.heap.size]? = some (.cells #[.int .i64 N, .int .i64 D, .int .i64 d] 23 (0, 0))
  g : W.heap[w.heap.size + 1]? = some (.cells #[.int .i64 gl, .int .i64 gh] 27 (0, 0))
  r : W.heap[w.heap.size + 1 + 1]? = some (.cells #[.int .i64 0, .int .i64 0, .int .i64 0, .slice none 0 0] 101 (0, 0))
  b : Below w.heap.size w W
section
variable {N D d gl gh : Int} {w W W' : World}
theorem AW.next (h : AW N D d gl gh w W) (hb : Below W.heap.size W W') : AW N D d gl gh w W' :=
  ⟨(hb.block _ (lt_of_block h.s)).trans h.s, (hb.block _ (lt_of_block h.g)).trans h.g, (hb.block _ (lt_of_block h.r)).trans h.r, h.b.trans (hb.mono h.b.size)⟩
theorem AW.alloc (h : AW N D d gl gh w W) (o : Obj) : AW N D d gl gh w (W.alloc o) := h.next ((Below.refl _ _).alloc (Nat.le_refl _) _)
theorem AW.start : AW N D d gl gh w (((w.alloc (.cells #[.int .i64 N, .int .i64 D, .int .i64 d] 23)).alloc (.cells #[.int .i64 gl, .int .i64 gh] 27)).alloc (.cells #[.int .i64 0, .int .i64 0, .int .i64 0, .slice none 0 0] 101)) :=
  ⟨blk_old _ (blk_old _ (blk_new _ _ _ rfl)), blk_old _ (blk_new _ _ _ (by simp)), blk_new _ _ _ (by simp), by go_grown⟩
theorem AW.put (h : AW N D d gl gh w W) (a b c : Int) (v : Value) : ((((W.setCell ⟨w.heap.size + 1 + 1, 0, none⟩ (.int .i64 a)).setCell ⟨w.heap.size + 1 + 1, 1, none⟩ (.int .i64 b)).setCell ⟨w.heap.size + 1 + 1, 2, none⟩ (.int .i64 c)).setCell ⟨w.heap.size + 1 + 1, 3, none⟩ v).heap[w.heap.size + 1 + 1]? = some (.cells #[.int .i64 a, .int .i64 b, .int .i64 c, v] 101 (0, 0)) :=
  (block_setCell _ (block_setCell _ (block_setCell _ (block_setCell _ h.r)))).trans (by rfl)
theorem AW.putB (h : AW N D d gl gh w W) (a b c : Int) (v : Value) : Below w.heap.size w ((((W.setCell ⟨w.heap.size + 1 + 1, 0, none⟩ (.int .i64 a)).setCell ⟨w.heap.size + 1 + 1, 1, none⟩ (.int .i64 b)).setCell ⟨w.heap.size + 1 + 1, 2, none⟩ (.int .i64 c)).setCell ⟨w.heap.size + 1 + 1, 3, none⟩ v) :=
  (((h.b.setCell (p := ⟨w.heap.size + 1 + 1, 0, none⟩) (show w.heap.size ≤ w.heap.size + 1 + 1 by omega) _).setCell (p := ⟨w.heap.size + 1 + 1, 1, none⟩) (show w.heap.size ≤ w.heap.size + 1 + 1 by omega) _).setCell (p := ⟨w.heap.size + 1 + 1, 2, none⟩) (show w.heap.size ≤ w.heap.size + 1 + 1 by omega) _).setCell (p := ⟨w.heap.size + 1 + 1, 3, none⟩) (show w.heap.size ≤ w.heap.size + 1 + 1 by omega) _
end
/-- The numbers of sets are those of starts and gusts. -/
def saB (b : List (Int × Int)) (gl gh nn : Int) : Bool := (decide (b.length = 2) && wB (-100) 100 [gl, gh] && decide (0 ≤ nn ∧ nn ≤ 16)) && b.all fun s => wB (-1000) 1000 [s.1, s.2]
def alE (N D d : Int) (b : List (Int × Int)) (gl gh nn : Int) (l : List (Int × Int)) : Int :=
  if slB N D d then (if (chkB b && vS (gl, gh)) && l.all vS then (if saB b gl gh nn then 0 else 1) else 10) else 70

set_option maxRecDepth 100000 in
set_option maxHeartbeats 2000000 in
theorem allow_bad1 (N D d gl gh nn : Int) (Ab Al : Option Addr) (nb cb nl cl B : Nat) (b l : List (Int × Int)) (w : World) (hb : b.length = nb) (hnb : nb ≤ maxLen) (hl : l.length = nl) (hnl : nl ≤ maxLen) (hB : B ≤ w.heap.size) (hrb : RS w B Ab b) (hrl : RS w B Al l) (E : Int) (hE : alE N D d b gl gh nn l = E) (h : E = 70 ∨ E = 10) :
    Calls Try.prog 63 #[.agg #[.int .i64 N, .int .i64 D, .int .i64 d], .slice Ab nb cb, .agg #[.int .i64 gl, .int .i64 gh], .int .i64 nn, .slice Al nl cl] w fun e w' => e = .returned (.tuple #[.agg #[.int .i64 0, .int .i64 0, .int .i64 0, .slice none 0 0], .int .i64 E]) ∧ Below w.heap.size w w' := by
  have HA0 := Lib.hid (AW.start (N := N) (D := D) (d := d) (gl := gl) (gh := gh) (w := w))
  have HC := Lib.hid (fun W => slcheck_any N D d W)
  have HCB := Lib.hid (fun (W : World) (hW : Below w.heap.size w W) => check_any Ab nb cb w.heap.size b W hb hnb hW.size ((hrb.more hB).below hW))
  have HSG := Lib.hid (fun (W : World) (g : Nat) (hg : g < W.heap.size) (hr : RS W (g + 1) (some ⟨g, 0, none⟩) [(gl, gh)]) => checkSpans_any (some ⟨g, 0, none⟩) 1 1 (g + 1) [(gl, gh)] W rfl (le_maxLen (by omega)) hg hr)
  simp only [List.all_cons, List.all_nil, Bool.and_true] at HSG
  have HSL := Lib.hid (fun (W : World) (hW : Below w.heap.size w W) => checkSpans_any Al nl cl w.heap.size l W hl hnl hW.size ((hrl.more hB).below hW))
  cases hs : slB N D d with
  | false =>
    obtain rfl : E = 70 := by rw [← hE]; unfold alE; rw [hs]; rfl
    rw [slE_no hs] at HC
    clear hE h hs hrb hrl hb hl
    go_enter Try.func63, Try.ntmps63
    go_upto_region 1 with (fail)
    generalize World.alloc _ _ = w1 at *
    have s0 := cellOf (o := 0) HA0.out.s rfl
    have s1 := cellOf (o := 1) HA0.out.s rfl
    have s2 := cellOf (o := 2) HA0.out.s rfl
    have g0 := cellOf (o := 0) HA0.out.g rfl
    have g1 := cellOf (o := 1) HA0.out.g rfl
    have l0 := lt_of_block HA0.out.s
    have l1 := lt_of_block HA0.out.g
    have l2 := lt_of_block HA0.out.r
    go_upto_region 2 with (go_at_call 15; refine Calls.mono (HC.out _) ?_; rintro e w2 ⟨rfl, hb2⟩; have HA2 := Lib.hid (HA0.out.next hb2); clear hb2 s0 s1 s2 g0 g1 l0 l1 l2)
    have r0 := cellOf (o := 0) HA2.out.r rfl
    have f0 := freeOf (o := 0) HA2.out.r
    have r1 := cellOf (o := 1) HA2.out.r rfl
    have f1 := freeOf (o := 1) HA2.out.r
    have r2 := cellOf (o := 2) HA2.out.r rfl
    have f2 := freeOf (o := 2) HA2.out.r
    have r3 := cellOf (o := 3) HA2.out.r rfl
    have f3 := freeOf (o := 3) HA2.out.r
    have l2 := lt_of_block HA2.out.r
    go_wp2
    have hp9 := HA2.out.put 0 0 0 (.slice none 0 0)
    have hq9 := HA2.out.putB 0 0 0 (.slice none 0 0)
    clear r0 r1 r2 r3 f0 f1 f2 f3 l2
    generalize (((World.setCell w2 _ _).setCell _ _).setCell _ _).setCell _ _ = w9 at *
    have d0 := cellOf (o := 0) hp9 rfl
    have d1' := cellOf (o := 1) hp9 rfl
    have d2' := cellOf (o := 2) hp9 rfl
    have d3 := cellOf (o := 3) hp9 rfl
    exact bodyPost_ret (v := .tuple #[.agg #[.int .i64 0, .int .i64 0, .int .i64 0, .slice none 0 0], .int .i64 70]) (by simp [results, Try.results63, go_sem, d0, d1', d2', d3]) rfl ⟨rfl, hq9⟩
  | true =>
    rw [slE_yes hs] at HC
    cases hc : chkB b with
    | false =>
      obtain rfl : E = 10 := by rw [← hE]; unfold alE; rw [hs, hc]; rfl
      rw [chkE_no hc] at HCB
      clear hE h hs hc hrb hrl hb hl
      go_enter Try.func63, Try.ntmps63
      go_upto_region 1 with (fail)
      generalize World.alloc _ _ = w1 at *
      have s0 := cellOf (o := 0) HA0.out.s rfl
      have s1 := cellOf (o := 1) HA0.out.s rfl
      have s2 := cellOf (o := 2) HA0.out.s rfl
      have g0 := cellOf (o := 0) HA0.out.g rfl
      have g1 := cellOf (o := 1) HA0.out.g rfl
      have l0 := lt_of_block HA0.out.s
      have l1 := lt_of_block HA0.out.g
      have l2 := lt_of_block HA0.out.r
      go_upto_region 2 with (go_at_call 15; refine Calls.mono (HC.out _) ?_; rintro e w2 ⟨rfl, hb2⟩; have HA2 := Lib.hid (HA0.out.next hb2); clear hb2 s0 s1 s2 g0 g1 l0 l1 l2)
      go_upto_region 5 with (go_at_call 97; refine Calls.mono (HCB.out _ HA2.out.b) ?_; rintro e w3 ⟨rfl, hb3⟩; have HA3 := Lib.hid (HA2.out.next hb3); clear hb3; have g0 := cellOf (o := 0) HA3.out.g rfl; have g1 := cellOf (o := 1) HA3.out.g rfl; have l1 := lt_of_block HA3.out.g)
      clear g0 g1 l1
      have r0 := cellOf (o := 0) HA3.out.r rfl
      have f0 := freeOf (o := 0) HA3.out.r
      have r1 := cellOf (o := 1) HA3.out.r rfl
      have f1 := freeOf (o := 1) HA3.out.r
      have r2 := cellOf (o := 2) HA3.out.r rfl
      have f2 := freeOf (o := 2) HA3.out.r
      have r3 := cellOf (o := 3) HA3.out.r rfl
      have f3 := freeOf (o := 3) HA3.out.r
      have l2 := lt_of_block HA3.out.r
      go_wp2
      have hp9 := HA3.out.put 0 0 0 (.slice none 0 0)
      have hq9 := HA3.out.putB 0 0 0 (.slice none 0 0)
      clear r0 r1 r2 r3 f0 f1 f2 f3 l2
      generalize (((World.setCell w3 _ _).setCell _ _).setCell _ _).setCell _ _ = w9 at *
      have d0 := cellOf (o := 0) hp9 rfl
      have d1' := cellOf (o := 1) hp9 rfl
      have d2' := cellOf (o := 2) hp9 rfl
      have d3 := cellOf (o := 3) hp9 rfl
      exact bodyPost_ret (v := .tuple #[.agg #[.int .i64 0, .int .i64 0, .int .i64 0, .slice none 0 0], .int .i64 10]) (by simp [results, Try.results63, go_sem, d0, d1', d2', d3]) rfl ⟨rfl, hq9⟩
    | true =>
      rw [chkE_yes hc] at HCB
      cases hv : vS (gl, gh) with
      | false =>
        obtain rfl : E = 10 := by rw [← hE]; unfold alE; rw [hs, hc, hv]; rfl
        rw [hv] at HSG
        clear hE h hs hc hv hrb hrl hb hl
        go_enter Try.func63, Try.ntmps63
        go_upto_region 1 with (fail)
        generalize World.alloc _ _ = w1 at *
        have s0 := cellOf (o := 0) HA0.out.s rfl
        have s1 := cellOf (o := 1) HA0.out.s rfl
        have s2 := cellOf (o := 2) HA0.out.s rfl
        have g0 := cellOf (o := 0) HA0.out.g rfl
        have g1 := cellOf (o := 1) HA0.out.g rfl
        have l0 := lt_of_block HA0.out.s
        have l1 := lt_of_block HA0.out.g
        have l2 := lt_of_block HA0.out.r
        go_upto_region 2 with (go_at_call 15; refine Calls.mono (HC.out _) ?_; rintro e w2 ⟨rfl, hb2⟩; have HA2 := Lib.hid (HA0.out.next hb2); clear hb2 s0 s1 s2 g0 g1 l0 l1 l2)
        go_upto_region 5 with (first
          | (go_at_call 97; refine Calls.mono (HCB.out _ HA2.out.b) ?_; rintro e w3 ⟨rfl, hb3⟩; have HA3 := Lib.hid (HA2.out.next hb3); clear hb3; have g0 := cellOf (o := 0) HA3.out.g rfl; have g1 := cellOf (o := 1) HA3.out.g rfl; have l1 := lt_of_block HA3.out.g)
          | (go_at_call 59; refine Calls.mono (HSG.out _ _ (by simp) (RS.new1 (by simp))) ?_; rintro e w4 ⟨rfl, hb4⟩; have HA4 := Lib.hid ((HA3.out.alloc _).next hb4); clear hb4 g0 g1 l1))
        have r0 := cellOf (o := 0) HA4.out.r rfl
        have f0 := freeOf (o := 0) HA4.out.r
        have r1 := cellOf (o := 1) HA4.out.r rfl
        have f1 := freeOf (o := 1) HA4.out.r
        have r2 := cellOf (o := 2) HA4.out.r rfl
        have f2 := freeOf (o := 2) HA4.out.r
        have r3 := cellOf (o := 3) HA4.out.r rfl
        have f3 := freeOf (o := 3) HA4.out.r
        have l2 := lt_of_block HA4.out.r
        go_wp2
        have hp9 := HA4.out.put 0 0 0 (.slice none 0 0)
        have hq9 := HA4.out.putB 0 0 0 (.slice none 0 0)
        clear r0 r1 r2 r3 f0 f1 f2 f3 l2
        generalize (((World.setCell w4 _ _).setCell _ _).setCell _ _).setCell _ _ = w9 at *
        have d0 := cellOf (o := 0) hp9 rfl
        have d1' := cellOf (o := 1) hp9 rfl
        have d2' := cellOf (o := 2) hp9 rfl
        have d3 := cellOf (o := 3) hp9 rfl
        exact bodyPost_ret (v := .tuple #[.agg #[.int .i64 0, .int .i64 0, .int .i64 0, .slice none 0 0], .int .i64 10]) (by simp [results, Try.results63, go_sem, d0, d1', d2', d3]) rfl ⟨rfl, hq9⟩
      | true =>
        rw [hv] at HSG
        cases hll : l.all vS with
        | false =>
          obtain rfl : E = 10 := by rw [← hE]; unfold alE; rw [hs, hc, hv, hll]; rfl
          rw [hll] at HSL
          clear hE h hs hc hv hll hrb hrl hb hl
          go_enter Try.func63, Try.ntmps63
          go_upto_region 1 with (fail)
          generalize World.alloc _ _ = w1 at *
          have s0 := cellOf (o := 0) HA0.out.s rfl
          have s1 := cellOf (o := 1) HA0.out.s rfl
          have s2 := cellOf (o := 2) HA0.out.s rfl
          have g0 := cellOf (o := 0) HA0.out.g rfl
          have g1 := cellOf (o := 1) HA0.out.g rfl
          have l0 := lt_of_block HA0.out.s
          have l1 := lt_of_block HA0.out.g
          have l2 := lt_of_block HA0.out.r
          go_upto_region 2 with (go_at_call 15; refine Calls.mono (HC.out _) ?_; rintro e w2 ⟨rfl, hb2⟩; have HA2 := Lib.hid (HA0.out.next hb2); clear hb2 s0 s1 s2 g0 g1 l0 l1 l2)
          go_upto_region 5 with (first
            | (go_at_call 97; refine Calls.mono (HCB.out _ HA2.out.b) ?_; rintro e w3 ⟨rfl, hb3⟩; have HA3 := Lib.hid (HA2.out.next hb3); clear hb3; have g0 := cellOf (o := 0) HA3.out.g rfl; have g1 := cellOf (o := 1) HA3.out.g rfl; have l1 := lt_of_block HA3.out.g)
            | (go_at_call_of 59 (Value.slice Al nl cl); refine Calls.mono (HSL.out _ HA4.out.b) ?_; rintro e w5 ⟨rfl, hb5⟩; have HA5 := Lib.hid (HA4.out.next hb5); clear hb5)
            | (go_at_call 59; refine Calls.mono (HSG.out _ _ (by simp) (RS.new1 (by simp))) ?_; rintro e w4 ⟨rfl, hb4⟩; have HA4 := Lib.hid ((HA3.out.alloc _).next hb4); clear hb4 g0 g1 l1))
          have r0 := cellOf (o := 0) HA5.out.r rfl
          have f0 := freeOf (o := 0) HA5.out.r
          have r1 := cellOf (o := 1) HA5.out.r rfl
          have f1 := freeOf (o := 1) HA5.out.r
          have r2 := cellOf (o := 2) HA5.out.r rfl
          have f2 := freeOf (o := 2) HA5.out.r
          have r3 := cellOf (o := 3) HA5.out.r rfl
          have f3 := freeOf (o := 3) HA5.out.r
          have l2 := lt_of_block HA5.out.r
          go_wp2
          have hp9 := HA5.out.put 0 0 0 (.slice none 0 0)
          have hq9 := HA5.out.putB 0 0 0 (.slice none 0 0)
          clear r0 r1 r2 r3 f0 f1 f2 f3 l2
          generalize (((World.setCell w5 _ _).setCell _ _).setCell _ _).setCell _ _ = w9 at *
          have d0 := cellOf (o := 0) hp9 rfl
          have d1' := cellOf (o := 1) hp9 rfl
          have d2' := cellOf (o := 2) hp9 rfl
          have d3 := cellOf (o := 3) hp9 rfl
          exact bodyPost_ret (v := .tuple #[.agg #[.int .i64 0, .int .i64 0, .int .i64 0, .slice none 0 0], .int .i64 10]) (by simp [results, Try.results63, go_sem, d0, d1', d2', d3]) rfl ⟨rfl, hq9⟩
        | true =>
          exfalso
          unfold alE at hE
          rw [hs, hc, hv, hll] at hE
          simp only [Bool.and_true, if_true] at hE
          split at hE <;> omega
end Go.Proofs.Ytnnmmojlgikdgaa

/- CheckSets. -/
namespace Go.Proofs.Ytnnmmojlgikdgaa
open Go.RowKit

def inM (lo hi most : Int) : Bool := decide (-most ≤ lo) && decide (hi ≤ most)
theorem rinside7_any (lo hi most : Int) (w : World) (hm : 0 ≤ most) (hm2 : most ≤ 1000000) : Calls Try.prog 104 #[.agg #[.int .i64 lo, .int .i64 hi], .int .i64 most] w fun e w' => e = .returned (.bool (inM lo hi most)) ∧ Below w.heap.size w w' := by
  have i1 : IntKind.i64.wrap (-most) = -most := IntWalk.i64_in _ (by omega)
  unfold inM
  by_cases h1 : -most ≤ lo
  · by_cases h2 : hi ≤ most
    · rw [decide_eq_true h1, decide_eq_true h2]
      go_enter Try.func104, Try.ntmps104
      go_wp2
      go_ret
      exact ⟨rfl, by go_grown⟩
    · rw [decide_eq_true h1, decide_eq_false h2]
      go_enter Try.func104, Try.ntmps104
      go_wp2
      go_ret
      exact ⟨rfl, by go_grown⟩
  · rw [decide_eq_false h1]
    go_enter Try.func104, Try.ntmps104
    go_wp2
    go_ret
    exact ⟨rfl, by go_grown⟩
/-- checkNumbers of two spans. -/
def nuB (a1 a2 c1 c2 gl gh nn : Int) : Bool := (inM a1 a2 1000 && (inM c1 c2 1000 && (inM gl gh 100 && decide (0 ≤ nn ∧ nn ≤ 16))))
set_option maxRecDepth 100000 in
theorem checkNumbers_no (gl gh nn : Int) (Ab : Option Addr) (nb cb : Nat) (w : World) (h : nb ≠ 2) :
    Calls Try.prog 70 #[.slice Ab nb cb, .agg #[.int .i64 gl, .int .i64 gh], .int .i64 nn] w fun e w' => e = .returned (.int .i64 1) ∧ Below w.heap.size w w' := by
  have hbi : ((nb : Int) == 2) = false := by simp; omega
  have hbi2 : ((nb : Int) != 2) = true := by simp; omega
  go_enter Try.func70, Try.ntmps70
  go_wp2
  go_ret
  exact ⟨rfl, by go_grown⟩

set_option maxRecDepth 100000 in
set_option maxHeartbeats 2000000 in
theorem checkNumbers_two (a1 a2 c1 c2 gl gh nn : Int) (Ab : Option Addr) (cb B : Nat) (w : World) (hB : B ≤ w.heap.size) (hr : RS w B Ab [(a1, a2), (c1, c2)]) :
    Calls Try.prog 70 #[.slice Ab 2 cb, .agg #[.int .i64 gl, .int .i64 gh], .int .i64 nn] w fun e w' => e = .returned (.int .i64 (if nuB a1 a2 c1 c2 gl gh nn then 0 else 1)) ∧ Below w.heap.size w w' := by
  have HI0 := Lib.hid (fun W => rinside7_any a1 a2 1000 W (by omega) (by omega))
  have HI1 := Lib.hid (fun W => rinside7_any c1 c2 1000 W (by omega) (by omega))
  have HIG := Lib.hid (fun W => rinside7_any gl gh 100 W (by omega) (by omega))
  have HWN := Lib.hid (fun W => w7_any nn 0 16 W)
  obtain ⟨bb, off, rfl, hbb, hc⟩ := hr (by simp)
  obtain ⟨x0, x1⟩ := hc 0 _ rfl
  obtain ⟨x2, x3⟩ := hc 1 _ rfl
  simp only [Nat.zero_mul, Nat.one_mul, Nat.add_zero] at x0 x1 x2 x3
  have HB0 := Lib.hid ((Below.refl w.heap.size w).alloc (Nat.le_refl _) (.cells #[.int .i64 gl, .int .i64 gh] 27))
  have z0 := cell_keep ((Below.refl w.heap.size w).alloc (Nat.le_refl _) (.cells #[.int .i64 gl, .int .i64 gh] 27)) x0
  have z1 := cell_keep ((Below.refl w.heap.size w).alloc (Nat.le_refl _) (.cells #[.int .i64 gl, .int .i64 gh] 27)) x1
  have z2 := cell_keep ((Below.refl w.heap.size w).alloc (Nat.le_refl _) (.cells #[.int .i64 gl, .int .i64 gh] 27)) x2
  have z3 := cell_keep ((Below.refl w.heap.size w).alloc (Nat.le_refl _) (.cells #[.int .i64 gl, .int .i64 gh] 27)) x3
  have z4 : (w.alloc (.cells #[.int .i64 gl, .int .i64 gh] 27)).cell? ⟨w.heap.size, 0, none⟩ = some (.int .i64 gl) := by rw [cell_newest]; rfl
  have z5 : (w.alloc (.cells #[.int .i64 gl, .int .i64 gh] 27)).cell? ⟨w.heap.size, 1, none⟩ = some (.int .i64 gh) := by rw [cell_newest]; rfl
  have zl := World.block_lt_of_cell? _ _ z0
  have zm := World.block_lt_of_cell? _ _ z4
  clear hc hbb x0 x1 x2 x3 hr
  unfold nuB
  obtain ⟨q0, h0⟩ : ∃ r, inM a1 a2 1000 = r := ⟨_, rfl⟩
  obtain ⟨q1, h1⟩ : ∃ r, inM c1 c2 1000 = r := ⟨_, rfl⟩
  obtain ⟨q2, h2⟩ : ∃ r, inM gl gh 100 = r := ⟨_, rfl⟩
  obtain ⟨q3, h3⟩ : ∃ r, decide (0 ≤ nn ∧ nn ≤ 16) = r := ⟨_, rfl⟩
  rw [h0] at HI0 ⊢
  rw [h1] at HI1 ⊢
  rw [h2] at HIG ⊢
  rw [h3] at HWN ⊢
  clear h0 h1 h2 h3
  cases q0 with
  | false =>
    go_enter Try.func70, Try.ntmps70
    go_upto_region 1 with (fail)
    generalize World.alloc w _ = w0 at *
    go_wp2_with (first
      | (go_at_call_of 104 (Value.agg #[.int .i64 a1, .int .i64 a2]); refine Calls.mono (HI0.out _) ?_; rintro e x1 ⟨rfl, hb1⟩; have y0 := cell_keep hb1 z0; have y1 := cell_keep hb1 z1; have y2 := cell_keep hb1 z2; have y3 := cell_keep hb1 z3; have y4 := cell_keep hb1 z4; have y5 := cell_keep hb1 z5; have yl := World.block_lt_of_cell? _ _ y0; have ym := World.block_lt_of_cell? _ _ y4; have HB1 := Lib.hid (HB0.out.trans (hb1.mono HB0.out.size)); clear hb1 z0 z1 z2 z3 z4 z5 zl zm)
      | (go_at_call_of 104 (Value.agg #[.int .i64 c1, .int .i64 c2]); refine Calls.mono (HI1.out _) ?_; rintro e x2 ⟨rfl, hb2⟩; have u0 := cell_keep hb2 y0; have u1 := cell_keep hb2 y1; have u2 := cell_keep hb2 y2; have u3 := cell_keep hb2 y3; have u4 := cell_keep hb2 y4; have u5 := cell_keep hb2 y5; have ul := World.block_lt_of_cell? _ _ u0; have um := World.block_lt_of_cell? _ _ u4; have HB2 := Lib.hid (HB1.out.trans (hb2.mono HB1.out.size)); clear hb2 y0 y1 y2 y3 y4 y5 yl ym)
      | (go_at_call_of 104 (Value.agg #[.int .i64 gl, .int .i64 gh]); refine Calls.mono (HIG.out _) ?_; rintro e x3 ⟨rfl, hb3⟩; have v0 := cell_keep hb3 u0; have v1 := cell_keep hb3 u1; have v2 := cell_keep hb3 u2; have v3 := cell_keep hb3 u3; have v4 := cell_keep hb3 u4; have v5 := cell_keep hb3 u5; have vl := World.block_lt_of_cell? _ _ v0; have vm := World.block_lt_of_cell? _ _ v4; have HB3 := Lib.hid (HB2.out.trans (hb3.mono HB2.out.size)); clear hb3 u0 u1 u2 u3 u4 u5 ul um)
      | (go_at_call 50; refine Calls.mono (HWN.out _) ?_; rintro e x4 ⟨rfl, rfl⟩))
    go_ret
    exact ⟨rfl, HB1.out⟩
  | true =>
    cases q1 with
    | false =>
      go_enter Try.func70, Try.ntmps70
      go_upto_region 1 with (fail)
      generalize World.alloc w _ = w0 at *
      go_wp2_with (first
        | (go_at_call_of 104 (Value.agg #[.int .i64 a1, .int .i64 a2]); refine Calls.mono (HI0.out _) ?_; rintro e x1 ⟨rfl, hb1⟩; have y0 := cell_keep hb1 z0; have y1 := cell_keep hb1 z1; have y2 := cell_keep hb1 z2; have y3 := cell_keep hb1 z3; have y4 := cell_keep hb1 z4; have y5 := cell_keep hb1 z5; have yl := World.block_lt_of_cell? _ _ y0; have ym := World.block_lt_of_cell? _ _ y4; have HB1 := Lib.hid (HB0.out.trans (hb1.mono HB0.out.size)); clear hb1 z0 z1 z2 z3 z4 z5 zl zm)
        | (go_at_call_of 104 (Value.agg #[.int .i64 c1, .int .i64 c2]); refine Calls.mono (HI1.out _) ?_; rintro e x2 ⟨rfl, hb2⟩; have u0 := cell_keep hb2 y0; have u1 := cell_keep hb2 y1; have u2 := cell_keep hb2 y2; have u3 := cell_keep hb2 y3; have u4 := cell_keep hb2 y4; have u5 := cell_keep hb2 y5; have ul := World.block_lt_of_cell? _ _ u0; have um := World.block_lt_of_cell? _ _ u4; have HB2 := Lib.hid (HB1.out.trans (hb2.mono HB1.out.size)); clear hb2 y0 y1 y2 y3 y4 y5 yl ym)
        | (go_at_call_of 104 (Value.agg #[.int .i64 gl, .int .i64 gh]); refine Calls.mono (HIG.out _) ?_; rintro e x3 ⟨rfl, hb3⟩; have v0 := cell_keep hb3 u0; have v1 := cell_keep hb3 u1; have v2 := cell_keep hb3 u2; have v3 := cell_keep hb3 u3; have v4 := cell_keep hb3 u4; have v5 := cell_keep hb3 u5; have vl := World.block_lt_of_cell? _ _ v0; have vm := World.block_lt_of_cell? _ _ v4; have HB3 := Lib.hid (HB2.out.trans (hb3.mono HB2.out.size)); clear hb3 u0 u1 u2 u3 u4 u5 ul um)
        | (go_at_call 50; refine Calls.mono (HWN.out _) ?_; rintro e x4 ⟨rfl, rfl⟩))
      go_ret
      exact ⟨rfl, HB2.out⟩
    | true =>
      cases q2 with
      | false =>
        go_enter Try.func70, Try.ntmps70
        go_upto_region 1 with (fail)
        generalize World.alloc w _ = w0 at *
        go_wp2_with (first
          | (go_at_call_of 104 (Value.agg #[.int .i64 a1, .int .i64 a2]); refine Calls.mono (HI0.out _) ?_; rintro e x1 ⟨rfl, hb1⟩; have y0 := cell_keep hb1 z0; have y1 := cell_keep hb1 z1; have y2 := cell_keep hb1 z2; have y3 := cell_keep hb1 z3; have y4 := cell_keep hb1 z4; have y5 := cell_keep hb1 z5; have yl := World.block_lt_of_cell? _ _ y0; have ym := World.block_lt_of_cell? _ _ y4; have HB1 := Lib.hid (HB0.out.trans (hb1.mono HB0.out.size)); clear hb1 z0 z1 z2 z3 z4 z5 zl zm)
          | (go_at_call_of 104 (Value.agg #[.int .i64 c1, .int .i64 c2]); refine Calls.mono (HI1.out _) ?_; rintro e x2 ⟨rfl, hb2⟩; have u0 := cell_keep hb2 y0; have u1 := cell_keep hb2 y1; have u2 := cell_keep hb2 y2; have u3 := cell_keep hb2 y3; have u4 := cell_keep hb2 y4; have u5 := cell_keep hb2 y5; have ul := World.block_lt_of_cell? _ _ u0; have um := World.block_lt_of_cell? _ _ u4; have HB2 := Lib.hid (HB1.out.trans (hb2.mono HB1.out.size)); clear hb2 y0 y1 y2 y3 y4 y5 yl ym)
          | (go_at_call_of 104 (Value.agg #[.int .i64 gl, .int .i64 gh]); refine Calls.mono (HIG.out _) ?_; rintro e x3 ⟨rfl, hb3⟩; have v0 := cell_keep hb3 u0; have v1 := cell_keep hb3 u1; have v2 := cell_keep hb3 u2; have v3 := cell_keep hb3 u3; have v4 := cell_keep hb3 u4; have v5 := cell_keep hb3 u5; have vl := World.block_lt_of_cell? _ _ v0; have vm := World.block_lt_of_cell? _ _ v4; have HB3 := Lib.hid (HB2.out.trans (hb3.mono HB2.out.size)); clear hb3 u0 u1 u2 u3 u4 u5 ul um)
          | (go_at_call 50; refine Calls.mono (HWN.out _) ?_; rintro e x4 ⟨rfl, rfl⟩))
        go_ret
        exact ⟨rfl, HB3.out⟩
      | true =>
        cases q3 with
        | false =>
          go_enter Try.func70, Try.ntmps70
          go_upto_region 1 with (fail)
          generalize World.alloc w _ = w0 at *
          go_wp2_with (first
            | (go_at_call_of 104 (Value.agg #[.int .i64 a1, .int .i64 a2]); refine Calls.mono (HI0.out _) ?_; rintro e x1 ⟨rfl, hb1⟩; have y0 := cell_keep hb1 z0; have y1 := cell_keep hb1 z1; have y2 := cell_keep hb1 z2; have y3 := cell_keep hb1 z3; have y4 := cell_keep hb1 z4; have y5 := cell_keep hb1 z5; have yl := World.block_lt_of_cell? _ _ y0; have ym := World.block_lt_of_cell? _ _ y4; have HB1 := Lib.hid (HB0.out.trans (hb1.mono HB0.out.size)); clear hb1 z0 z1 z2 z3 z4 z5 zl zm)
            | (go_at_call_of 104 (Value.agg #[.int .i64 c1, .int .i64 c2]); refine Calls.mono (HI1.out _) ?_; rintro e x2 ⟨rfl, hb2⟩; have u0 := cell_keep hb2 y0; have u1 := cell_keep hb2 y1; have u2 := cell_keep hb2 y2; have u3 := cell_keep hb2 y3; have u4 := cell_keep hb2 y4; have u5 := cell_keep hb2 y5; have ul := World.block_lt_of_cell? _ _ u0; have um := World.block_lt_of_cell? _ _ u4; have HB2 := Lib.hid (HB1.out.trans (hb2.mono HB1.out.size)); clear hb2 y0 y1 y2 y3 y4 y5 yl ym)
            | (go_at_call_of 104 (Value.agg #[.int .i64 gl, .int .i64 gh]); refine Calls.mono (HIG.out _) ?_; rintro e x3 ⟨rfl, hb3⟩; have v0 := cell_keep hb3 u0; have v1 := cell_keep hb3 u1; have v2 := cell_keep hb3 u2; have v3 := cell_keep hb3 u3; have v4 := cell_keep hb3 u4; have v5 := cell_keep hb3 u5; have vl := World.block_lt_of_cell? _ _ v0; have vm := World.block_lt_of_cell? _ _ v4; have HB3 := Lib.hid (HB2.out.trans (hb3.mono HB2.out.size)); clear hb3 u0 u1 u2 u3 u4 u5 ul um)
            | (go_at_call 50; refine Calls.mono (HWN.out _) ?_; rintro e x4 ⟨rfl, rfl⟩))
          go_ret
          exact ⟨rfl, HB3.out⟩
        | true =>
          go_enter Try.func70, Try.ntmps70
          go_upto_region 1 with (fail)
          generalize World.alloc w _ = w0 at *
          go_wp2_with (first
            | (go_at_call_of 104 (Value.agg #[.int .i64 a1, .int .i64 a2]); refine Calls.mono (HI0.out _) ?_; rintro e x1 ⟨rfl, hb1⟩; have y0 := cell_keep hb1 z0; have y1 := cell_keep hb1 z1; have y2 := cell_keep hb1 z2; have y3 := cell_keep hb1 z3; have y4 := cell_keep hb1 z4; have y5 := cell_keep hb1 z5; have yl := World.block_lt_of_cell? _ _ y0; have ym := World.block_lt_of_cell? _ _ y4; have HB1 := Lib.hid (HB0.out.trans (hb1.mono HB0.out.size)); clear hb1 z0 z1 z2 z3 z4 z5 zl zm)
            | (go_at_call_of 104 (Value.agg #[.int .i64 c1, .int .i64 c2]); refine Calls.mono (HI1.out _) ?_; rintro e x2 ⟨rfl, hb2⟩; have u0 := cell_keep hb2 y0; have u1 := cell_keep hb2 y1; have u2 := cell_keep hb2 y2; have u3 := cell_keep hb2 y3; have u4 := cell_keep hb2 y4; have u5 := cell_keep hb2 y5; have ul := World.block_lt_of_cell? _ _ u0; have um := World.block_lt_of_cell? _ _ u4; have HB2 := Lib.hid (HB1.out.trans (hb2.mono HB1.out.size)); clear hb2 y0 y1 y2 y3 y4 y5 yl ym)
            | (go_at_call_of 104 (Value.agg #[.int .i64 gl, .int .i64 gh]); refine Calls.mono (HIG.out _) ?_; rintro e x3 ⟨rfl, hb3⟩; have v0 := cell_keep hb3 u0; have v1 := cell_keep hb3 u1; have v2 := cell_keep hb3 u2; have v3 := cell_keep hb3 u3; have v4 := cell_keep hb3 u4; have v5 := cell_keep hb3 u5; have vl := World.block_lt_of_cell? _ _ v0; have vm := World.block_lt_of_cell? _ _ v4; have HB3 := Lib.hid (HB2.out.trans (hb3.mono HB2.out.size)); clear hb3 u0 u1 u2 u3 u4 u5 ul um)
            | (go_at_call 50; refine Calls.mono (HWN.out _) ?_; rintro e x4 ⟨rfl, rfl⟩))
          go_ret
          exact ⟨rfl, HB3.out⟩
end Go.Proofs.Ytnnmmojlgikdgaa

/- Lists of spans that the call owns. -/
namespace Go.Proofs.Ytnnmmojlgikdgaa
open Go.RowKit

abbrev OS9 (base : Nat) (v : Value) (l : List (Int × Int)) (w : World) : Prop := w.ownsRow base 27 2 v l.length (spanCells l)
theorem OS9.nil {base : Nat} {w : World} : OS9 base (.slice none 0 0) [] w := ⟨by simp [spanCells], .inl ⟨rfl, rfl⟩⟩
theorem OS9.stay {base : Nat} {v : Value} {l : List (Int × Int)} {w w' : World} (h : OS9 base v l w) (hb : Below w.heap.size w w') : OS9 base v l w' :=
  ⟨h.1, h.2.imp id fun ⟨g, cap, cur, e, hg, hc, h3⟩ => ⟨g, cap, cur, e, hg, (hb.block g (lt_of_block hc)).trans hc, h3⟩⟩
theorem OS9.rs {base : Nat} {v : Value} {l : List (Int × Int)} {w : World} (h : OS9 base v l w) : ∃ A c, v = .slice A l.length c ∧ l.length ≤ c ∧ RS w w.heap.size A l := by
  rcases h.2 with ⟨rfl, e⟩ | ⟨g, cap, cur, rfl, _, _, hcc, _⟩
  · have : l = [] := by simpa using e
    subst this
    exact ⟨none, 0, rfl, Nat.le_refl _, fun h => absurd h (by simp)⟩
  · refine ⟨_, cap, rfl, hcc, fun _ => ⟨g, 0, rfl, (h.lt g rfl).2, fun j p hp => ?_⟩⟩
    have hj := (List.getElem?_eq_some_iff.1 hp).1
    obtain ⟨g0, g1⟩ := spanCells_get _ _ hp
    rw [Nat.zero_add]
    exact ⟨(h.cellAt (j * 2) (by omega)).trans g0, (h.cellAt (j * 2 + 1) (by omega)).trans g1⟩
theorem wpList_pushSp {w : World} {ops : Array Oper} {rest : List Oper} {o : Oper} {a : Act} {Q : Exit → Act → World → Prop} (hgd : o.guard = none) (s x : Operand)
    (ho : o.op = .call { callee := .builtin .append, args := #[s, x], argTypes := #[40, 40] }) (base : Nat) (v : Value) (l : List (Int × Int)) (hs : a.eval s = v) (hown : OS9 base v l w)
    (g : Nat) (y : Int × Int) (hx : a.eval x = .slice (some ⟨g, 0, none⟩) 1 1) (hy0 : w.cell? ⟨g, 0, none⟩ = some (.int .i64 y.1)) (hy1 : w.cell? ⟨g, 1, none⟩ = some (.int .i64 y.2)) (hlen : l.length ≤ 1000000) (hbase : base ≤ w.heap.size)
    (h : ∀ v' w', OS9 base v' (l ++ [y]) w' → w.grownBy w' v.ownBlock → wpList Try.prog ops Q rest (a.put o.dst v') w') : wpList Try.prog ops Q (o :: rest) a w := by
  obtain ⟨i0, hi0, hz0, hz1, hz2⟩ := info_parts info_span
  refine wpList_append_own w hgd s x 40 ho base 27 i0 (.agg #[.int .i64 0, .int .i64 0]) 2 16 Try.underlying40 hi0 hz0 hz1 hz2 rfl (by decide) v l.length _ hs hown ⟨g, 0, none⟩ 1 1 (pV y) hx rfl (fun j u hu => ?_) (fun u hu => ?_) (by unfold maxLen; omega) (by omega) hbase (fun v' w' h1 h2 _ => h v' w' (by simpa [OS9, spanCells, pV] using h1) h2)
  · match j, hu with
    | 0, hu => simp [pV] at hu; subst hu; exact hy0
    | 1, hu => simp [pV] at hu; subst hu; exact hy1
    | j + 2, hu => simp [pV] at hu
  · simp [pV] at hu; rcases hu with rfl | rfl <;> rfl
end Go.Proofs.Ytnnmmojlgikdgaa

/- A drawn region whose last operation fills a box that it has made, with values that hang on the order. -/
namespace Go.Proofs.Ytnnmmojlgikdgaa
open Go.RowKit

def RL (Q : Nat → Value → World → Prop) (W0 : World) (s al : Nat) (R : Value → World → Prop) (val : Nat → Value) (L : Array Bool) (W : World) : Prop :=
  (L.getD s false = false → RQ Q W0 val L W) ∧ (L.getD s false = true → R (val al) W)
section
variable {Q : Nat → Value → World → Prop} {W0 W W' : World} {s al i : Nat} {R : Value → World → Prop} {v : Value} {val : Nat → Value} {L : Array Bool}
theorem RL.start (Q : Nat → Value → World → Prop) (W0 : World) (s al : Nat) (R : Value → World → Prop) (n : Nat) : RL Q W0 s al R (fun _ => undef) (Array.replicate n false) W0.drew :=
  ⟨fun _ => RQ.start Q W0 n, fun h => by rw [getD_replicate_no] at h; cases h⟩
theorem RL.step (h : RQ Q W0 val L W) (hQ : Stays Q) (hb : Below W.heap.size W W') (hq : Q i v W') (hs : i ≠ s) (hN : L.getD s false = false) : RL Q W0 s al R (upd val i v) (L.setIfInBounds i true) W' :=
  ⟨fun _ => h.step hQ hb hq, fun h2 => (by rw [getD_set_other hs, hN] at h2; cases h2)⟩
theorem RL.last (hls : s < L.size) (hne : al ≠ s) (hr : R (val al) W') : RL Q W0 s al R (upd val s v) (L.setIfInBounds s true) W' :=
  ⟨fun h2 => (by rw [getD_set_eq hls] at h2; cases h2), fun _ => by rw [upd_other hne]; exact hr⟩
variable {vals : List (Option Value)} {ex : Nat → Value → World → Prop}
theorem RL.go (h : RQ Q W0 val L W) (hQ : Stays Q) (HQ : Hid (Q = QG vals ex)) (i : Nat) {x : Value} (hx : vals[i]? = some (some x)) (hs : i ≠ s) (hN : L.getD s false = false) : ∀ v W', Below W.heap.size W W' → v = x → RL Q W0 s al R (upd val i v) (L.setIfInBounds i true) W' :=
  fun _ _ hb e => RL.step h hQ hb (QG.put HQ hx e) hs hN
theorem RL.goT (h : RQ Q W0 val L W) (hQ : Stays Q) {i : Nat} (hn : ∀ v W, Q i v W) (hs : i ≠ s) (hN : L.getD s false = false) : ∀ v W', Below W.heap.size W W' → True → RL Q W0 s al R (upd val i v) (L.setIfInBounds i true) W' :=
  fun v W' hb _ => RL.step h hQ hb (hn v W') hs hN
end
end Go.Proofs.Ytnnmmojlgikdgaa

/- The sets that a call allows. -/
namespace Go.Proofs.Ytnnmmojlgikdgaa
open Go.RowKit

theorem os_ne {B q : Nat} {v : Value} {l : List (Int × Int)} {W : World} {cs : Array Value} {m : Nat × Nat} (h : OS9 B v l W) (hq : W.heap[q]? = some (.cells cs 101 m)) : v.ownBlock ≠ some q := by
  intro e
  rcases h.2 with ⟨rfl, _⟩ | ⟨g, cap, cur, rfl, _, hc, _⟩
  · simp [Value.ownBlock] at e
  · simp [Value.ownBlock] at e
    subst e
    rw [hq] at hc
    injection hc with hc
    injection hc with _ hc
    exact absurd hc (by decide)
theorem os_set {B q o : Nat} {v u : Value} {l : List (Int × Int)} {W : World} (h : OS9 B v l W) (hne : v.ownBlock ≠ some q) : OS9 B v l (W.setCell ⟨q, o, none⟩ u) := World.ownsRow.kept h (grown_set (k := o) (v := u)) (Or.inr hne)
theorem list_two {α : Type} : ∀ {l : List α}, l.length = 2 → ∃ x y, l = [x, y]
  | [], h => by simp at h
  | [_], h => by simp at h
  | [x, y], _ => ⟨x, y, rfl⟩
  | _ :: _ :: _ :: _, h => by simp at h
/-- A box of sets that is filled. -/
theorem sets_fill {B g q : Nat} {N D d : Int} {l : List (Int × Int)} {W0 W : World} (h8 : OS9 B (.slice (some ⟨g, 0, none⟩) 2 2) l W) (h9 : W.heap[q]? = some (.cells #[.int .i64 0, .int .i64 0, .int .i64 0, .slice none 0 0] 101 (0, 0))) (hb : Below B W0 W) (hq : B ≤ q) :
    OS9 B (.slice (some ⟨g, 0, none⟩) 2 2) l ((((W.setCell ⟨q, 0, none⟩ (.int .i64 N)).setCell ⟨q, 1, none⟩ (.int .i64 D)).setCell ⟨q, 2, none⟩ (.int .i64 d)).setCell ⟨q, 3, none⟩ (.slice (some ⟨g, 0, none⟩) 2 2)) ∧
    ((((W.setCell ⟨q, 0, none⟩ (.int .i64 N)).setCell ⟨q, 1, none⟩ (.int .i64 D)).setCell ⟨q, 2, none⟩ (.int .i64 d)).setCell ⟨q, 3, none⟩ (.slice (some ⟨g, 0, none⟩) 2 2)).heap[q]? = some (.cells #[.int .i64 N, .int .i64 D, .int .i64 d, .slice (some ⟨g, 0, none⟩) 2 2] 101 (0, 0)) ∧
    Below B W0 ((((W.setCell ⟨q, 0, none⟩ (.int .i64 N)).setCell ⟨q, 1, none⟩ (.int .i64 D)).setCell ⟨q, 2, none⟩ (.int .i64 d)).setCell ⟨q, 3, none⟩ (.slice (some ⟨g, 0, none⟩) 2 2)) ∧ g ≠ q := by
  have hne : g ≠ q := by
    rintro rfl
    rcases h8.2 with ⟨e, _⟩ | ⟨g', cap, cur, e, _, hc, _⟩
    · simp at e
    · simp at e
      obtain ⟨rfl, _, _⟩ := e
      rw [h9] at hc
      injection hc with hc
      injection hc with _ hc
      exact absurd hc (by decide)
  have k : ∀ {W : World} (o : Nat) (v : Value), OS9 B (.slice (some ⟨g, 0, none⟩) 2 2) l W → OS9 B (.slice (some ⟨g, 0, none⟩) 2 2) l (W.setCell ⟨q, o, none⟩ v) := fun o v h => World.ownsRow.kept h (grown_set (k := o) (v := v)) (Or.inr (by intro e; cases e; exact hne rfl))
  exact ⟨k _ _ (k _ _ (k _ _ (k _ _ h8))), (block_setCell _ (block_setCell _ (block_setCell _ (block_setCell _ h9)))).trans (by rfl), (((hb.setCell (p := ⟨q, 0, none⟩) hq _).setCell (p := ⟨q, 1, none⟩) hq _).setCell (p := ⟨q, 2, none⟩) hq _).setCell (p := ⟨q, 3, none⟩) hq _, hne⟩
def TwoS (B : Nat) (l : List (Int × Int)) (v : Value) (W : World) : Prop := ∃ g, v = .slice (some ⟨g, 0, none⟩) 2 2 ∧ OS9 B (.slice (some ⟨g, 0, none⟩) 2 2) l W
theorem TwoS.stay {B : Nat} {l : List (Int × Int)} {v : Value} {W W' : World} (h : TwoS B l v W) (hb : Below W.heap.size W W') : TwoS B l v W' := by
  obtain ⟨g, e, h⟩ := h
  exact ⟨g, e, h.stay hb⟩
def AggS (B : Nat) (N D d : Int) (l : List (Int × Int)) (v : Value) (W : World) : Prop := ∃ g, v = .agg #[.int .i64 N, .int .i64 D, .int .i64 d, .slice (some ⟨g, 0, none⟩) 2 2] ∧ OS9 B (.slice (some ⟨g, 0, none⟩) 2 2) l W
theorem AggS.stay {B : Nat} {N D d : Int} {l : List (Int × Int)} {v : Value} {W W' : World} (h : AggS B N D d l v W) (hb : Below W.heap.size W W') : AggS B N D d l v W' := by
  obtain ⟨g, e, h⟩ := h
  exact ⟨g, e, h.stay hb⟩
def PtrS (B : Nat) (v : Value) (W : World) : Prop := ∃ q, v = .pointer (some ⟨q, 0, none⟩) ∧ B ≤ q ∧ W.heap[q]? = some (.cells #[.int .i64 0, .int .i64 0, .int .i64 0, .slice none 0 0] 101 (0, 0))
theorem PtrS.stay {B : Nat} {v : Value} {W W' : World} (h : PtrS B v W) (hb : Below W.heap.size W W') : PtrS B v W' := by
  obtain ⟨q, e, h1, h2⟩ := h
  exact ⟨q, e, h1, (hb.block _ (lt_of_block h2)).trans h2⟩

set_option maxRecDepth 100000 in
set_option maxHeartbeats 4000000 in
theorem allow_ok (N D d gl gh nn : Int) (Ab Al : Option Addr) (nb cb nl cl B : Nat) (b l : List (Int × Int)) (w : World) (hb : b.length = nb) (hnb : nb ≤ maxLen) (hl : l.length = nl) (hnl : nl ≤ maxLen) (hB : B ≤ w.heap.size) (hrb : RS w B Ab b) (hrl : RS w B Al l) (hs : slB N D d = true) (hc : chkB b = true) (hv : vS (gl, gh) = true) (hll : l.all vS = true) (hsf : saB b gl gh nn = true) :
    Calls Try.prog 63 #[.agg #[.int .i64 N, .int .i64 D, .int .i64 d], .slice Ab nb cb, .agg #[.int .i64 gl, .int .i64 gh], .int .i64 nn, .slice Al nl cl] w fun e w' => ∃ A c, e = .returned (.tuple #[.agg #[.int .i64 N, .int .i64 D, .int .i64 d, .slice A (nn.toNat + 2) c], .int .i64 0]) ∧ nn.toNat + 2 ≤ c ∧ RS w' w'.heap.size A (b ++ List.replicate nn.toNat (gl, gh)) ∧ Below w.heap.size w w' := by
  have HB29 := Lib.hid (show b.length = 2 by unfold saB at hsf; simp at hsf; exact hsf.1.1.1)
  have hnn : 0 ≤ nn ∧ nn ≤ 16 := by unfold saB at hsf; simp at hsf; exact hsf.1.2
  obtain ⟨m, rfl⟩ : ∃ m : Nat, nn = (m : Int) := ⟨nn.toNat, by omega⟩
  have hm : m ≤ 16 := by omega
  rw [Int.toNat_natCast]
  clear hnn
  have HA0 := Lib.hid (AW.start (N := N) (D := D) (d := d) (gl := gl) (gh := gh) (w := w))
  have HC := Lib.hid (fun W => slcheck_any N D d W)
  have HCB := Lib.hid (fun (W : World) (hW : Below w.heap.size w W) => check_any Ab nb cb w.heap.size b W hb hnb hW.size ((hrb.more hB).below hW))
  have HSG := Lib.hid (fun (W : World) (g : Nat) (hg : g < W.heap.size) (hr : RS W (g + 1) (some ⟨g, 0, none⟩) [(gl, gh)]) => checkSpans_any (some ⟨g, 0, none⟩) 1 1 (g + 1) [(gl, gh)] W rfl (le_maxLen (by omega)) hg hr)
  simp only [List.all_cons, List.all_nil, Bool.and_true] at HSG
  have HSL := Lib.hid (fun (W : World) (hW : Below w.heap.size w W) => checkSpans_any Al nl cl w.heap.size l W hl hnl hW.size ((hrl.more hB).below hW))
  have HWG := Lib.hid (fun (W : World) (g : Nat) (hr : RI W (g + 1) (some ⟨g, 0, none⟩) [gl, gh]) => within_any (-100) 100 (some ⟨g, 0, none⟩) 2 2 (g + 1) [gl, gh] W rfl (le_maxLen (by omega)) hr)
  have HWN := Lib.hid (fun (W : World) (g : Nat) (hr : RI W (g + 1) (some ⟨g, 0, none⟩) [(m : Int)]) => within_any 0 16 (some ⟨g, 0, none⟩) 1 1 (g + 1) [(m : Int)] W rfl (le_maxLen (by omega)) hr)
  have HWS := Lib.hid (fun (x1 x2 : Int) (W : World) (g : Nat) (hr : RI W (g + 1) (some ⟨g, 0, none⟩) [x1, x2]) => within_any (-1000) 1000 (some ⟨g, 0, none⟩) 2 2 (g + 1) [x1, x2] W rfl (le_maxLen (by omega)) hr)
  rw [slE_yes hs] at HC
  rw [chkE_yes hc] at HCB
  rw [hv] at HSG
  rw [hll] at HSL
  have HRB := Lib.hid (fun (W : World) (hW : Below w.heap.size w W) => (hrb.more hB).below hW)
  have hn3 : nb ≤ 3 := by unfold chkB at hc; simp at hc; omega
  obtain ⟨r0, hr0⟩ : ∃ r, ((decide (b.length = 2) && wB (-100) 100 [gl, gh]) && decide (0 ≤ (m : Int) ∧ (m : Int) ≤ 16)) = r := ⟨_, rfl⟩
  have hsa : saB b gl gh (m : Int) = (r0 && b.all fun s => wB (-1000) 1000 [s.1, s.2]) := by unfold saB; rw [hr0]
  have HR0 := Lib.hid hr0
  have HSA := Lib.hid hsa
  clear hs hc hv hll hr0 hsa hrb hrl
  subst hb
  have HSF := Lib.hid hsf
  clear hsf
  go_enter Try.func63, Try.ntmps63
  go_upto_region 1 with (fail)
  generalize World.alloc _ _ = w1 at *
  have s0 := cellOf (o := 0) HA0.out.s rfl
  have s1 := cellOf (o := 1) HA0.out.s rfl
  have s2 := cellOf (o := 2) HA0.out.s rfl
  have g0 := cellOf (o := 0) HA0.out.g rfl
  have g1 := cellOf (o := 1) HA0.out.g rfl
  have l0 := lt_of_block HA0.out.s
  have l1 := lt_of_block HA0.out.g
  have l2 := lt_of_block HA0.out.r
  go_upto_region 2 with (go_at_call 15; refine Calls.mono (HC.out _) ?_; rintro e w2 ⟨rfl, hb2⟩; have HA2 := Lib.hid (HA0.out.next hb2); clear hb2 s0 s1 s2 g0 g1 l0 l1 l2)
  go_upto_region 6 with (first
    | (go_at_call 97; refine Calls.mono (HCB.out _ HA2.out.b) ?_; rintro e w3 ⟨rfl, hb3⟩; have HA3 := Lib.hid (HA2.out.next hb3); clear hb3; have g0 := cellOf (o := 0) HA3.out.g rfl; have g1 := cellOf (o := 1) HA3.out.g rfl; have l1 := lt_of_block HA3.out.g)
    | (go_at_call_of 59 (Value.slice Al nl cl); refine Calls.mono (HSL.out _ HA4.out.b) ?_; rintro e w5 ⟨rfl, hb5⟩; have HA5 := Lib.hid (HA4.out.next hb5); clear hb5)
    | (go_at_call 59; refine Calls.mono (HSG.out _ _ (by simp) (RS.new1 (by simp))) ?_; rintro e w4 ⟨rfl, hb4⟩; have HA4 := Lib.hid ((HA3.out.alloc _).next hb4); clear hb4 g0 g1 l1))
  go_cut [13] (fun u13 wx => u13 = .bool r0 ∧ AW N D d gl gh w wx)
  case first =>
    have g0 := cellOf (o := 0) HA5.out.g rfl
    have g1 := cellOf (o := 1) HA5.out.g rfl
    have l1 := lt_of_block HA5.out.g
    by_cases h2 : b.length = 2
    · obtain ⟨rg, hrg⟩ : ∃ r, wB (-100) 100 [gl, gh] = r := ⟨_, rfl⟩
      obtain ⟨rn, hrn⟩ : ∃ r, decide (0 ≤ (m : Int) ∧ (m : Int) ≤ 16) = r := ⟨_, rfl⟩
      have hr := HR0.out
      rw [hrg, hrn, decide_eq_true h2, Bool.true_and] at hr
      rw [hrg] at HWG
      rw [wB_one, hrn] at HWN
      have HRR := Lib.hid hr
      have hbi : ((b.length : Int) == 2) = true := by simp; omega
      clear hrg hrn hr h2
      cases rg with
      | false =>
        go_wp2_with (go_at_call 49; refine Calls.mono (HWG.out _ _ (RI.new2 (by simp))) ?_; rintro e w6 ⟨rfl, rfl⟩)
        go_meet
        case rel => exact ⟨by rw [← HRR.out]; rfl, HA5.out.alloc _⟩
      | true =>
        go_wp2_with (first
          | (go_at_call_of 49 (Value.int .i64 0); refine Calls.mono (HWN.out _ _ (RI.new1 (by simp))) ?_; rintro e w7 ⟨rfl, rfl⟩)
          | (go_at_call 49; refine Calls.mono (HWG.out _ _ (RI.new2 (by simp))) ?_; rintro e w6 ⟨rfl, rfl⟩))
        go_meet
        case rel => exact ⟨by rw [← HRR.out]; rfl, (HA5.out.alloc _).alloc _⟩
    · have hr := HR0.out
      rw [decide_eq_false h2] at hr
      have HRR := Lib.hid hr
      have hbi : ((b.length : Int) == 2) = false := by simp; omega
      clear hr h2 g0 g1 l1
      go_wp2
      go_meet
      case rel => exact ⟨by rw [← HRR.out]; rfl, HA5.out⟩
  case rest =>
    obtain ⟨rfl, haw⟩ := hcut
    have HA6 := Lib.hid haw
    clear haw
    go_upto_region 8 with (fail)
    go_loopw [13, 56] (fun ur ui wr => ∃ j : Nat, j ≤ b.length ∧ ui = .int .i64 j ∧ ur = .bool (r0 && (b.take j).all fun s => wB (-1000) 1000 [s.1, s.2]) ∧ Below wc.heap.size wc wr) (fun _ ui _ => b.length - (intOf ui).toNat)
    case atStart => exact ⟨0, Nat.zero_le _, rfl, by simp, Below.refl _ _⟩
    case round =>
      obtain ⟨j, hj, rfl, rfl, hbw⟩ := hrel
      have HAW := Lib.hid (HA6.out.next hbw)
      have HBW := Lib.hid hbw
      clear hbw
      by_cases hlt : j < b.length
      · obtain ⟨bb, off, s, rfl, hbb, hsx, hc1, hc2⟩ := (HRB.out wr HAW.out.b).at_ hlt
        have hlb : bb < wr.heap.size := World.block_lt_of_cell? _ _ hc1
        have htk : (b.take (j + 1)).all (fun s => wB (-1000) 1000 [s.1, s.2]) = ((b.take j).all (fun s => wB (-1000) 1000 [s.1, s.2]) && wB (-1000) 1000 [s.1, s.2]) := by
          rw [List.take_add_one, hsx, List.all_append]
          simp
        obtain ⟨x1, x2⟩ := s
        simp only at hc1 hc2 htk
        obtain ⟨rs, hrs⟩ : ∃ r, wB (-1000) 1000 [x1, x2] = r := ⟨_, rfl⟩
        obtain ⟨rj, hrj⟩ : ∃ r, (r0 && (b.take j).all fun s => wB (-1000) 1000 [s.1, s.2]) = r := ⟨_, rfl⟩
        have HW2 := Lib.hid (fun W g hr => by have := HWS.out x1 x2 W g hr; rw [hrs] at this; exact this)
        have HTK := Lib.hid (show (r0 && (b.take (j + 1)).all fun s => wB (-1000) 1000 [s.1, s.2]) = (rj && rs) by rw [htk, ← Bool.and_assoc, hrj, hrs])
        rw [hrj]
        clear htk hrs hrj hsx hbb
        cases rj with
        | false =>
          go_wp2
          go_roundw
          case rel => exact ⟨j + 1, hlt, by go_num, by rw [HTK.out]; rfl, HBW.out.alloc HBW.out.size _⟩
          case measure => simp [intOf] <;> omega
        | true =>
          go_wp2_with (go_at_call 49; refine Calls.mono (HW2.out _ _ (RI.new2 (by simp))) ?_; rintro e w6 ⟨rfl, rfl⟩)
          go_roundw
          case rel => exact ⟨j + 1, hlt, by go_num, by rw [HTK.out]; rfl, (HBW.out.alloc HBW.out.size _).alloc (by simp; have := HBW.out.size; omega) _⟩
          case measure => simp [intOf] <;> omega
      · obtain rfl : j = b.length := by omega
        rw [List.take_length, ← HSA.out]
        clear hlt
        rw [HSF.out]
        obtain ⟨⟨a1, a2⟩, ⟨c1, c2⟩, e2⟩ := list_two HB29.out
        have HE2 := Lib.hid e2
        have hrb2 := HRB.out wr HAW.out.b
        rw [e2] at hrb2
        clear e2
        obtain ⟨bb, off, rfl, hbb, hc⟩ := hrb2 (by simp)
        obtain ⟨x0, x1⟩ := hc 0 _ rfl
        obtain ⟨x2, x3⟩ := hc 1 _ rfl
        simp only [Nat.zero_mul, Nat.one_mul, Nat.add_zero] at x0 x1 x2 x3
        have lb : bb < wr.heap.size := World.block_lt_of_cell? _ _ x0
        have hl0 : 0 < b.length := by have := HB29.out; omega
        have hl1 : 1 < b.length := by have := HB29.out; omega
        have hl1i : (1 : Int) < (b.length : Int) := by omega
        have hl0i : (0 : Int) < (b.length : Int) := by omega
        clear hc hbb
        have s0 := cellOf (o := 0) HAW.out.s rfl
        have s1 := cellOf (o := 1) HAW.out.s rfl
        have s2 := cellOf (o := 2) HAW.out.s rfl
        have g0 := cellOf (o := 0) HAW.out.g rfl
        have g1 := cellOf (o := 1) HAW.out.g rfl
        have l0 := lt_of_block HAW.out.s
        have l1 := lt_of_block HAW.out.g
        have l2 := lt_of_block HAW.out.r
        go_upto_region 14 with (fail)
        obtain ⟨Q, hQ⟩ : ∃ q9 : Nat → Value → World → Prop, q9 = QG [some (.agg #[.int .i64 N, .int .i64 D, .int .i64 d]), some (.slice (some ⟨bb, off, none⟩) b.length cb), some (.pointer (some ⟨bb, off, none⟩)), some (.agg #[.int .i64 a1, .int .i64 a2]), some (.slice (some ⟨bb, off, none⟩) b.length cb), some (.pointer (some ⟨bb, off + 2, none⟩)), some (.agg #[.int .i64 c1, .int .i64 c2]), none, none, none, none] (fun j0' v0' w0' => (j0' = 7 → TwoS wr.heap.size [(a1, a2), (c1, c2)] v0' w0') ∧ (j0' = 8 → AggS wr.heap.size N D d [(a1, a2), (c1, c2)] v0' w0') ∧ (j0' = 9 → PtrS wr.heap.size v0' w0')) := ⟨_, rfl⟩
        have hst : Stays Q := by rw [hQ]; exact QG.stays (fun j v W W' h hb => ⟨fun e => (h.1 e).stay hb, fun e => (h.2.1 e).stay hb, fun e => (h.2.2 e).stay hb⟩)
        have U7 := Lib.hid (show ∀ v0' w0', Q 7 v0' w0' ↔ TwoS wr.heap.size [(a1, a2), (c1, c2)] v0' w0' from fun v0' w0' => by rw [hQ]; exact ⟨fun h => h.1 rfl, fun h => ⟨fun _ => h, fun e => absurd e (by decide), fun e => absurd e (by decide)⟩⟩)
        have U8 := Lib.hid (show ∀ v0' w0', Q 8 v0' w0' ↔ AggS wr.heap.size N D d [(a1, a2), (c1, c2)] v0' w0' from fun v0' w0' => by rw [hQ]; exact ⟨fun h => h.2.1 rfl, fun h => ⟨fun e => absurd e (by decide), fun _ => h, fun e => absurd e (by decide)⟩⟩)
        have U9 := Lib.hid (show ∀ v0' w0', Q 9 v0' w0' ↔ PtrS wr.heap.size v0' w0' from fun v0' w0' => by rw [hQ]; exact ⟨fun h => h.2.2 rfl, fun h => ⟨fun e => absurd e (by decide), fun e => absurd e (by decide), fun _ => h⟩⟩)
        have HQ := Lib.hid hQ
        clear hQ
        obtain ⟨RX, hRX⟩ : ∃ f9 : Value → World → Prop, f9 = (fun v W => ∃ q g, v = .pointer (some ⟨q, 0, none⟩) ∧ wr.heap.size ≤ q ∧ OS9 wr.heap.size (.slice (some ⟨g, 0, none⟩) 2 2) [(a1, a2), (c1, c2)] W ∧ W.heap[q]? = some (.cells #[.int .i64 N, .int .i64 D, .int .i64 d, .slice (some ⟨g, 0, none⟩) 2 2] 101 (0, 0)) ∧ Below wr.heap.size wr W ∧ g ≠ q) := ⟨_, rfl⟩
        have HRX := Lib.hid hRX
        clear hRX
        refine wpIn_wide.1 (region_inv2 (n := 9) (by kernel_rfl) (RL Q wr 10 9 RX) (by kernel_rfl) rfl (RL.start _ _ _ _ _ _) ?hstep ?hend)
        case hstep =>
          intro i' o ho val L b' x hF hR hpre hl
          match i', ho with
          | 0, ho =>
            simp at ho; subst ho; refine step_plain rfl ?_; have hN := hF.later hl 10 rfl (e := ⟨0, .phase⟩) (by simp) rfl rfl
            have hR := hR.1 hN
            have e5 := hF.was 5 (by kernel_rfl) rfl; have hgoal := RL.go (al := 9) (R := RX) hR hst HQ 0 rfl (by decide) hN; have q0 := cell_keep hR.1 s0; have q1 := cell_keep hR.1 s1; have q2 := cell_keep hR.1 s2; clear hF hpre hl hR hN; go_simp; exact ⟨_, rfl, hgoal _ _ (Below.refl _ _) rfl⟩
          | 1, ho =>
            simp at ho; subst ho; refine step_plain rfl ?_; have hN := hF.later hl 10 rfl (e := ⟨1, .phase⟩) (by simp) rfl rfl
            have hR := hR.1 hN
            have e1 := hF.was 1 (by kernel_rfl) rfl; have hgoal := RL.go (al := 9) (R := RX) hR hst HQ 1 rfl (by decide) hN; clear hF hpre hl hR hN; go_simp; exact ⟨_, rfl, hgoal _ _ (Below.refl _ _) rfl⟩
          | 2, ho =>
            simp at ho; subst ho; refine step_plain rfl ?_; have hN := hF.later hl 10 rfl (e := ⟨2, .phase⟩) (by simp) rfl rfl
            have hR := hR.1 hN
            have e74 := hF.gv hR.2 HQ 1 rfl (hpre ⟨1, .data⟩ (by simp) rfl) rfl; have hgoal := RL.go (al := 9) (R := RX) hR hst HQ 2 rfl (by decide) hN; clear hF hpre hl hR hN; go_simp; exact ⟨_, rfl, hgoal _ _ (Below.refl _ _) rfl⟩
          | 3, ho =>
            simp at ho; subst ho; refine step_plain rfl ?_; have hN := hF.later hl 10 rfl (e := ⟨3, .phase⟩) (by simp) rfl rfl
            have hR := hR.1 hN
            have e75 := hF.gv hR.2 HQ 2 rfl (hpre ⟨2, .data⟩ (by simp) rfl) rfl; have hgoal := RL.go (al := 9) (R := RX) hR hst HQ 3 rfl (by decide) hN; have q0 := cell_keep hR.1 x0; have q1 := cell_keep hR.1 x1; clear hF hpre hl hR hN; go_simp; exact ⟨_, rfl, hgoal _ _ (Below.refl _ _) rfl⟩
          | 4, ho =>
            simp at ho; subst ho; refine step_plain rfl ?_; have hN := hF.later hl 10 rfl (e := ⟨4, .phase⟩) (by simp) rfl rfl
            have hR := hR.1 hN
            have e1 := hF.was 1 (by kernel_rfl) rfl; have hgoal := RL.go (al := 9) (R := RX) hR hst HQ 4 rfl (by decide) hN; clear hF hpre hl hR hN; go_simp; exact ⟨_, rfl, hgoal _ _ (Below.refl _ _) rfl⟩
          | 5, ho =>
            simp at ho; subst ho; refine step_plain rfl ?_; have hN := hF.later hl 10 rfl (e := ⟨5, .phase⟩) (by simp) rfl rfl
            have hR := hR.1 hN
            have e77 := hF.gv hR.2 HQ 4 rfl (hpre ⟨4, .data⟩ (by simp) rfl) rfl; have hgoal := RL.go (al := 9) (R := RX) hR hst HQ 5 rfl (by decide) hN; clear hF hpre hl hR hN; go_simp; exact ⟨_, rfl, hgoal _ _ (Below.refl _ _) rfl⟩
          | 6, ho =>
            simp at ho; subst ho; refine step_plain rfl ?_; have hN := hF.later hl 10 rfl (e := ⟨6, .phase⟩) (by simp) rfl rfl
            have hR := hR.1 hN
            have e78 := hF.gv hR.2 HQ 5 rfl (hpre ⟨5, .data⟩ (by simp) rfl) rfl; have hgoal := RL.go (al := 9) (R := RX) hR hst HQ 6 rfl (by decide) hN; have q0 := cell_keep hR.1 x2; have q1 := cell_keep hR.1 x3; clear hF hpre hl hR hN; go_simp; exact ⟨_, rfl, hgoal _ _ (Below.refl _ _) rfl⟩
          | 7, ho =>
            simp at ho; subst ho; refine step_plain rfl ?_; have hN := hF.later hl 10 rfl (e := ⟨7, .phase⟩) (by simp) rfl rfl
            have hR := hR.1 hN
            have e76 := hF.gv hR.2 HQ 3 rfl (hpre ⟨3, .data⟩ (by simp) rfl) rfl; have e79 := hF.gv hR.2 HQ 6 rfl (hpre ⟨6, .data⟩ (by simp) rfl) rfl
            have hgoal : ∀ v0' w0', Below x.heap.size x w0' → TwoS wr.heap.size [(a1, a2), (c1, c2)] v0' w0' → RL Q wr 10 9 RX (upd val 7 v0') (L.setIfInBounds 7 true) w0' := fun v0' w0' hb hq => RL.step hR hst hb ((U7.out _ _).2 hq) (by decide) hN
            have hM := Lib.hid hR.1
            clear hF hpre hl hR hN; go_simp
            refine ⟨_, rfl, hgoal _ _ ((Below.refl _ _).alloc (Nat.le_refl _) _) ⟨_, rfl, ?_⟩⟩
            have := (World.ownsRow_lit (base := x.heap.size) (e := 27) (size := 2) x #[.int .i64 a1, .int .i64 a2, .int .i64 c1, .int .i64 c2] 2 (by simp) (le_maxLen (by omega)) (by simp)).mono hM.out.size
            simpa [OS9, spanCells] using this
          | 8, ho =>
            simp at ho; subst ho; refine step_plain rfl ?_; have hN := hF.later hl 10 rfl (e := ⟨8, .data⟩) (by simp) rfl rfl
            have hR := hR.1 hN
            have e73 := hF.gv hR.2 HQ 0 rfl (hpre ⟨0, .data⟩ (by simp) rfl) rfl; have e80 := hF.gave 7 rfl (hpre ⟨7, .data⟩ (by simp) rfl) rfl
            have v7 := (U7.out _ _).1 (hR.2 7 (hpre ⟨7, .data⟩ (by simp) rfl))
            have hgoal : ∀ v0' w0', Below x.heap.size x w0' → AggS wr.heap.size N D d [(a1, a2), (c1, c2)] v0' w0' → RL Q wr 10 9 RX (upd val 8 v0') (L.setIfInBounds 8 true) w0' := fun v0' w0' hb hq => RL.step hR hst hb ((U8.out _ _).2 hq) (by decide) hN
            have hM := Lib.hid hR.1
            clear hF hpre hl hR hN
            obtain ⟨g, e8, h8⟩ := v7
            rw [e8] at e80
            go_simp; exact ⟨_, rfl, hgoal _ _ (Below.refl _ _) ⟨g, rfl, h8⟩⟩
          | 9, ho =>
            simp at ho; subst ho; refine step_plain rfl ?_; have hN := hF.later hl 10 rfl (e := ⟨9, .data⟩) (by simp) rfl rfl
            have hR := hR.1 hN
            have hgoal : ∀ v0' w0', Below x.heap.size x w0' → PtrS wr.heap.size v0' w0' → RL Q wr 10 9 RX (upd val 9 v0') (L.setIfInBounds 9 true) w0' := fun v0' w0' hb hq => RL.step hR hst hb ((U9.out _ _).2 hq) (by decide) hN
            have hM := Lib.hid hR.1
            clear hF hpre hl hR hN; go_simp; exact ⟨_, rfl, hgoal _ _ ((Below.refl _ _).alloc (Nat.le_refl _) _) ⟨_, rfl, hM.out.size, blk_new _ _ _ rfl⟩⟩
          | 10, ho =>
            simp at ho; subst ho; refine step_plain rfl ?_; have hN := hF.none2 hl (by decide)
            have hls : 10 < L.size := by rw [hF.lsize]; decide
            have hR := hR.1 hN
            have e16 := hF.gave 9 rfl (hpre ⟨9, .data⟩ (by simp) rfl) rfl
            have v9 := (U9.out _ _).1 (hR.2 9 (hpre ⟨9, .data⟩ (by simp) rfl))
            have e81 := hF.gave 8 rfl (hpre ⟨8, .data⟩ (by simp) rfl) rfl
            have v8 := (U8.out _ _).1 (hR.2 8 (hpre ⟨8, .data⟩ (by simp) rfl))
            obtain ⟨g, e8, h8⟩ := v8
            obtain ⟨q, e9, hq, h9⟩ := v9
            rw [e8] at e81
            rw [e9] at e16
            have hR9 := sets_fill (N := N) (D := D) (d := d) h8 h9 hR.1 hq
            have k0 := cellOf (o := 0) h9 rfl
            have f0 := freeOf (o := 0) h9
            have k1 := cellOf (o := 1) h9 rfl
            have f1 := freeOf (o := 1) h9
            have k2 := cellOf (o := 2) h9 rfl
            have f2 := freeOf (o := 2) h9
            have k3 := cellOf (o := 3) h9 rfl
            have f3 := freeOf (o := 3) h9
            have lq := lt_of_block h9
            have HG := Lib.hid (And.intro hls (And.intro e9 (And.intro hq hR9)))
            clear hF hpre hl hR hls hN h8 h9 hR9 hq e8 e9; go_simp
            exact ⟨undef, by rw [HRX.out]; exact RL.last HG.out.1 (by decide) ⟨q, g, HG.out.2.1, HG.out.2.2.1, HG.out.2.2.2.1, HG.out.2.2.2.2.1, HG.out.2.2.2.2.2⟩⟩
          | i + 11, ho => simp at ho
        case hend =>
          intro val L b' x hF hall hR
          have e := hF.all (by kernel_rfl) hall
          have rl := hR.2 (hall 10 (by decide))
          rw [HRX.out] at rl
          have RL := Lib.hid rl
          clear hF hall hR hst HRX rl HQ U7 U8 U9
          subst e
          simp [final, dstOf, List.range, List.range.loop]
          obtain ⟨q, g, ev, hqw, hos, hbq, hbw, hne⟩ := RL.out
          rw [ev]
          have HOS := Lib.hid hos
          have HBQ := Lib.hid hbq
          have HBX := Lib.hid hbw
          clear ev hos hbq hbw hne s0 s1 s2 g0 g1 l0 l1 l2 x0 x1 x2 x3 lb hl0 hl1 hl0i hl1i RL
          go_upto_region 16 with (fail)
          go_loopw [83] (fun ui w3 => ∃ (j : Nat) (v : Value), j ≤ m ∧ ui = .int .i64 j ∧ OS9 wr.heap.size v ([(a1, a2), (c1, c2)] ++ List.replicate j (gl, gh)) w3 ∧ w3.heap[q]? = some (.cells #[.int .i64 N, .int .i64 D, .int .i64 d, v] 101 (0, 0)) ∧ Below wr.heap.size wr w3) (fun ui _ => m - (intOf ui).toNat)
          case atStart => exact ⟨0, _, Nat.zero_le _, rfl, by simpa using HOS.out, HBQ.out, HBX.out⟩
          case round =>
            obtain ⟨j, v, hj, rfl, hos, hbq, hbw⟩ := hrel
            have el : ([(a1, a2), (c1, c2)] ++ List.replicate j (gl, gh)).length = j + 2 := by simp
            obtain ⟨A9, c9, ev9, hc9, hr9⟩ := hos.rs
            rw [el] at ev9 hc9
            subst ev9
            have HC9 := Lib.hid hc9
            clear el hc9 hr9
            have HA9 := Lib.hid (HAW.out.next hbw)
            have HO9 := Lib.hid hos
            have HQ9 := Lib.hid hbq
            have HB9 := Lib.hid hbw
            have k0 := cellOf (o := 0) hbq rfl
            have k1 := cellOf (o := 1) hbq rfl
            have k2 := cellOf (o := 2) hbq rfl
            have k3 := cellOf (o := 3) hbq rfl
            have lq := lt_of_block hbq
            by_cases hlt : j < m
            · have g0 := cellOf (o := 0) HA9.out.g rfl
              have g1 := cellOf (o := 1) HA9.out.g rfl
              have l1 := lt_of_block HA9.out.g
              clear hos hbq hbw
              have hlen : ([(a1, a2), (c1, c2)] ++ List.replicate j (gl, gh)).length ≤ 1000000 := by simp; omega
              go_wp2_with (at_builtin; refine wpList_pushSp rfl _ _ rfl _ _ _ rfl (HO9.out.stay ((Below.refl wr.heap.size wr).alloc (Nat.le_refl _) (.cells #[.int .i64 gl, .int .i64 gh] 27))) wr.heap.size (gl, gh) rfl (by rw [cell_newest]; rfl) (by rw [cell_newest]; rfl) hlen (by have := HB9.out.size; simp; omega) ?_)
              intro v' w' hv' hg'
              have hbq' := (hg'.block q (by simp; omega) (fun e => os_ne HO9.out HQ9.out e.symm)).trans (blk_old (.cells #[.int .i64 gl, .int .i64 gh] 27) HQ9.out)
              have hbw' := (HB9.out.alloc HB9.out.size (.cells #[.int .i64 gl, .int .i64 gh] 27)).grown hg' (by simp; have := HB9.out.size; omega) (fun k hk => (HO9.out.lt k hk).1)
              have HV' := Lib.hid hv'
              obtain ⟨A', c', ev', _, _⟩ := hv'.rs
              have HQ' := Lib.hid hbq'
              have HB' := Lib.hid hbw'
              clear k0 k1 k2 k3 lq g0 g1 l1
              have k3' := cellOf (o := 3) hbq' rfl
              have f3' := freeOf (o := 3) hbq'
              have lq' := lt_of_block hbq'
              obtain ⟨n', hn'⟩ : ∃ n', ((a1, a2) :: (c1, c2) :: (List.replicate j (gl, gh) ++ [(gl, gh)])).length = n' := ⟨_, rfl⟩
              rw [hn'] at ev'
              clear hv' hg' hbq' hbw' hn'
              subst ev'
              go_wp2
              go_roundw
              case rel =>
                refine ⟨j + 1, _, hlt, by go_num, ?_, (block_setCell (o := 3) _ HQ'.out).trans (by rfl), HB'.out.setCell (p := ⟨q, 3, none⟩) hqw _⟩
                have h9 := os_set (o := 3) (u := .slice A' n' c') HV'.out (os_ne HV'.out HQ'.out)
                rw [← List.replicate_succ'] at h9
                exact h9
              case measure => simp [intOf] <;> omega
            · obtain rfl : m = j := by omega
              clear hos hbq hbw
              have r0 := cellOf (o := 0) HA9.out.r rfl
              have f0 := freeOf (o := 0) HA9.out.r
              have r1 := cellOf (o := 1) HA9.out.r rfl
              have f1 := freeOf (o := 1) HA9.out.r
              have r2 := cellOf (o := 2) HA9.out.r rfl
              have f2 := freeOf (o := 2) HA9.out.r
              have r3 := cellOf (o := 3) HA9.out.r rfl
              have f3 := freeOf (o := 3) HA9.out.r
              have l2 := lt_of_block HA9.out.r
              go_wp2
              have hp9 := HA9.out.put N D d (.slice A9 (m + 2) c9)
              have hq9 := HA9.out.putB N D d (.slice A9 (m + 2) c9)
              have hne := os_ne HO9.out HA9.out.r
              have ho9 := os_set (o := 3) (u := .slice A9 (m + 2) c9) (os_set (o := 2) (u := .int .i64 d) (os_set (o := 1) (u := .int .i64 D) (os_set (o := 0) (u := .int .i64 N) HO9.out hne) hne) hne) hne
              clear r0 r1 r2 r3 f0 f1 f2 f3 l2 k0 k1 k2 k3 lq
              generalize (((World.setCell wr _ _).setCell _ _).setCell _ _).setCell _ _ = w9 at *
              have d0 := cellOf (o := 0) hp9 rfl
              have d1' := cellOf (o := 1) hp9 rfl
              have d2' := cellOf (o := 2) hp9 rfl
              have d3 := cellOf (o := 3) hp9 rfl
              obtain ⟨A, c, e9, _, hr9⟩ := ho9.rs
              injection e9 with e1 e2 e3
              subst e1
              refine bodyPost_ret (v := .tuple #[.agg #[.int .i64 N, .int .i64 D, .int .i64 d, .slice A9 (m + 2) c9], .int .i64 0]) (by simp [results, Try.results63, go_sem, d0, d1', d2', d3]) rfl ?_
              refine ⟨A9, c9, rfl, HC9.out, ?_, hq9⟩
              rw [HE2.out]
              exact hr9
end Go.Proofs.Ytnnmmojlgikdgaa

/- CheckSets. -/
namespace Go.Proofs.Ytnnmmojlgikdgaa
open Go.RowKit

/-- The boxes of a sling and gusts. -/
structure AV (N D d gl gh : Int) (w W : World) : Prop where
  s : W.heap[w.heap.size]? = some (.cells #[.int .i64 N, .int .i64 D, .int .i64 d] 23 (0, 0))
  g : W.heap[w.heap.size + 1]? = some (.cells #[.int .i64 gl, .int .i64 gh] 27 (0, 0))
  b : Below w.heap.size w W
section
variable {N D d gl gh : Int} {w W W' : World}
theorem AV.next (h : AV N D d gl gh w W) (hb : Below W.heap.size W W') : AV N D d gl gh w W' :=
  ⟨(hb.block _ (lt_of_block h.s)).trans h.s, (hb.block _ (lt_of_block h.g)).trans h.g, h.b.trans (hb.mono h.b.size)⟩
theorem AV.alloc (h : AV N D d gl gh w W) (o : Obj) : AV N D d gl gh w (W.alloc o) := h.next ((Below.refl _ _).alloc (Nat.le_refl _) _)
theorem AV.start : AV N D d gl gh w ((w.alloc (.cells #[.int .i64 N, .int .i64 D, .int .i64 d] 23)).alloc (.cells #[.int .i64 gl, .int .i64 gh] 27)) :=
  ⟨blk_old _ (blk_new _ _ _ rfl), blk_new _ _ _ (by simp), by go_grown⟩
end
theorem inM_wB {lo hi most : Int} (h : lo ≤ hi) : inM lo hi most = wB (-most) most [lo, hi] := by
  unfold inM wB
  simp only [List.all_cons, List.all_nil, Bool.and_true]
  rw [Bool.eq_iff_iff]
  simp only [Bool.and_eq_true, decide_eq_true_eq]
  omega
theorem saB_nu {a1 a2 c1 c2 gl gh nn : Int} (hc : chkB [(a1, a2), (c1, c2)] = true) (hv : vS (gl, gh) = true) : saB [(a1, a2), (c1, c2)] gl gh nn = nuB a1 a2 c1 c2 gl gh nn := by
  have h : vS (a1, a2) = true ∧ vS (c1, c2) = true := by
    unfold chkB at hc
    simpa using hc
  unfold saB nuB
  rw [inM_wB (vS_get h.1).1, inM_wB (vS_get h.2).1, inM_wB (vS_get hv).1]
  simp only [List.all_cons, List.all_nil, Bool.and_true, List.length_cons, List.length_nil]
  cases wB (-1000) 1000 [a1, a2] <;> cases wB (-1000) 1000 [c1, c2] <;> cases wB (-100) 100 [gl, gh] <;> cases decide (0 ≤ nn ∧ nn ≤ 16) <;> rfl
theorem saB_len {b : List (Int × Int)} {gl gh nn : Int} (h : b.length ≠ 2) : saB b gl gh nn = false := by
  unfold saB
  rw [decide_eq_false h]
  rfl

set_option maxRecDepth 100000 in
set_option maxHeartbeats 2000000 in
theorem checkSets_any (N D d gl gh nn : Int) (Ab : Option Addr) (nb cb B : Nat) (b : List (Int × Int)) (w : World) (hb : b.length = nb) (hnb : nb ≤ maxLen) (hB : B ≤ w.heap.size) (hr : RS w B Ab b) :
    Calls Try.prog 40 #[.agg #[.int .i64 N, .int .i64 D, .int .i64 d], .slice Ab nb cb, .agg #[.int .i64 gl, .int .i64 gh], .int .i64 nn] w fun e w' => e = .returned (.int .i64 (alE N D d b gl gh nn [])) ∧ Below w.heap.size w w' := by
  have HA0 := Lib.hid (AV.start (N := N) (D := D) (d := d) (gl := gl) (gh := gh) (w := w))
  have HC := Lib.hid (fun W => rslcheck_any N D d W)
  have HCB := Lib.hid (fun (W : World) (hW : Below w.heap.size w W) => rcheck_any Ab nb cb w.heap.size b W hb hnb hW.size ((hr.more hB).below hW))
  have HV := Lib.hid (fun W => rvalid_any gl gh W)
  rw [← vS_vI gl gh] at HV
  cases hs : slB N D d with
  | false =>
    have hE : alE N D d b gl gh nn [] = 70 := by unfold alE; rw [hs]; rfl
    rw [slE_no hs] at HC
    rw [hE]
    clear hs hE hr hb
    go_enter Try.func40, Try.ntmps40
    go_upto_region 1 with (fail)
    generalize World.alloc _ _ = w1 at *
    have s0 := cellOf (o := 0) HA0.out.s rfl
    have s1 := cellOf (o := 1) HA0.out.s rfl
    have s2 := cellOf (o := 2) HA0.out.s rfl
    have g0 := cellOf (o := 0) HA0.out.g rfl
    have g1 := cellOf (o := 1) HA0.out.g rfl
    have l0 := lt_of_block HA0.out.s
    have l1 := lt_of_block HA0.out.g
    go_wp2_with (first
      | (go_at_call 16; refine Calls.mono (HC.out _) ?_; rintro e w2 ⟨rfl, hb2⟩; have HA2 := Lib.hid (HA0.out.next hb2); clear hb2 s0 s1 s2 g0 g1 l0 l1; have s0 := cellOf (o := 0) HA2.out.s rfl; have s1 := cellOf (o := 1) HA2.out.s rfl; have s2 := cellOf (o := 2) HA2.out.s rfl; have g0 := cellOf (o := 0) HA2.out.g rfl; have g1 := cellOf (o := 1) HA2.out.g rfl; have l0 := lt_of_block HA2.out.s; have l1 := lt_of_block HA2.out.g))
    go_ret
    exact ⟨rfl, HA2.out.b⟩
  | true =>
    rw [slE_yes hs] at HC
    cases hc : chkB b with
    | false =>
      have hE : alE N D d b gl gh nn [] = 10 := by unfold alE; rw [hs, hc]; rfl
      rw [chkE_no hc] at HCB
      rw [hE]
      clear hs hE hc hr hb
      go_enter Try.func40, Try.ntmps40
      go_upto_region 1 with (fail)
      generalize World.alloc _ _ = w1 at *
      have s0 := cellOf (o := 0) HA0.out.s rfl
      have s1 := cellOf (o := 1) HA0.out.s rfl
      have s2 := cellOf (o := 2) HA0.out.s rfl
      have g0 := cellOf (o := 0) HA0.out.g rfl
      have g1 := cellOf (o := 1) HA0.out.g rfl
      have l0 := lt_of_block HA0.out.s
      have l1 := lt_of_block HA0.out.g
      go_wp2_with (first
        | (go_at_call 16; refine Calls.mono (HC.out _) ?_; rintro e w2 ⟨rfl, hb2⟩; have HA2 := Lib.hid (HA0.out.next hb2); clear hb2 s0 s1 s2 g0 g1 l0 l1; have s0 := cellOf (o := 0) HA2.out.s rfl; have s1 := cellOf (o := 1) HA2.out.s rfl; have s2 := cellOf (o := 2) HA2.out.s rfl; have g0 := cellOf (o := 0) HA2.out.g rfl; have g1 := cellOf (o := 1) HA2.out.g rfl; have l0 := lt_of_block HA2.out.s; have l1 := lt_of_block HA2.out.g)
        | (go_at_call 69; refine Calls.mono (HCB.out _ HA2.out.b) ?_; rintro e w3 ⟨rfl, hb3⟩; have HA3 := Lib.hid (HA2.out.next hb3); clear hb3 s0 s1 s2 g0 g1 l0 l1; have s0 := cellOf (o := 0) HA3.out.s rfl; have s1 := cellOf (o := 1) HA3.out.s rfl; have s2 := cellOf (o := 2) HA3.out.s rfl; have g0 := cellOf (o := 0) HA3.out.g rfl; have g1 := cellOf (o := 1) HA3.out.g rfl; have l0 := lt_of_block HA3.out.s; have l1 := lt_of_block HA3.out.g))
      go_ret
      exact ⟨rfl, HA3.out.b⟩
    | true =>
      rw [chkE_yes hc] at HCB
      cases hv : vS (gl, gh) with
      | false =>
        have hE : alE N D d b gl gh nn [] = 10 := by unfold alE; rw [hs, hc, hv]; rfl
        rw [hv] at HV
        rw [hE]
        clear hs hE hc hv hr hb
        go_enter Try.func40, Try.ntmps40
        go_upto_region 1 with (fail)
        generalize World.alloc _ _ = w1 at *
        have s0 := cellOf (o := 0) HA0.out.s rfl
        have s1 := cellOf (o := 1) HA0.out.s rfl
        have s2 := cellOf (o := 2) HA0.out.s rfl
        have g0 := cellOf (o := 0) HA0.out.g rfl
        have g1 := cellOf (o := 1) HA0.out.g rfl
        have l0 := lt_of_block HA0.out.s
        have l1 := lt_of_block HA0.out.g
        go_wp2_with (first
          | (go_at_call 16; refine Calls.mono (HC.out _) ?_; rintro e w2 ⟨rfl, hb2⟩; have HA2 := Lib.hid (HA0.out.next hb2); clear hb2 s0 s1 s2 g0 g1 l0 l1; have s0 := cellOf (o := 0) HA2.out.s rfl; have s1 := cellOf (o := 1) HA2.out.s rfl; have s2 := cellOf (o := 2) HA2.out.s rfl; have g0 := cellOf (o := 0) HA2.out.g rfl; have g1 := cellOf (o := 1) HA2.out.g rfl; have l0 := lt_of_block HA2.out.s; have l1 := lt_of_block HA2.out.g)
          | (go_at_call 69; refine Calls.mono (HCB.out _ HA2.out.b) ?_; rintro e w3 ⟨rfl, hb3⟩; have HA3 := Lib.hid (HA2.out.next hb3); clear hb3 s0 s1 s2 g0 g1 l0 l1; have s0 := cellOf (o := 0) HA3.out.s rfl; have s1 := cellOf (o := 1) HA3.out.s rfl; have s2 := cellOf (o := 2) HA3.out.s rfl; have g0 := cellOf (o := 0) HA3.out.g rfl; have g1 := cellOf (o := 1) HA3.out.g rfl; have l0 := lt_of_block HA3.out.s; have l1 := lt_of_block HA3.out.g)
          | (go_at_call 61; refine Calls.mono (HV.out _) ?_; rintro e w4 ⟨rfl, hb4⟩; have HA4 := Lib.hid (HA3.out.next hb4); clear hb4 s0 s1 s2 g0 g1 l0 l1; have s0 := cellOf (o := 0) HA4.out.s rfl; have s1 := cellOf (o := 1) HA4.out.s rfl; have s2 := cellOf (o := 2) HA4.out.s rfl; have g0 := cellOf (o := 0) HA4.out.g rfl; have g1 := cellOf (o := 1) HA4.out.g rfl; have l0 := lt_of_block HA4.out.s; have l1 := lt_of_block HA4.out.g))
        go_ret
        exact ⟨rfl, HA4.out.b⟩
      | true =>
        rw [hv] at HV
        have HN := Lib.hid (show ∀ (W : World) (hW : Below w.heap.size w W), Calls Try.prog 70 #[.slice Ab nb cb, .agg #[.int .i64 gl, .int .i64 gh], .int .i64 nn] W fun e w' => e = .returned (.int .i64 (alE N D d b gl gh nn [])) ∧ Below W.heap.size W w' by
          intro W hW
          have hE : alE N D d b gl gh nn [] = if saB b gl gh nn then 0 else 1 := by unfold alE; rw [hs, hc, hv]; rfl
          rw [hE]
          by_cases h2 : b.length = 2
          · obtain ⟨⟨a1, a2⟩, ⟨c1, c2⟩, rfl⟩ := list_two h2
            rw [saB_nu hc hv]
            obtain rfl : nb = 2 := by rw [← hb]; rfl
            exact checkNumbers_two a1 a2 c1 c2 gl gh nn Ab cb w.heap.size W hW.size ((hr.more hB).below hW)
          · rw [saB_len h2]
            exact checkNumbers_no gl gh nn Ab nb cb W (by omega))
        generalize alE N D d b gl gh nn [] = E at *
        clear hs hc hv hr hb
        go_enter Try.func40, Try.ntmps40
        go_upto_region 1 with (fail)
        generalize World.alloc _ _ = w1 at *
        have s0 := cellOf (o := 0) HA0.out.s rfl
        have s1 := cellOf (o := 1) HA0.out.s rfl
        have s2 := cellOf (o := 2) HA0.out.s rfl
        have g0 := cellOf (o := 0) HA0.out.g rfl
        have g1 := cellOf (o := 1) HA0.out.g rfl
        have l0 := lt_of_block HA0.out.s
        have l1 := lt_of_block HA0.out.g
        go_wp2_with (first
          | (go_at_call 16; refine Calls.mono (HC.out _) ?_; rintro e w2 ⟨rfl, hb2⟩; have HA2 := Lib.hid (HA0.out.next hb2); clear hb2 s0 s1 s2 g0 g1 l0 l1; have s0 := cellOf (o := 0) HA2.out.s rfl; have s1 := cellOf (o := 1) HA2.out.s rfl; have s2 := cellOf (o := 2) HA2.out.s rfl; have g0 := cellOf (o := 0) HA2.out.g rfl; have g1 := cellOf (o := 1) HA2.out.g rfl; have l0 := lt_of_block HA2.out.s; have l1 := lt_of_block HA2.out.g)
          | (go_at_call 69; refine Calls.mono (HCB.out _ HA2.out.b) ?_; rintro e w3 ⟨rfl, hb3⟩; have HA3 := Lib.hid (HA2.out.next hb3); clear hb3 s0 s1 s2 g0 g1 l0 l1; have s0 := cellOf (o := 0) HA3.out.s rfl; have s1 := cellOf (o := 1) HA3.out.s rfl; have s2 := cellOf (o := 2) HA3.out.s rfl; have g0 := cellOf (o := 0) HA3.out.g rfl; have g1 := cellOf (o := 1) HA3.out.g rfl; have l0 := lt_of_block HA3.out.s; have l1 := lt_of_block HA3.out.g)
          | (go_at_call 61; refine Calls.mono (HV.out _) ?_; rintro e w4 ⟨rfl, hb4⟩; have HA4 := Lib.hid (HA3.out.next hb4); clear hb4 s0 s1 s2 g0 g1 l0 l1; have s0 := cellOf (o := 0) HA4.out.s rfl; have s1 := cellOf (o := 1) HA4.out.s rfl; have s2 := cellOf (o := 2) HA4.out.s rfl; have g0 := cellOf (o := 0) HA4.out.g rfl; have g1 := cellOf (o := 1) HA4.out.g rfl; have l0 := lt_of_block HA4.out.s; have l1 := lt_of_block HA4.out.g)
          | (go_at_call 70; refine Calls.mono (HN.out _ HA4.out.b) ?_; rintro e w5 ⟨rfl, hb5⟩; have HA5 := Lib.hid (HA4.out.next hb5); clear hb5))
        go_ret
        exact ⟨rfl, HA5.out.b⟩
end Go.Proofs.Ytnnmmojlgikdgaa

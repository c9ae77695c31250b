/- Pattern of the reference; Residual of both sides. -/
import Derived.Test.YtliocbjmledfbaaHPat
import Derived.Test.YtliocbjmledfbaaHOwn2
namespace Go.Proofs.Ytliocbjmledfbaa
open Go.RowKit

set_option maxRecDepth 100000 in
set_option maxHeartbeats 1000000 in
theorem rpattern_any (A : Option Addr) (n c B : Nat) (L : List Int) (t : Int) (w : World) (hl : L.length = n) (hn : n ≤ maxLen) (hB : B ≤ w.heap.size) (h : RI w B A L) :
    Calls Try.prog 24 #[.slice A n c, .int .i64 t] w (GivesPa w (patN L t)) := by
  have HC := Lib.hid (averaged_any A n c B L t w hl hn h)
  cases ht : teB L t with
  | false =>
    rw [ht] at HC
    have e : patN L t = ([], 1) := by unfold patN; simp [ht]
    rw [e]
    clear e ht h
    go_enter Try.func24, Try.ntmps24
    go_wp2_with (go_at_call 60; refine Calls.mono HC.out ?_; rintro e w1 ⟨rfl, rfl⟩)
    go_ret2
    exact ⟨_, rfl, QI.nil, Below.refl _ _⟩
  | true =>
    rw [ht] at HC
    obtain ⟨tn, m, hT⟩ := TE.get ht
    have e : patN L t = (paL L m, 0) := by unfold patN; simp [ht, hT.q]
    rw [e]
    obtain ⟨t1, t2, m1, m2, n2⟩ : _ ∧ _ ∧ _ ∧ _ ∧ _ := ⟨hT.t1, hT.t2, hT.m1, hT.m2, hT.n2⟩
    have HT := Lib.hid hT
    have ete := hT.te
    subst ete
    have HL := Lib.hid hl
    rw [hl] at n2
    have d1 : IntKind.i64.wrap ((n : Int).tdiv (tn : Int)) = (m : Int) := by
      rw [Int.tdiv_eq_ediv_of_nonneg (by omega), ← hl]
      have := hT.q
      rw [Int.toNat_natCast] at this
      rw [show ((L.length : Int) / (tn : Int)) = ((L.length / tn : Nat) : Int) by simp, this]
      exact IntWalk.i64_in _ (by omega)
    have d2 : (n : Int) / (tn : Int) = (m : Int) := by
      rw [← hl]
      have := hT.q
      rw [Int.toNat_natCast] at this
      rw [show ((L.length : Int) / (tn : Int)) = ((L.length / tn : Nat) : Int) by simp, this]
    have d3 : (((tn : Nat) : Int) == 0) = false := by simp; omega
    clear e ht hT hl
    go_enter Try.func24, Try.ntmps24
    go_wp2_with (first
      | (go_at_call 60; refine Calls.mono HC.out ?_; rintro e w1 ⟨rfl, rfl⟩)
      | (at_make; refine wpList_makeI rfl _ _ rfl m rfl rfl (by omega) ?_))
    have HRW := Lib.hid (RW.made w m)
    have HB2 := Lib.hid ((Below.refl _ _).alloc (Nat.le_refl _) (.cells (madeCells #[Value.int .i64 0] m) 3) : Below w.heap.size w _)
    obtain ⟨g, hg⟩ : ∃ g, w.heap.size = g := ⟨_, rfl⟩
    have hgB : B ≤ g := by omega
    have hgw : w.heap.size ≤ g := by omega
    have hrow0 := HRW.out
    rw [hg] at hrow0 ⊢
    generalize w.alloc (.cells (madeCells #[Value.int .i64 0] m) 3) = w2 at *
    have HRW2 := Lib.hid hrow0
    clear d1 d2 hrow0 HRW
    go_loopw [7] (fun i wr => ∃ k : Nat, k ≤ n ∧ i = .int .i64 k ∧ RW wr g (papN L m k) ∧ Below g w2 wr) (fun i _ => n - (intOf i).toNat)
    case atStart => exact ⟨0, Nat.zero_le _, rfl, by rw [papN_first]; exact HRW2.out, Below.refl _ _⟩
    case round =>
      obtain ⟨k, hk, rfl, hrow, hbw⟩ := hrel
      by_cases hlt : k < n
      · have hbx := HB2.out.trans (hbw.mono hgw)
        obtain ⟨b, off, x, rfl, hb, hx, hc⟩ := (h.below (hbx.mono hB)).at_ (k := k) (by rw [HL.out]; exact hlt)
        have hkm : k % m < m := Nat.mod_lt _ (by omega)
        have cg := hrow.get (papN_get L m k (k % m) hkm)
        have fg := hrow.free (k % m)
        have hpb := paN_bd HT.out.b m (k % m) k
        have hxb := wB_mem HT.out.b hx
        have hat : atL L k = x := by simp [atL, hx]
        have HS := Lib.hid (papN_set L m k)
        rw [hat] at HS
        have HR := Lib.hid (And.intro (hrow.set (k % m) (paN L m (k % m) k + x)) (hbw.setCell (p := ⟨g, k % m, none⟩) (Nat.le_refl _) (.int .i64 (paN L m (k % m) k + x))))
        rw [HS.out] at HR
        have i1 : (k : Int) % (m : Int) = ((k % m : Nat) : Int) := emod_cast k m
        have i2 : ¬ m = 0 := by omega
        have i3 : ((k % m : Nat) : Int) < m := by omega
        have i4 : (k : Int) < n := by omega
        have i5 : 0 ≤ (k : Int) := by omega
        have i6 : (k : Int).tmod (m : Int) = ((k % m : Nat) : Int) := by rw [Int.tmod_eq_emod_of_nonneg (by omega), i1]
        clear hrow hbw hbx hx hat h
        generalize paN L m (k % m) k = pa at *
        obtain ⟨p1, p2⟩ := hpb
        obtain ⟨x1, x2⟩ := hxb
        have i7 : IntKind.i64.wrap (pa + x) = pa + x := IntWalk.i64_in _ (by omega)
        generalize hr : k % m = r at *
        clear hr
        go_wp2
        refine region_tail 13 (by kernel_rfl) (by kernel_rfl) ?_
        simp only [List.take_succ_cons, List.take_zero, List.drop_succ_cons, List.drop_zero]
        repeat still_step
        refine wpStill_nil ?_
        go_wp2
        go_roundw
        case rel => exact ⟨k + 1, by omega, by go_num, HR.out.1, HR.out.2.drew⟩
        case measure => simp [intOf]; omega
      · obtain rfl : k = n := by omega
        have HP := Lib.hid (paL_pap L m)
        rw [HL.out] at HP
        rw [HP.out] at hrow
        have HR := Lib.hid (And.intro hrow hbw)
        have HLN := Lib.hid (show (paL L m).length = m by simp [paL])
        clear hrow hbw
        go_wp2
        go_ret2
        exact ⟨.slice (some ⟨g, 0, none⟩) m m, rfl, ⟨some ⟨g, 0, none⟩, m, by rw [HLN.out], by rw [HLN.out]; exact Nat.le_refl _, HR.out.1.ri⟩, HB2.out.trans (HR.out.2.mono hgw)⟩

end Go.Proofs.Ytliocbjmledfbaa

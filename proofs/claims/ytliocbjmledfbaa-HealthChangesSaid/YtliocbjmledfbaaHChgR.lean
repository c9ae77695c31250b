/- Changed of the reference. -/
import Derived.Test.YtliocbjmledfbaaHChgA
import Derived.Test.YtliocbjmledfbaaHTabR
namespace Go.Proofs.Ytliocbjmledfbaa
open Go.RowKit

set_option maxRecDepth 100000 in
set_option maxHeartbeats 2000000 in
theorem rchanged_any (A A' : Option Addr) (n c n' c' B : Nat) (V W : List (List Int)) (p : Int) (w : World) (hV : V.length = n) (hW : W.length = n') (hn : n ≤ maxLen) (hn' : n' ≤ maxLen) (hvl : ∀ r ∈ V, r.length ≤ maxLen) (hwl : ∀ r ∈ W, r.length ≤ maxLen) (hB : B ≤ w.heap.size) (rv : RR w B A V) (rw_ : RR w B A' W) :
    Calls Try.prog 43 #[.slice A n c, .slice A' n' c', .int .i64 p] w (GivesCe w (chN V W p)) := by
  have HT1 := Lib.hid (fun d => tabled_any A n c B V (w.drewN d) hV hn hvl (RR.drewN rv d))
  have HT2 := Lib.hid (fun d => tabled_any A' n' c' B W (w.drewN d) hW hn' hwl (RR.drewN rw_ d))
  have hq := tabsB_ref V W
  have hnn := hn
  have hnn' := hn'
  unfold maxLen at hnn hnn'
  cases t1 : tabB V with
  | false =>
    rw [t1] at HT1 hq
    simp only [Bool.false_and] at hq
    rw [chN_no hq]
    clear hq t1 rv rw_ hV hW hvl hwl
    go_enter Try.func43, Try.ntmps43
    go_wp2
    go_quiet ((go_at_call 79; exact quiet_more (HT1.out _)))
    go_wp2
    go_ret2
    exact ⟨_, rfl, QC.nil, below_drewN (Below.refl _ _) _⟩
  | true =>
  cases t2 : tabB W with
  | false =>
    rw [t1] at HT1
    rw [t2] at HT2
    rw [t1, t2] at hq
    simp only [Bool.and_false, Bool.false_and] at hq
    rw [chN_no hq]
    clear hq t1 t2 rv rw_ hV hW hvl hwl
    go_enter Try.func43, Try.ntmps43
    go_wp2
    go_quiet (first | (go_at_call 79; with_reducible exact quiet_more (HT1.out _)) | (go_at_call 79; with_reducible exact quiet_more (HT2.out _)))
    go_wp2
    go_ret2
    exact ⟨_, rfl, QC.nil, below_drewN (Below.refl _ _) _⟩
  | true =>
  rw [t1] at HT1
  rw [t2] at HT2
  rw [t1, t2] at hq
  have hvn : 1 ≤ n := by
    unfold tabB at t1
    simp at t1
    omega
  have hwn : 1 ≤ n' := by
    unfold tabB at t2
    simp at t2
    omega
  by_cases g1 : n = n'
  · obtain ⟨b, off, z, A0, c0, rfl, hb, hz, hc0, _⟩ := rv.at_ (k := 0) (by omega)
    obtain ⟨b', off', y, A2, c2, rfl, hb', hy, hc2, _⟩ := rw_.at_ (k := 0) (by omega)
    have hzl := hvl z (List.mem_of_getElem? hz)
    have hyl := hwl y (List.mem_of_getElem? hy)
    unfold maxLen at hzl hyl
    have hd : hdN V = z.length := by unfold hdN; rw [hz]; rfl
    have hd' : hdN W = y.length := by unfold hdN; rw [hy]; rfl
    rw [Nat.add_zero] at hc0 hc2
    have i9 : (0 : Int) < n := by omega
    have i9' : (0 : Int) < n' := by omega
    have hne : ((n : Int) != n') = false := by rw [g1]; simp
    by_cases g2 : z.length = y.length
    · have hne2 : ((z.length : Int) != y.length) = false := by rw [g2]; simp
      have ht : tabsB V W = true := by rw [hq, hd, hd', g2, hV, hW, g1]; simp
      have tt := TT.get ht
      by_cases hp : 0 ≤ p ∧ p ≤ 10000
      · rw [chN_yes ht hp]
        have H1 := Lib.hid (rwithin_yes hp.1 hp.2)
        have TTH := Lib.hid tt
        obtain ⟨m, hm⟩ : ∃ m, hdN V = m := ⟨_, rfl⟩
        have HM := Lib.hid hm
        have HV0 := Lib.hid rv
        have HW0 := Lib.hid rw_
        have n8 := tt.n8
        have m12 := tt.m12
        have HS1 := Lib.hid (fun s => show chS V W p (s + 1) = chS V W p s ++ chK V W p s m by rw [← hm]; rfl)
        rw [hm] at m12
        rw [hV] at n8 ⊢
        subst g1
        have HLV := Lib.hid hV
        have HLW := Lib.hid hW
        obtain ⟨p1, p2⟩ := hp
        clear ht rv rw_ hV hW tt hm hvl hwl hq t1 t2 hd hd' hz hy g2
        go_enter Try.func43, Try.ntmps43
        go_wp2
        go_quiet (first | (go_at_call 79; with_reducible exact quiet_more (HT1.out _)) | (go_at_call 79; with_reducible exact quiet_more (HT2.out _)))
        go_wp2_with (go_at_call 56; refine Calls.mono (H1.out _) ?_; rintro e w' ⟨rfl, rfl⟩)
        have HB2 := Lib.hid (below_drewN (Below.refl w.heap.size w) nq)
        generalize w.drewN nq = w2 at *
        clear hc0 hc2
        go_loopw [8, 9] (fun v i wr => ∃ s : Nat, s ≤ n ∧ i = .int .i64 s ∧ OC w.heap.size v (chS V W p s) wr ∧ Below w.heap.size w wr) (fun _ i _ => n - (intOf i).toNat)
        case atStart => exact ⟨0, Nat.zero_le _, rfl, OC.nil, HB2.out⟩
        case round =>
          obtain ⟨s, hsn, rfl, hown, hbw⟩ := hrel
          by_cases hlt : s < n
          · obtain ⟨b1, off1, r, A1, c1, eb, hb, hr, hw1, hri⟩ := (HV0.out.at_ (k := s) (by rw [HLV.out]; exact hlt))
            obtain ⟨rfl, rfl⟩ : b = b1 ∧ off = off1 := by simpa using eb
            obtain ⟨b2, off2, q, A2', c2', eb', hb', hq, hw2, hqi⟩ := (HW0.out.at_ (k := s) (by rw [HLW.out]; exact hlt))
            obtain ⟨rfl, rfl⟩ : b' = b2 ∧ off' = off2 := by simpa using eb'
            have hrm := (TTH.out.v r (List.mem_of_getElem? hr)).1.trans HM.out
            have hqm := (TTH.out.w q (List.mem_of_getElem? hq)).1.trans HM.out
            have hrb := (TTH.out.v r (List.mem_of_getElem? hr)).2
            have hqb := (TTH.out.w q (List.mem_of_getElem? hq)).2
            rw [hrm] at hw1
            rw [hqm] at hw2
            have HW1 := Lib.hid hw1
            have HW2 := Lib.hid hw2
            have HR := Lib.hid (And.intro hr (And.intro hq (And.intro hri hqi)))
            have HRM := Lib.hid (And.intro hrm hqm)
            have HRB := Lib.hid (And.intro hrb hqb)
            have HO := Lib.hid (And.intro hown hbw)
            clear hr hq hri hqi hrm hqm hown hbw hw1 hw2 hrb hqb eb eb'
            have i7 : (s : Int) < n := by omega
            have i8 : 0 ≤ (s : Int) := by omega
            have HN1 := Lib.hid (HS1.out s)
            have HCS := Lib.hid (fun k (hk : k ≤ 12) => chSK_len (V := V) (W := W) (p := p) (s := s) (k := k) (by omega) (by rw [HM.out]; exact m12) hk)
            generalize chS V W p s = cS at *
            go_wp2
            go_loopw [8, 10] (fun v i wr => ∃ k : Nat, k ≤ m ∧ i = .int .i64 k ∧ OC w.heap.size v (cS ++ chK V W p s k) wr ∧ Below w.heap.size w wr) (fun _ i _ => m - (intOf i).toNat)
            case atStart => exact ⟨0, Nat.zero_le _, rfl, by simpa [chK] using HO.out.1, HO.out.2⟩
            case round =>
              obtain ⟨k, hkm, rfl, hown, hbw⟩ := hrel
              have d0 := ((hbw.mono hB).cell (p := ⟨b, off + s, none⟩) hb).trans HW1.out
              by_cases hlk : k < m
              · obtain ⟨rb, roff, x, rfl, hrb, hx, hx0⟩ := HR.out.2.2.1.at_ (k := k) (by rw [HRM.out.1]; exact hlk)
                obtain ⟨qb, qoff, y, rfl, hqb, hy, hy0⟩ := HR.out.2.2.2.at_ (k := k) (by rw [HRM.out.2]; exact hlk)
                have d1 := ((hbw.mono hB).cell (p := ⟨rb, roff + k, none⟩) hrb).trans hx0
                have d2 := ((hbw.mono hB).cell (p := ⟨qb, qoff + k, none⟩) hqb).trans hy0
                have d3 := ((hbw.mono hB).cell (p := ⟨b', off' + s, none⟩) hb').trans HW2.out
                have bx := wB_mem HRB.out.1 hx
                have by_ := wB_mem HRB.out.2 hy
                obtain ⟨g1, g2, g3⟩ := ch_pair bx by_ (And.intro p1 p2)
                have HC := Lib.hid (show chB V W p s k = decide (p * x < absZ (y - x) * 100) by unfold chB; rw [at2_of HR.out.1 hx, at2_of HR.out.2.1 hy])
                have HKS := Lib.hid (show chK V W p s (k + 1) = chK V W p s k ++ if chB V W p s k then [((s : Int), (k : Int))] else [] from rfl)
                have HLE := Lib.hid (HCS.out k (by omega))
                have HO := Lib.hid hown
                have HBW := Lib.hid hbw
                have j1 : IntKind.i64.wrap (y - x) = y - x := IntWalk.i64_in _ (by omega)
                clear hown hbw hx hy hx0 hy0
                have i1 : (k : Int) < m := by omega
                have i2 : 0 ≤ (k : Int) := by omega
                rw [show absZ (y - x) = max (y - x) (-(y - x)) from rfl] at HC g2
                generalize hpx : p * x = px at *
                have j3 : IntKind.i64.wrap px = px := IntWalk.i64_in _ (by omega)
                go_wp2
                go_quiet (fail)
                generalize y - x = dl at *
                have j4 : IntKind.i64.wrap (-dl) = -dl := IntWalk.i64_in _ (by omega)
                have HBX := Lib.hid (below_drewN HBW.out nq)
                by_cases hgt : px < max dl (-dl) * 100
                · have HE := Lib.hid (show chK V W p s (k + 1) = chK V W p s k ++ [((s : Int), (k : Int))] by rw [HKS.out, HC.out, if_pos (by simpa using hgt)])
                  go_wp2_with (at_builtin; refine wpList_pushC rfl _ _ rfl _ (cS ++ chK V W p s k) rfl (show OC _ _ _ (wr.drewN nq) from HO.out) HBX.out (s, k) rfl rfl rfl rfl rfl HLE.out ?_)
                  intro v' w3 hown' hb3
                  rw [← HE.out] at hown'
                  have HX := Lib.hid (And.intro hown' hb3)
                  clear hown' hb3
                  go_wp2
                  go_roundw
                  case rel => exact ⟨k + 1, by omega, by go_num, HX.out.1, HX.out.2⟩
                  case measure => simp [intOf]; omega
                · have HE := Lib.hid (show chK V W p s (k + 1) = chK V W p s k by rw [HKS.out, HC.out, if_neg (by simpa using hgt), List.append_nil])
                  go_wp2
                  go_roundw
                  case rel => exact ⟨k + 1, by omega, by go_num, by rw [HE.out]; exact HO.out, HBX.out⟩
                  case measure => simp [intOf]; omega
              · obtain rfl : k = m := by omega
                have HX := Lib.hid (And.intro hown hbw)
                clear hown hbw
                go_wp2
                go_roundw
                case rel => exact ⟨s + 1, by omega, by go_num, by rw [HN1.out]; exact HX.out.1, HX.out.2⟩
                case measure => simp [intOf]; omega
          · obtain rfl : s = n := by omega
            have HR := Lib.hid (And.intro hown hbw)
            clear hown hbw
            go_wp2
            go_ret2
            obtain ⟨Ao, co, rfl, hro⟩ := HR.out.1.rs
            exact ⟨_, rfl, ⟨Ao, co, rfl, hro⟩, HR.out.2⟩
      · rw [chN_bad ht hp]
        have H1 := Lib.hid (rwithin_no hp)
        clear ht rv rw_ hp tt hq t1 t2 hd hd' hz hy hvl hwl hV hW g1 g2
        go_enter Try.func43, Try.ntmps43
        go_wp2
        go_quiet (first | (go_at_call 79; with_reducible exact quiet_more (HT1.out _)) | (go_at_call 79; with_reducible exact quiet_more (HT2.out _)))
        go_wp2_with (go_at_call 56; refine Calls.mono (H1.out _) ?_; rintro e w' ⟨rfl, rfl⟩)
        go_ret2
        exact ⟨_, rfl, QC.nil, below_drewN (Below.refl _ _) _⟩
    · have hne2 : ((z.length : Int) != y.length) = true := by rw [bne_iff_ne]; omega
      have ht : tabsB V W = false := by rw [hq, hd, hd']; simp [g2]
      rw [chN_no ht]
      clear ht rv rw_ hq t1 t2 hd hd' hz hy hvl hwl hV hW g1 g2
      go_enter Try.func43, Try.ntmps43
      go_wp2
      go_quiet (first | (go_at_call 79; with_reducible exact quiet_more (HT1.out _)) | (go_at_call 79; with_reducible exact quiet_more (HT2.out _)))
      go_wp2
      go_ret2
      exact ⟨_, rfl, QC.nil, below_drewN (Below.refl _ _) _⟩
  · have hne : ((n : Int) != n') = true := by rw [bne_iff_ne]; omega
    have ht : tabsB V W = false := by rw [hq, hV, hW]; simp [g1]
    rw [chN_no ht]
    clear ht rv rw_ hq t1 t2 hvl hwl hV hW g1
    go_enter Try.func43, Try.ntmps43
    go_wp2
    go_quiet (first | (go_at_call 79; with_reducible exact quiet_more (HT1.out _)) | (go_at_call 79; with_reducible exact quiet_more (HT2.out _)))
    go_wp2
    go_ret2
    exact ⟨_, rfl, QC.nil, below_drewN (Below.refl _ _) _⟩
end Go.Proofs.Ytliocbjmledfbaa

/- swashplatelaw07.SlingGust returns true at every input, and the input reads as it did: no condition. -/
import Derived.Test.YtnnmmojlgikdgaaM6
import Derived.Test.YtnnmmojlgikdgaaM7
import Derived.Test.YtnnmmojlgikdgaaM9
import Derived.Test.YtnnmmojlgikdgaaM10

/- The upper half of a span. -/
namespace Go.Proofs.Ytnnmmojlgikdgaa
open Go.RowKit

def halfN (y1 y2 : Int) : Int := y1 + (y2 - y1) / 2
theorem halfN_bd {y1 y2 : Int} (h : y1 ≤ y2) : y1 ≤ halfN y1 y2 ∧ halfN y1 y2 ≤ y2 := by unfold halfN; omega
set_option maxRecDepth 100000 in
theorem half_any (y1 y2 : Int) (w : World) (h : y1 ≤ y2) (h1 : -2000000 ≤ y1) (h2 : y2 ≤ 2000000) :
    Calls Try.prog 45 #[.agg #[.int .i64 y1, .int .i64 y2]] w fun e w' => e = .returned (.agg #[.int .i64 (halfN y1 y2), .int .i64 y2]) ∧ Below w.heap.size w w' := by
  have i1 : IntKind.i64.wrap (y2 - y1) = y2 - y1 := IntWalk.i64_in _ (by omega)
  have i2 : (y2 - y1).tdiv 2 = (y2 - y1) / 2 := Int.tdiv_eq_ediv_of_nonneg (by omega)
  have i3 : IntKind.i64.wrap ((y2 - y1) / 2) = (y2 - y1) / 2 := IntWalk.i64_in _ (by omega)
  have i4 : IntKind.i64.wrap (y1 + (y2 - y1) / 2) = y1 + (y2 - y1) / 2 := IntWalk.i64_in _ (by omega)
  unfold halfN
  go_enter Try.func45, Try.ntmps45
  go_wp2
  have hb : Below w.heap.size w ((w.alloc (.cells #[.int .i64 y1, .int .i64 y2] 27)).alloc (.cells #[.int .i64 (y1 + (y2 - y1) / 2), .int .i64 y2] 27)) := by go_grown
  have bk := blk_new (w.alloc (.cells #[.int .i64 y1, .int .i64 y2] 27)) (.cells #[.int .i64 (y1 + (y2 - y1) / 2), .int .i64 y2] 27) (w.heap.size + 1) (by simp)
  generalize ((w.alloc (.cells #[.int .i64 y1, .int .i64 y2] 27)).alloc (.cells #[.int .i64 (y1 + (y2 - y1) / 2), .int .i64 y2] 27)) = W9 at *
  have c0 := cellOf (o := 0) bk rfl
  have c1 := cellOf (o := 1) bk rfl
  exact bodyPost_ret (v := .agg #[.int .i64 (y1 + (y2 - y1) / 2), .int .i64 y2]) (by simp [results, Try.results45, go_sem, c0, c1]) rfl ⟨rfl, hb⟩
end Go.Proofs.Ytnnmmojlgikdgaa

/- Plain mathematics: what the law of gusts asks. -/
namespace Go.Proofs.Ytnnmmojlgikdgaa

theorem alE_ok {N D d gl gh nn : Int} {b l : List (Int × Int)} (h1 : slB N D d = true) (h2 : chkB b = true) (h3 : vS (gl, gh) = true) (h4 : l.all vS = true) (h5 : saB b gl gh nn = true) : alE N D d b gl gh nn l = 0 := by
  unfold alE
  rw [h1, h2, h3, h4, h5]
  rfl
theorem alE_or {N D d gl gh nn : Int} {b l : List (Int × Int)} (h : ¬ alE N D d b gl gh nn l = 0) : alE N D d b gl gh nn l = 70 ∨ alE N D d b gl gh nn l = 10 ∨ alE N D d b gl gh nn l = 1 := by
  have key : alE N D d b gl gh nn l = 0 ∨ alE N D d b gl gh nn l = 70 ∨ alE N D d b gl gh nn l = 10 ∨ alE N D d b gl gh nn l = 1 := by
    unfold alE
    cases slB N D d
    · exact Or.inr (Or.inl rfl)
    · cases ((chkB b && vS (gl, gh)) && l.all vS)
      · exact Or.inr (Or.inr (Or.inl rfl))
      · cases saB b gl gh nn
        · exact Or.inr (Or.inr (Or.inr rfl))
        · exact Or.inl rfl
  rcases key with e | e
  · exact absurd e h
  · exact e
/-- The upper halves. -/
def hfB (b : List (Int × Int)) : List (Int × Int) := b.map fun s => (halfN s.1 s.2, s.2)
theorem hfB_len (b : List (Int × Int)) : (hfB b).length = b.length := by simp [hfB]
theorem hfB_chk {b : List (Int × Int)} (h : chkB b = true) : chkB (hfB b) = true := by
  unfold chkB at h ⊢
  simp only [Bool.and_eq_true, List.all_eq_true, decide_eq_true_eq, hfB_len] at h ⊢
  refine ⟨h.1, fun s hs => ?_⟩
  unfold hfB at hs
  obtain ⟨t, ht, rfl⟩ := List.mem_map.1 hs
  obtain ⟨a, c, e⟩ := vS_get (h.2 t ht)
  obtain ⟨x, y⟩ := halfN_bd a
  exact vS_mk y (by omega) e
theorem hf_vS {a c : Int} (h : vS (a, c) = true) : vS (halfN a c, c) = true := by
  obtain ⟨h1, h2, h3⟩ := vS_get h
  obtain ⟨x, y⟩ := halfN_bd h1
  exact vS_mk y (by omega) h3
theorem hfB_sa {b : List (Int × Int)} {gl gh nn : Int} (hc : chkB b = true) (hv : vS (gl, gh) = true) (h : saB b gl gh nn = true) : saB (hfB b) (halfN gl gh) gh nn = true := by
  unfold chkB at hc
  unfold saB wB at h ⊢
  simp only [Bool.and_eq_true, List.all_cons, List.all_nil, Bool.and_true, decide_eq_true_eq, List.all_eq_true, hfB_len] at h hc ⊢
  obtain ⟨⟨⟨k1, k2⟩, k3⟩, k4⟩ := h
  have g := halfN_bd (vS_get hv).1
  refine ⟨⟨⟨k1, ⟨by omega, by omega⟩⟩, k3⟩, fun s hs => ?_⟩
  unfold hfB at hs
  obtain ⟨t, ht, rfl⟩ := List.mem_map.1 hs
  have a := k4 t ht
  have c := halfN_bd (vS_get (hc.2 t ht)).1
  exact ⟨⟨by omega, by omega⟩, by omega, by omega⟩
theorem hfB_sub : ∀ {b : List (Int × Int)}, (∀ s ∈ b, s.1 ≤ s.2) → subS (hfB b) b
  | [], _ => trivial
  | s :: _, h => ⟨⟨(halfN_bd (h s List.mem_cons_self)).1, Int.le_refl _⟩, hfB_sub fun t ht => h t (List.mem_cons_of_mem _ ht)⟩
theorem ex_two (r : (Int × Bool) × Int) {i : Bool} (h1 : r.1.2 = i) (h2 : r.2 = 0) : ∃ t, r = ((t, i), 0) := by
  obtain ⟨⟨t, j⟩, e⟩ := r
  simp only at h1 h2
  subst h1 h2
  exact ⟨t, rfl⟩
theorem kp_ok {N D d gl gh nn lo hi : Int} {b : List (Int × Int)} (h : alE N D d b gl gh nn [(lo, hi)] = 0) : kpN N D d b gl gh nn lo hi = (keN N D d (b ++ List.replicate nn.toNat (gl, gh)) lo hi nn.toNat, 0) := by
  unfold kpN
  rw [if_pos h]
/-- What the law asks. -/
structure GL (N D d : Int) (b : List (Int × Int)) (gl gh nn lo hi g : Int) : Prop where
  g0 : -1 ≤ g
  g1 : g ≤ 100
  yes : 0 ≤ g → ∃ t, kpN N D d b (-g) g nn lo hi = ((t, true), 0)
  no : g < 100 → ∃ t, kpN N D d b (-g - 1) (g + 1) nn lo hi = ((t, false), 0)
  sub : ∃ t i, kpN N D d b gl gh nn lo hi = ((t, i), 0) ∧ ∃ u j, kpN N D d (hfB b) (halfN gl gh) gh nn lo hi = ((u, j), 0) ∧ (i = true → j = true)
theorem gust_facts {N D d gl gh nn lo hi : Int} {b : List (Int × Int)} (hz : alE N D d b gl gh nn [] = 0) (hg : alE N D d b 0 0 nn [(lo, hi)] = 0) : GL N D d b gl gh nn lo hi (dnI (guB N D d b nn.toNat lo hi) 100) := by
  obtain ⟨a1, a2, a3, _, a5⟩ := alE_zero hz
  obtain ⟨_, _, _, b4, b5⟩ := alE_zero hg
  have hnn : 0 ≤ nn ∧ nn ≤ 16 := by unfold saB at a5; simp at a5; exact a5.1.2
  have hb2 : b.length = 2 := by unfold saB at a5; simp at a5; exact a5.1.1.1
  obtain ⟨d1, d2⟩ := dnI_bd (guB N D d b nn.toNat lo hi) 100
  obtain ⟨e1, e2⟩ := dnI_spec (guB N D d b nn.toNat lo hi) 100
  generalize dnI (guB N D d b nn.toNat lo hi) 100 = g at *
  refine ⟨d1, by omega, fun h => ?_, fun h => ?_, ?_⟩
  · exact ex_two _ (by rw [kp_ok (alE_ok a1 a2 (vS_gust h (by omega)) b4 (saB_gust b5 h (by omega)))]; exact e2 h) (by rw [kp_ok (alE_ok a1 a2 (vS_gust h (by omega)) b4 (saB_gust b5 h (by omega)))])
  · rw [show -g - 1 = -(g + 1) by omega]
    exact ex_two _ (by rw [kp_ok (alE_ok a1 a2 (vS_gust (by omega) (by omega)) b4 (saB_gust b5 (by omega) (by omega)))]; exact e1 _ (by omega) (by omega)) (by rw [kp_ok (alE_ok a1 a2 (vS_gust (by omega) (by omega)) b4 (saB_gust b5 (by omega) (by omega)))])
  · obtain ⟨t, ht⟩ := ex_two (kpN N D d b gl gh nn lo hi) rfl (by rw [kp_ok (alE_ok a1 a2 a3 b4 a5)])
    obtain ⟨u, hu⟩ := ex_two (kpN N D d (hfB b) (halfN gl gh) gh nn lo hi) rfl (by rw [kp_ok (alE_ok a1 (hfB_chk a2) (hf_vS a3) b4 (hfB_sa a2 a3 a5))])
    refine ⟨t, _, ht, u, _, hu, ?_⟩
    rw [kp_ok (alE_ok a1 a2 a3 b4 a5), kp_ok (alE_ok a1 (hfB_chk a2) (hf_vS a3) b4 (hfB_sa a2 a3 a5))]
    intro hk
    have hv : ∀ s ∈ b, s.1 ≤ s.2 := fun s hs => by
      unfold chkB at a2
      simp only [Bool.and_eq_true, List.all_eq_true] at a2
      exact (vS_get (a2.2 s hs)).1
    exact keN_sub (T := b ++ List.replicate nn.toNat (gl, gh)) (subS.app (hfB_sub hv) (subS.rep (show gl ≤ halfN gl gh ∧ gh ≤ gh from ⟨(halfN_bd (vS_get a3).1).1, Int.le_refl _⟩) _)) (sv_of (hfB_chk a2) (hf_vS a3) _) (by rw [List.length_append, hfB_len, hb2, List.length_replicate]; omega) hk
end Go.Proofs.Ytnnmmojlgikdgaa

/- The law of gusts. -/
namespace Go.Proofs.Ytnnmmojlgikdgaa
open Go.RowKit

set_option maxRecDepth 100000 in
set_option maxHeartbeats 4000000 in
theorem law_gust (wk : WK7) (w : World) (N D d : Int) (A : Option Addr) (n c : Nat) (gl gh lo hi m : Int) (b : List (Int × Int)) (hl : b.length = n) (hn : n ≤ maxLen) (hr : RS w w.heap.size A b) :
    Calls Try.prog 11 #[.agg #[.int .i64 N, .int .i64 D, .int .i64 d], .agg #[.slice A n c, .int .i64 gl, .int .i64 gh, .int .i64 lo, .int .i64 hi, .int .i64 m]] w fun e w' => e = .returned (.bool true) ∧ Below w.heap.size w w' := by
  have HWK := Lib.hid wk
  have HCS := Lib.hid (fun (W : World) (hW : Below w.heap.size w W) => checkSets_any N D d gl gh m A n c w.heap.size b W hl hn hW.size (hr.below hW))
  have HK0 := Lib.hid (KW.start (N := N) (D := D) (d := d) (gl := gl) (gh := gh) (lo := lo) (hi := hi) (m := m) (A := A) (n := n) (c := c) (w := w))
  by_cases hz : alE N D d b gl gh m [] = 0
  · rw [hz] at HCS
    have HGU := Lib.hid (fun (W : World) (hW : Below w.heap.size w W) => gustT_any N D d m lo hi A n c w.heap.size b W hl hn hW.size (hr.below hW))
    by_cases hg : alE N D d b 0 0 m [(lo, hi)] = 0
    · obtain ⟨f0, f1, f2, f3, ft, fi, hf4, fu, fj, hf5, hf6⟩ := gust_facts hz hg
      have hgu : ∀ g, dnI (guB N D d b m.toNat lo hi) 100 = g → guN N D d b m lo hi = if 0 ≤ g then (g, 0) else (0, 3) := fun g h => by unfold guN; rw [if_pos hg, h]
      obtain ⟨gv, hgv⟩ : ∃ g, dnI (guB N D d b m.toNat lo hi) 100 = g := ⟨_, rfl⟩
      rw [hgu gv hgv] at HGU
      rw [hgv] at f0 f1 f2 f3
      obtain ⟨_, hc, hv, _, hsa⟩ := alE_zero hz
      have hb2 : b.length = 2 := by unfold saB at hsa; simp at hsa; exact hsa.1.1.1
      have hKP : ∀ (gl' gh' : Int) (r : (Int × Bool) × Int), kpN N D d b gl' gh' m lo hi = r → ∀ (W : World), Below w.heap.size w W → Calls Try.prog 28 #[.agg #[.int .i64 N, .int .i64 D, .int .i64 d], .slice A n c, .agg #[.int .i64 gl', .int .i64 gh'], .int .i64 m, .agg #[.int .i64 lo, .int .i64 hi]] W fun e w' => e = .returned (.tuple #[.int .i64 r.1.1, .bool r.1.2, .int .i64 r.2]) ∧ Below W.heap.size W w' := fun gl' gh' r h W hW => by
        have := keepsT_any N D d gl' gh' m lo hi A n c w.heap.size b W hl hn hW.size (hr.below hW)
        rw [h] at this
        exact this
      have H5 := Lib.hid (hKP gl gh _ hf4)
      obtain ⟨⟨a1, a2⟩, ⟨c1, c2⟩, e2⟩ := list_two hb2
      have hsp : ∀ s ∈ b, vS s = true := fun s hs => by unfold chkB at hc; simp only [Bool.and_eq_true, List.all_eq_true] at hc; exact hc.2 s hs
      obtain ⟨ha1, ha2, ha3⟩ := vS_get (hsp (a1, a2) (by rw [e2]; simp))
      obtain ⟨hc1, hc2, hc3⟩ := vS_get (hsp (c1, c2) (by rw [e2]; simp))
      obtain ⟨hv1, hv2, hv3⟩ := vS_get hv
      have HH1 := Lib.hid (fun (W : World) => half_any a1 a2 W ha1 (by omega) (by omega))
      have HH2 := Lib.hid (fun (W : World) => half_any c1 c2 W hc1 (by omega) (by omega))
      have HH3 := Lib.hid (fun (W : World) => half_any gl gh W hv1 (by omega) (by omega))
      have e3 : hfB b = [(halfN a1 a2, a2), (halfN c1 c2, c2)] := by rw [e2]; rfl
      have H6 := Lib.hid (fun (A9 : Option Addr) (c9 : Nat) (W : World) (h9 : RS W W.heap.size A9 [(halfN a1 a2, a2), (halfN c1 c2, c2)]) => by
        have := keepsT_any N D d (halfN gl gh) gh m lo hi A9 2 c9 W.heap.size (hfB b) W (by rw [e3]; rfl) (le_maxLen (by omega)) (Nat.le_refl _) (by rw [e3]; exact h9)
        rw [hf5] at this
        exact this)
      simp only at H5 H6
      have HRB := Lib.hid (show ∃ bb off, A = some ⟨bb, off, none⟩ ∧ bb < w.heap.size ∧ w.cell? ⟨bb, off, none⟩ = some (.int .i64 a1) ∧ w.cell? ⟨bb, off + 1, none⟩ = some (.int .i64 a2) ∧ w.cell? ⟨bb, off + 2, none⟩ = some (.int .i64 c1) ∧ w.cell? ⟨bb, off + 2 + 1, none⟩ = some (.int .i64 c2) from by
        obtain ⟨bb, off, hA, hbb, hcc⟩ := hr (by omega)
        obtain ⟨x0, x1⟩ := hcc 0 (a1, a2) (by rw [e2]; rfl)
        obtain ⟨x2, x3⟩ := hcc 1 (c1, c2) (by rw [e2]; rfl)
        simp only [Nat.zero_mul, Nat.one_mul, Nat.add_zero] at x0 x1 x2 x3
        exact ⟨bb, off, hA, hbb, x0, x1, x2, x3⟩)
      have hn2 : n = 2 := hl.symm.trans hb2
      have HN2 := Lib.hid hn2
      have HFF := Lib.hid (show fi = false ∨ (fi = true ∧ fj = true) by cases fi; exact Or.inl rfl; exact Or.inr ⟨rfl, hf6 rfl⟩)
      have hK1 := hKP (-gv) gv
      have hK2 := hKP (-gv - 1) (gv + 1)
      generalize halfN a1 a2 = z1 at *
      generalize halfN c1 c2 = z2 at *
      generalize halfN gl gh = z3 at *
      clear wk hz hg hgu hgv hc hv hsa hb2 hKP e2 hsp ha1 ha2 ha3 hc1 hc2 hc3 hv1 hv2 hv3 e3 hf4 hf5 hf6 hr hl hn2
      obtain ⟨bb, off, rfl, hbb, p0, p1, p2, p3⟩ := HRB.out
      have hn1 : ¬ gv < -1 := by omega
      have hn3 : ¬ 100 < gv := by omega
      by_cases h0 : 0 ≤ gv
      · rw [if_pos h0] at HGU
        simp only at HGU
        obtain ⟨t1, ht1⟩ := f2 h0
        have H3 := Lib.hid (hK1 _ ht1)
        simp only at H3
        have i1 : IntKind.i64.wrap (-gv) = -gv := IntWalk.i64_in _ (by omega)
        by_cases h1 : gv < 100
        · obtain ⟨t2, ht2⟩ := f3 h1
          have H4 := Lib.hid (hK2 _ ht2)
          simp only at H4
          have i2 : IntKind.i64.wrap (-gv - 1) = -gv - 1 := IntWalk.i64_in _ (by omega)
          have i3 : IntKind.i64.wrap (gv + 1) = gv + 1 := IntWalk.i64_in _ (by omega)
          clear f0 f1 f2 f3 hK1 hK2 ht1 ht2
          go_enter Try.func11, Try.ntmps11
          go_upto_region 1 with (fail)
          generalize World.alloc _ _ = w1 at *
          have s0 := cellOf (o := 0) HK0.out.s rfl
          have s1 := cellOf (o := 1) HK0.out.s rfl
          have s2 := cellOf (o := 2) HK0.out.s rfl
          have x0 := cellOf (o := 0) HK0.out.x rfl
          have x1 := cellOf (o := 1) HK0.out.x rfl
          have x2 := cellOf (o := 2) HK0.out.x rfl
          have x3 := cellOf (o := 3) HK0.out.x rfl
          have x4 := cellOf (o := 4) HK0.out.x rfl
          have x5 := cellOf (o := 5) HK0.out.x rfl
          have l0 := lt_of_block HK0.out.s
          have l1 := lt_of_block HK0.out.x
          go_upto_region 18 with (first
            | (go_at_call 40; refine Calls.mono (HCS.out _ HK0.out.b) ?_; rintro e v1 ⟨rfl, hb1⟩; have HK1 := Lib.hid (HK0.out.next hb1); clear hb1; clear s0 s1 s2 x0 x1 x2 x3 x4 x5 l0 l1; have s0 := cellOf (o := 0) HK1.out.s rfl; have s1 := cellOf (o := 1) HK1.out.s rfl; have s2 := cellOf (o := 2) HK1.out.s rfl; have x0 := cellOf (o := 0) HK1.out.x rfl; have x1 := cellOf (o := 1) HK1.out.x rfl; have x2 := cellOf (o := 2) HK1.out.x rfl; have x3 := cellOf (o := 3) HK1.out.x rfl; have x4 := cellOf (o := 4) HK1.out.x rfl; have x5 := cellOf (o := 5) HK1.out.x rfl; have l0 := lt_of_block HK1.out.s; have l1 := lt_of_block HK1.out.x)
            | (go_at_call 30; refine Calls.mono (HGU.out _ HK1.out.b) ?_; rintro e v2 ⟨rfl, hb2⟩; have HK2 := Lib.hid (HK1.out.next hb2); clear hb2; clear s0 s1 s2 x0 x1 x2 x3 x4 x5 l0 l1; have s0 := cellOf (o := 0) HK2.out.s rfl; have s1 := cellOf (o := 1) HK2.out.s rfl; have s2 := cellOf (o := 2) HK2.out.s rfl; have x0 := cellOf (o := 0) HK2.out.x rfl; have x1 := cellOf (o := 1) HK2.out.x rfl; have x2 := cellOf (o := 2) HK2.out.x rfl; have x3 := cellOf (o := 3) HK2.out.x rfl; have x4 := cellOf (o := 4) HK2.out.x rfl; have x5 := cellOf (o := 5) HK2.out.x rfl; have l0 := lt_of_block HK2.out.s; have l1 := lt_of_block HK2.out.x)
            | (go_at_call_of 28 (Value.agg #[.int .i64 (-gv), .int .i64 gv]); refine Calls.mono (H3.out _ HK2.out.b) ?_; rintro e v3 ⟨rfl, hb3⟩; have HK3 := Lib.hid (HK2.out.next hb3); clear hb3; clear s0 s1 s2 x0 x1 x2 x3 x4 x5 l0 l1; have s0 := cellOf (o := 0) HK3.out.s rfl; have s1 := cellOf (o := 1) HK3.out.s rfl; have s2 := cellOf (o := 2) HK3.out.s rfl; have x0 := cellOf (o := 0) HK3.out.x rfl; have x1 := cellOf (o := 1) HK3.out.x rfl; have x2 := cellOf (o := 2) HK3.out.x rfl; have x3 := cellOf (o := 3) HK3.out.x rfl; have x4 := cellOf (o := 4) HK3.out.x rfl; have x5 := cellOf (o := 5) HK3.out.x rfl; have l0 := lt_of_block HK3.out.s; have l1 := lt_of_block HK3.out.x)
            | (go_at_call 28; refine Calls.mono (H4.out _ HK3.out.b) ?_; rintro e v4 ⟨rfl, hb4⟩; have HK4 := Lib.hid (HK3.out.next hb4); clear hb4; clear s0 s1 s2 x0 x1 x2 x3 x4 x5 l0 l1; have s0 := cellOf (o := 0) HK4.out.s rfl; have s1 := cellOf (o := 1) HK4.out.s rfl; have s2 := cellOf (o := 2) HK4.out.s rfl; have x0 := cellOf (o := 0) HK4.out.x rfl; have x1 := cellOf (o := 1) HK4.out.x rfl; have x2 := cellOf (o := 2) HK4.out.x rfl; have x3 := cellOf (o := 3) HK4.out.x rfl; have x4 := cellOf (o := 4) HK4.out.x rfl; have x5 := cellOf (o := 5) HK4.out.x rfl; have l0 := lt_of_block HK4.out.s; have l1 := lt_of_block HK4.out.x))
          go_upto_region 21 with (first
            | (go_at_call 28; refine Calls.mono (H5.out _ HK4.out.b) ?_; rintro e v5 ⟨rfl, hb5⟩; have HK5 := Lib.hid (HK4.out.next hb5); clear hb5; clear s0 s1 s2 x0 x1 x2 x3 x4 x5 l0 l1; have s0 := cellOf (o := 0) HK5.out.s rfl; have s1 := cellOf (o := 1) HK5.out.s rfl; have s2 := cellOf (o := 2) HK5.out.s rfl; have x0 := cellOf (o := 0) HK5.out.x rfl; have x1 := cellOf (o := 1) HK5.out.x rfl; have x2 := cellOf (o := 2) HK5.out.x rfl; have x3 := cellOf (o := 3) HK5.out.x rfl; have x4 := cellOf (o := 4) HK5.out.x rfl; have x5 := cellOf (o := 5) HK5.out.x rfl; have l0 := lt_of_block HK5.out.s; have l1 := lt_of_block HK5.out.x))
          have hl0 : 0 < n := by have := HN2.out; omega
          have hl1 : 1 < n := by have := HN2.out; omega
          have hl1i : (1 : Int) < (n : Int) := by omega
          have hl0i : (0 : Int) < (n : Int) := by omega
          have r0 := HK5.out.b.cell (p := ⟨bb, off, none⟩) hbb |>.trans p0
          have r1 := HK5.out.b.cell (p := ⟨bb, off + 1, none⟩) hbb |>.trans p1
          have r2 := HK5.out.b.cell (p := ⟨bb, off + 2, none⟩) hbb |>.trans p2
          have r3 := HK5.out.b.cell (p := ⟨bb, off + 2 + 1, none⟩) hbb |>.trans p3
          have lb : bb < v5.heap.size := World.block_lt_of_cell? _ _ r0
          clear p0 p1 p2 p3 hbb
          obtain ⟨Qa, hQa⟩ : ∃ q9 : Nat → Value → World → Prop, q9 = QG [some (.pointer (some ⟨w.heap.size + 1, 0, none⟩)), some (.slice (some ⟨bb, off, none⟩) n c), some (.pointer (some ⟨bb, off, none⟩)), some (.agg #[.int .i64 a1, .int .i64 a2]), some (.agg #[.int .i64 z1, .int .i64 a2]), some (.pointer (some ⟨w.heap.size + 1, 0, none⟩)), some (.slice (some ⟨bb, off, none⟩) n c), some (.pointer (some ⟨bb, off + 2, none⟩)), some (.agg #[.int .i64 c1, .int .i64 c2]), some (.agg #[.int .i64 z2, .int .i64 c2]), none, none] (fun j0' v0' w0' => (j0' = 10 → QC [(z1, a2), (z2, c2)] v0' w0') ∧ (j0' = 11 → QC [(z1, a2), (z2, c2)] v0' w0')) := ⟨_, rfl⟩
          have hst : Stays Qa := by rw [hQa]; exact QG.stays (fun j v W W' h hb => ⟨fun e => (h.1 e).stay hb, fun e => (h.2 e).stay hb⟩)
          have Ua10 := Lib.hid (show ∀ v0' w0', Qa 10 v0' w0' ↔ QC [(z1, a2), (z2, c2)] v0' w0' from fun v0' w0' => by rw [hQa]; exact ⟨fun h => h.1 rfl, fun h => ⟨fun _ => h, fun e => absurd e (by decide)⟩⟩)
          have Ua11 := Lib.hid (show ∀ v0' w0', Qa 11 v0' w0' ↔ QC [(z1, a2), (z2, c2)] v0' w0' from fun v0' w0' => by rw [hQa]; exact ⟨fun h => h.2 rfl, fun h => ⟨fun e => absurd e (by decide), fun _ => h⟩⟩)
          have HQa := Lib.hid hQa
          clear hQa
          refine wpIn_wide.1 (region_inv2 (n := 9) (by kernel_rfl) (RQ Qa v5) (by kernel_rfl) rfl (RQ.start _ _ _) ?hstepa ?henda)
          case hstepa =>
            intro i' o ho val L b' x hF hR hpre hl
            match i', ho with
            | 0, ho =>
              simp at ho; subst ho; refine step_plain rfl ?_; have e3 := hF.was 3 (by kernel_rfl) rfl; have hgoal := hR.go hst HQa 0 rfl; clear hF hpre hl hR; go_simp; exact ⟨_, rfl, hgoal _ _ (Below.refl _ _) rfl⟩
            | 1, ho =>
              simp at ho; subst ho; refine step_plain rfl ?_; have e120 := hF.gv hR.2 HQa 0 rfl (hpre ⟨0, .data⟩ (by simp) rfl) rfl; have hgoal := hR.go hst HQa 1 rfl; have q0 := cell_keep hR.1 x0; clear hF hpre hl hR; go_simp; exact ⟨_, rfl, hgoal _ _ (Below.refl _ _) rfl⟩
            | 2, ho =>
              simp at ho; subst ho; refine step_plain rfl ?_; have e121 := hF.gv hR.2 HQa 1 rfl (hpre ⟨1, .data⟩ (by simp) rfl) rfl; have hgoal := hR.go hst HQa 2 rfl; clear hF hpre hl hR; go_simp; exact ⟨_, rfl, hgoal _ _ (Below.refl _ _) rfl⟩
            | 3, ho =>
              simp at ho; subst ho; refine step_plain rfl ?_; have e122 := hF.gv hR.2 HQa 2 rfl (hpre ⟨2, .data⟩ (by simp) rfl) rfl; have hgoal := hR.go hst HQa 3 rfl; have q0 := cell_keep hR.1 r0; have q1 := cell_keep hR.1 r1; clear hF hpre hl hR; go_simp; exact ⟨_, rfl, hgoal _ _ (Below.refl _ _) rfl⟩
            | 4, ho =>
              simp at ho; subst ho; refine step_plain rfl ?_; have e123 := hF.gv hR.2 HQa 3 rfl (hpre ⟨3, .data⟩ (by simp) rfl) rfl; have hgoal := hR.go hst HQa 4 rfl
              have hM := Lib.hid hR.1
              clear hF hpre hl hR; go_simp
              refine ⟨trivial, ?_⟩
              refine CallsIn.mono (callsIn_wide.2 (HH1.out _)) ?_
              rintro e w9 ⟨rfl, hb9⟩
              exact ⟨_, rfl, hgoal _ _ hb9 rfl⟩
            | 5, ho =>
              simp at ho; subst ho; refine step_plain rfl ?_; have e3 := hF.was 3 (by kernel_rfl) rfl; have hgoal := hR.go hst HQa 5 rfl; clear hF hpre hl hR; go_simp; exact ⟨_, rfl, hgoal _ _ (Below.refl _ _) rfl⟩
            | 6, ho =>
              simp at ho; subst ho; refine step_plain rfl ?_; have e125 := hF.gv hR.2 HQa 5 rfl (hpre ⟨5, .data⟩ (by simp) rfl) rfl; have hgoal := hR.go hst HQa 6 rfl; have q0 := cell_keep hR.1 x0; clear hF hpre hl hR; go_simp; exact ⟨_, rfl, hgoal _ _ (Below.refl _ _) rfl⟩
            | 7, ho =>
              simp at ho; subst ho; refine step_plain rfl ?_; have e126 := hF.gv hR.2 HQa 6 rfl (hpre ⟨6, .data⟩ (by simp) rfl) rfl; have hgoal := hR.go hst HQa 7 rfl; clear hF hpre hl hR; go_simp; exact ⟨_, rfl, hgoal _ _ (Below.refl _ _) rfl⟩
            | 8, ho =>
              simp at ho; subst ho; refine step_plain rfl ?_; have e127 := hF.gv hR.2 HQa 7 rfl (hpre ⟨7, .data⟩ (by simp) rfl) rfl; have hgoal := hR.go hst HQa 8 rfl; have q0 := cell_keep hR.1 r2; have q1 := cell_keep hR.1 r3; clear hF hpre hl hR; go_simp; exact ⟨_, rfl, hgoal _ _ (Below.refl _ _) rfl⟩
            | 9, ho =>
              simp at ho; subst ho; refine step_plain rfl ?_; have e128 := hF.gv hR.2 HQa 8 rfl (hpre ⟨8, .data⟩ (by simp) rfl) rfl; have hgoal := hR.go hst HQa 9 rfl
              have hM := Lib.hid hR.1
              clear hF hpre hl hR; go_simp
              refine ⟨trivial, ?_⟩
              refine CallsIn.mono (callsIn_wide.2 (HH2.out _)) ?_
              rintro e w9 ⟨rfl, hb9⟩
              exact ⟨_, rfl, hgoal _ _ hb9 rfl⟩
            | 10, ho =>
              simp at ho; subst ho; refine step_plain rfl ?_; have e124 := hF.gv hR.2 HQa 4 rfl (hpre ⟨4, .data⟩ (by simp) rfl) rfl; have e129 := hF.gv hR.2 HQa 9 rfl (hpre ⟨9, .data⟩ (by simp) rfl) rfl
              have hgoal : ∀ v0' w0', Below x.heap.size x w0' → QC [(z1, a2), (z2, c2)] v0' w0' → RQ Qa v5 (upd val 10 v0') (L.setIfInBounds 10 true) w0' := fun v0' w0' hb hq => hR.step hst hb ((Ua10.out _ _).2 hq)
              have hM := Lib.hid hR.1
              clear hF hpre hl hR; go_simp; exact ⟨_, rfl, hgoal _ _ ((Below.refl _ _).alloc (Nat.le_refl _) _) ⟨_, _, rfl, (RS.new2 rfl).more (by simp)⟩⟩
            | 11, ho =>
              simp at ho; subst ho; refine step_plain rfl ?_; have e130 := hF.gave 10 rfl (hpre ⟨10, .data⟩ (by simp) rfl) rfl
              have v10 := (Ua10.out _ _).1 (hR.2 10 (hpre ⟨10, .data⟩ (by simp) rfl))
              have hgoal : ∀ v0' w0', Below x.heap.size x w0' → QC [(z1, a2), (z2, c2)] v0' w0' → RQ Qa v5 (upd val 11 v0') (L.setIfInBounds 11 true) w0' := fun v0' w0' hb hq => hR.step hst hb ((Ua11.out _ _).2 hq)
              have hM := Lib.hid hR.1
              clear hF hpre hl hR; go_simp; exact ⟨_, rfl, hgoal _ _ (Below.refl _ _) v10⟩
            | i + 12, ho => simp at ho
          case henda =>
            intro val L b' x hF hall hR
            have e := hF.all (by kernel_rfl) hall
            have ka11 := (Ua11.out _ _).1 (hR.2 11 (hall 11 (by decide)))
            have hBa := Lib.hid hR.1
            clear hF hall hR hst HQa Ua10 Ua11
            subst e
            simp [final, dstOf, List.range, List.range.loop]
            obtain ⟨A9, c9, h9, hr9⟩ := ka11
            have h9' : _ = Value.slice A9 2 c9 := h9
            rw [h9']
            have HR9 := Lib.hid hr9
            have HK6 := Lib.hid (HK5.out.next hBa.out)
            clear s0 s1 s2 x0 x1 x2 x3 x4 x5 l0 l1 r0 r1 r2 r3 lb hr9 h9 h9' hl0 hl1 hl0i hl1i hBa
            have s0 := cellOf (o := 0) HK6.out.s rfl
            have s1 := cellOf (o := 1) HK6.out.s rfl
            have s2 := cellOf (o := 2) HK6.out.s rfl
            have x0 := cellOf (o := 0) HK6.out.x rfl
            have x1 := cellOf (o := 1) HK6.out.x rfl
            have x2 := cellOf (o := 2) HK6.out.x rfl
            have x3 := cellOf (o := 3) HK6.out.x rfl
            have x4 := cellOf (o := 4) HK6.out.x rfl
            have x5 := cellOf (o := 5) HK6.out.x rfl
            have l0 := lt_of_block HK6.out.s
            have l1 := lt_of_block HK6.out.x
            generalize val 0 = y0, val 1 = y1, val 2 = y2, val 3 = y3, val 4 = y4, val 5 = y5, val 6 = y6, val 7 = y7, val 8 = y8, val 9 = y9, val 10 = y10
            go_upto_region 22 with (fail)
            obtain ⟨Qb, hQb⟩ : ∃ q9 : Nat → Value → World → Prop, q9 = QG [some (.agg #[.int .i64 N, .int .i64 D, .int .i64 d]), some (.slice A9 2 c9), some (.pointer (some ⟨w.heap.size + 1, 1, none⟩)), some (.agg #[.int .i64 gl, .int .i64 gh]), some (.agg #[.int .i64 z3, .int .i64 gh]), some (.pointer (some ⟨w.heap.size + 1, 5, none⟩)), some (.int .i64 m), some (.pointer (some ⟨w.heap.size + 1, 3, none⟩)), some (.agg #[.int .i64 lo, .int .i64 hi]), some (.tuple #[.int .i64 fu, .bool fj, .int .i64 0]), some (.tuple #[.int .i64 fu, .bool fj, .int .i64 0]), some (.int .i64 fu), some (.bool fj), some (.int .i64 0), some (.int .i64 fu), some (.bool fj), some (.int .i64 0)] (fun _ _ _ => True) := ⟨_, rfl⟩
            have hst : Stays Qb := by rw [hQb]; exact QG.stays (fun _ _ _ _ _ _ => trivial)
            have HQb := Lib.hid hQb
            clear hQb
            refine wpIn_wide.1 (region_inv2 (n := 9) (by kernel_rfl) (RQ Qb x) (by kernel_rfl) rfl (RQ.start _ _ _) ?hstepb ?hendb)
            case hstepb =>
              intro i' o ho val L b' xx hF hR hpre hl
              match i', ho with
              | 0, ho =>
                simp at ho; subst ho; refine step_plain rfl ?_; have e2 := hF.was 2 (by kernel_rfl) rfl; have hgoal := hR.go hst HQb 0 rfl; have q0 := cell_keep hR.1 s0; have q1 := cell_keep hR.1 s1; have q2 := cell_keep hR.1 s2; clear hF hpre hl hR; go_simp; exact ⟨_, rfl, hgoal _ _ (Below.refl _ _) rfl⟩
              | 1, ho =>
                simp at ho; subst ho; refine step_plain rfl ?_; have e16 := hF.was 16 (by kernel_rfl) rfl; have hgoal := hR.go hst HQb 1 rfl; clear hF hpre hl hR; go_simp; exact ⟨_, rfl, hgoal _ _ (Below.refl _ _) rfl⟩
              | 2, ho =>
                simp at ho; subst ho; refine step_plain rfl ?_; have e3 := hF.was 3 (by kernel_rfl) rfl; have hgoal := hR.go hst HQb 2 rfl; clear hF hpre hl hR; go_simp; exact ⟨_, rfl, hgoal _ _ (Below.refl _ _) rfl⟩
              | 3, ho =>
                simp at ho; subst ho; refine step_plain rfl ?_; have e134 := hF.gv hR.2 HQb 2 rfl (hpre ⟨2, .data⟩ (by simp) rfl) rfl; have hgoal := hR.go hst HQb 3 rfl; have q0 := cell_keep hR.1 x1; have q1 := cell_keep hR.1 x2; clear hF hpre hl hR; go_simp; exact ⟨_, rfl, hgoal _ _ (Below.refl _ _) rfl⟩
              | 4, ho =>
                simp at ho; subst ho; refine step_plain rfl ?_; have e135 := hF.gv hR.2 HQb 3 rfl (hpre ⟨3, .data⟩ (by simp) rfl) rfl; have hgoal := hR.go hst HQb 4 rfl
                have hM := Lib.hid hR.1
                clear hF hpre hl hR; go_simp
                refine ⟨trivial, ?_⟩
                refine CallsIn.mono (callsIn_wide.2 (HH3.out _)) ?_
                rintro e w9 ⟨rfl, hb9⟩
                exact ⟨_, rfl, hgoal _ _ hb9 rfl⟩
              | 5, ho =>
                simp at ho; subst ho; refine step_plain rfl ?_; have e3 := hF.was 3 (by kernel_rfl) rfl; have hgoal := hR.go hst HQb 5 rfl; clear hF hpre hl hR; go_simp; exact ⟨_, rfl, hgoal _ _ (Below.refl _ _) rfl⟩
              | 6, ho =>
                simp at ho; subst ho; refine step_plain rfl ?_; have e137 := hF.gv hR.2 HQb 5 rfl (hpre ⟨5, .data⟩ (by simp) rfl) rfl; have hgoal := hR.go hst HQb 6 rfl; have q0 := cell_keep hR.1 x5; clear hF hpre hl hR; go_simp; exact ⟨_, rfl, hgoal _ _ (Below.refl _ _) rfl⟩
              | 7, ho =>
                simp at ho; subst ho; refine step_plain rfl ?_; have e3 := hF.was 3 (by kernel_rfl) rfl; have hgoal := hR.go hst HQb 7 rfl; clear hF hpre hl hR; go_simp; exact ⟨_, rfl, hgoal _ _ (Below.refl _ _) rfl⟩
              | 8, ho =>
                simp at ho; subst ho; refine step_plain rfl ?_; have e139 := hF.gv hR.2 HQb 7 rfl (hpre ⟨7, .data⟩ (by simp) rfl) rfl; have hgoal := hR.go hst HQb 8 rfl; have q0 := cell_keep hR.1 x3; have q1 := cell_keep hR.1 x4; clear hF hpre hl hR; go_simp; exact ⟨_, rfl, hgoal _ _ (Below.refl _ _) rfl⟩
              | 9, ho =>
                simp at ho; subst ho; refine step_plain rfl ?_; have e132 := hF.gv hR.2 HQb 0 rfl (hpre ⟨0, .data⟩ (by simp) rfl) rfl; have e133 := hF.gv hR.2 HQb 1 rfl (hpre ⟨1, .data⟩ (by simp) rfl) rfl; have e136 := hF.gv hR.2 HQb 4 rfl (hpre ⟨4, .data⟩ (by simp) rfl) rfl; have e138 := hF.gv hR.2 HQb 6 rfl (hpre ⟨6, .data⟩ (by simp) rfl) rfl; have e140 := hF.gv hR.2 HQb 8 rfl (hpre ⟨8, .data⟩ (by simp) rfl) rfl; have hgoal := hR.go hst HQb 9 rfl
                have hM := Lib.hid hR.1
                clear hF hpre hl hR; go_simp
                refine ⟨trivial, ?_⟩
                refine CallsIn.mono (callsIn_wide.2 (H6.out A9 c9 _ ((HR9.out.below hM.out).more hM.out.size))) ?_
                rintro e w9 ⟨rfl, hb9⟩
                exact ⟨_, rfl, hgoal _ _ hb9 rfl⟩
              | 10, ho =>
                simp at ho; subst ho; refine step_plain rfl ?_; have e141 := hF.gv hR.2 HQb 9 rfl (hpre ⟨9, .data⟩ (by simp) rfl) rfl; have hgoal := hR.go hst HQb 10 rfl; clear hF hpre hl hR; go_simp; exact ⟨_, rfl, hgoal _ _ (Below.refl _ _) rfl⟩
              | 11, ho =>
                simp at ho; subst ho; refine step_plain rfl ?_; have e131 := hF.gv hR.2 HQb 10 rfl (hpre ⟨10, .data⟩ (by simp) rfl) rfl; have hgoal := hR.go hst HQb 11 rfl; clear hF hpre hl hR; go_simp; exact ⟨_, rfl, hgoal _ _ (Below.refl _ _) rfl⟩
              | 12, ho =>
                simp at ho; subst ho; refine step_plain rfl ?_; have e131 := hF.gv hR.2 HQb 10 rfl (hpre ⟨10, .data⟩ (by simp) rfl) rfl; have hgoal := hR.go hst HQb 12 rfl; clear hF hpre hl hR; go_simp; exact ⟨_, rfl, hgoal _ _ (Below.refl _ _) rfl⟩
              | 13, ho =>
                simp at ho; subst ho; refine step_plain rfl ?_; have e131 := hF.gv hR.2 HQb 10 rfl (hpre ⟨10, .data⟩ (by simp) rfl) rfl; have hgoal := hR.go hst HQb 13 rfl; clear hF hpre hl hR; go_simp; exact ⟨_, rfl, hgoal _ _ (Below.refl _ _) rfl⟩
              | 14, ho =>
                simp at ho; subst ho; refine step_plain rfl ?_; have e142 := hF.gv hR.2 HQb 11 rfl (hpre ⟨11, .data⟩ (by simp) rfl) rfl; have hgoal := hR.go hst HQb 14 rfl; clear hF hpre hl hR; go_simp; exact ⟨_, rfl, hgoal _ _ (Below.refl _ _) rfl⟩
              | 15, ho =>
                simp at ho; subst ho; refine step_plain rfl ?_; have e143 := hF.gv hR.2 HQb 12 rfl (hpre ⟨12, .data⟩ (by simp) rfl) rfl; have hgoal := hR.go hst HQb 15 rfl; clear hF hpre hl hR; go_simp; exact ⟨_, rfl, hgoal _ _ (Below.refl _ _) rfl⟩
              | 16, ho =>
                simp at ho; subst ho; refine step_plain rfl ?_; have e144 := hF.gv hR.2 HQb 13 rfl (hpre ⟨13, .data⟩ (by simp) rfl) rfl; have hgoal := hR.go hst HQb 16 rfl; clear hF hpre hl hR; go_simp; exact ⟨_, rfl, hgoal _ _ (Below.refl _ _) rfl⟩
              | i + 17, ho => simp at ho
            case hendb =>
              intro val L b' xx hF hall hR
              have e := hF.all (by kernel_rfl) hall
              have kb14 := QG.val HQb rfl (hR.2 14 (hall 14 (by decide)))
              have kb15 := QG.val HQb rfl (hR.2 15 (hall 15 (by decide)))
              have kb16 := QG.val HQb rfl (hR.2 16 (hall 16 (by decide)))
              have hBb := Lib.hid hR.1
              clear hF hall hR hst HQb 
              subst e
              simp [final, dstOf, List.range, List.range.loop]
              rw [kb14]
              rw [kb15]
              rw [kb16]
              have HB7 := Lib.hid (HK6.out.next hBb.out).b
              clear s0 s1 s2 x0 x1 x2 x3 x4 x5 l0 l1
              rcases HFF.out with rfl | ⟨rfl, rfl⟩
              · go_wp2_with (go_at_call 22; refine Calls.mono (HWK.out _) ?_; rintro e v9 ⟨rfl, hb9⟩; have HX9 := Lib.hid (HB7.out.trans (hb9.mono HB7.out.size)); clear hb9)
                go_ret
                exact ⟨rfl, HX9.out⟩
              · go_wp2_with (go_at_call 22; refine Calls.mono (HWK.out _) ?_; rintro e v9 ⟨rfl, hb9⟩; have HX9 := Lib.hid (HB7.out.trans (hb9.mono HB7.out.size)); clear hb9)
                go_ret
                exact ⟨rfl, HX9.out⟩
        · clear f0 f1 f2 f3 hK1 hK2 ht1
          go_enter Try.func11, Try.ntmps11
          go_upto_region 1 with (fail)
          generalize World.alloc _ _ = w1 at *
          have s0 := cellOf (o := 0) HK0.out.s rfl
          have s1 := cellOf (o := 1) HK0.out.s rfl
          have s2 := cellOf (o := 2) HK0.out.s rfl
          have x0 := cellOf (o := 0) HK0.out.x rfl
          have x1 := cellOf (o := 1) HK0.out.x rfl
          have x2 := cellOf (o := 2) HK0.out.x rfl
          have x3 := cellOf (o := 3) HK0.out.x rfl
          have x4 := cellOf (o := 4) HK0.out.x rfl
          have x5 := cellOf (o := 5) HK0.out.x rfl
          have l0 := lt_of_block HK0.out.s
          have l1 := lt_of_block HK0.out.x
          go_upto_region 18 with (first
            | (go_at_call 40; refine Calls.mono (HCS.out _ HK0.out.b) ?_; rintro e v1 ⟨rfl, hb1⟩; have HK1 := Lib.hid (HK0.out.next hb1); clear hb1; clear s0 s1 s2 x0 x1 x2 x3 x4 x5 l0 l1; have s0 := cellOf (o := 0) HK1.out.s rfl; have s1 := cellOf (o := 1) HK1.out.s rfl; have s2 := cellOf (o := 2) HK1.out.s rfl; have x0 := cellOf (o := 0) HK1.out.x rfl; have x1 := cellOf (o := 1) HK1.out.x rfl; have x2 := cellOf (o := 2) HK1.out.x rfl; have x3 := cellOf (o := 3) HK1.out.x rfl; have x4 := cellOf (o := 4) HK1.out.x rfl; have x5 := cellOf (o := 5) HK1.out.x rfl; have l0 := lt_of_block HK1.out.s; have l1 := lt_of_block HK1.out.x)
            | (go_at_call 30; refine Calls.mono (HGU.out _ HK1.out.b) ?_; rintro e v2 ⟨rfl, hb2⟩; have HK2 := Lib.hid (HK1.out.next hb2); clear hb2; clear s0 s1 s2 x0 x1 x2 x3 x4 x5 l0 l1; have s0 := cellOf (o := 0) HK2.out.s rfl; have s1 := cellOf (o := 1) HK2.out.s rfl; have s2 := cellOf (o := 2) HK2.out.s rfl; have x0 := cellOf (o := 0) HK2.out.x rfl; have x1 := cellOf (o := 1) HK2.out.x rfl; have x2 := cellOf (o := 2) HK2.out.x rfl; have x3 := cellOf (o := 3) HK2.out.x rfl; have x4 := cellOf (o := 4) HK2.out.x rfl; have x5 := cellOf (o := 5) HK2.out.x rfl; have l0 := lt_of_block HK2.out.s; have l1 := lt_of_block HK2.out.x)
            | (go_at_call 28; refine Calls.mono (H3.out _ HK2.out.b) ?_; rintro e v4 ⟨rfl, hb4⟩; have HK4 := Lib.hid (HK2.out.next hb4); clear hb4; clear s0 s1 s2 x0 x1 x2 x3 x4 x5 l0 l1; have s0 := cellOf (o := 0) HK4.out.s rfl; have s1 := cellOf (o := 1) HK4.out.s rfl; have s2 := cellOf (o := 2) HK4.out.s rfl; have x0 := cellOf (o := 0) HK4.out.x rfl; have x1 := cellOf (o := 1) HK4.out.x rfl; have x2 := cellOf (o := 2) HK4.out.x rfl; have x3 := cellOf (o := 3) HK4.out.x rfl; have x4 := cellOf (o := 4) HK4.out.x rfl; have x5 := cellOf (o := 5) HK4.out.x rfl; have l0 := lt_of_block HK4.out.s; have l1 := lt_of_block HK4.out.x))
          go_upto_region 21 with (first
            | (go_at_call 28; refine Calls.mono (H5.out _ HK4.out.b) ?_; rintro e v5 ⟨rfl, hb5⟩; have HK5 := Lib.hid (HK4.out.next hb5); clear hb5; clear s0 s1 s2 x0 x1 x2 x3 x4 x5 l0 l1; have s0 := cellOf (o := 0) HK5.out.s rfl; have s1 := cellOf (o := 1) HK5.out.s rfl; have s2 := cellOf (o := 2) HK5.out.s rfl; have x0 := cellOf (o := 0) HK5.out.x rfl; have x1 := cellOf (o := 1) HK5.out.x rfl; have x2 := cellOf (o := 2) HK5.out.x rfl; have x3 := cellOf (o := 3) HK5.out.x rfl; have x4 := cellOf (o := 4) HK5.out.x rfl; have x5 := cellOf (o := 5) HK5.out.x rfl; have l0 := lt_of_block HK5.out.s; have l1 := lt_of_block HK5.out.x))
          have hl0 : 0 < n := by have := HN2.out; omega
          have hl1 : 1 < n := by have := HN2.out; omega
          have hl1i : (1 : Int) < (n : Int) := by omega
          have hl0i : (0 : Int) < (n : Int) := by omega
          have r0 := HK5.out.b.cell (p := ⟨bb, off, none⟩) hbb |>.trans p0
          have r1 := HK5.out.b.cell (p := ⟨bb, off + 1, none⟩) hbb |>.trans p1
          have r2 := HK5.out.b.cell (p := ⟨bb, off + 2, none⟩) hbb |>.trans p2
          have r3 := HK5.out.b.cell (p := ⟨bb, off + 2 + 1, none⟩) hbb |>.trans p3
          have lb : bb < v5.heap.size := World.block_lt_of_cell? _ _ r0
          clear p0 p1 p2 p3 hbb
          obtain ⟨Qa, hQa⟩ : ∃ q9 : Nat → Value → World → Prop, q9 = QG [some (.pointer (some ⟨w.heap.size + 1, 0, none⟩)), some (.slice (some ⟨bb, off, none⟩) n c), some (.pointer (some ⟨bb, off, none⟩)), some (.agg #[.int .i64 a1, .int .i64 a2]), some (.agg #[.int .i64 z1, .int .i64 a2]), some (.pointer (some ⟨w.heap.size + 1, 0, none⟩)), some (.slice (some ⟨bb, off, none⟩) n c), some (.pointer (some ⟨bb, off + 2, none⟩)), some (.agg #[.int .i64 c1, .int .i64 c2]), some (.agg #[.int .i64 z2, .int .i64 c2]), none, none] (fun j0' v0' w0' => (j0' = 10 → QC [(z1, a2), (z2, c2)] v0' w0') ∧ (j0' = 11 → QC [(z1, a2), (z2, c2)] v0' w0')) := ⟨_, rfl⟩
          have hst : Stays Qa := by rw [hQa]; exact QG.stays (fun j v W W' h hb => ⟨fun e => (h.1 e).stay hb, fun e => (h.2 e).stay hb⟩)
          have Ua10 := Lib.hid (show ∀ v0' w0', Qa 10 v0' w0' ↔ QC [(z1, a2), (z2, c2)] v0' w0' from fun v0' w0' => by rw [hQa]; exact ⟨fun h => h.1 rfl, fun h => ⟨fun _ => h, fun e => absurd e (by decide)⟩⟩)
          have Ua11 := Lib.hid (show ∀ v0' w0', Qa 11 v0' w0' ↔ QC [(z1, a2), (z2, c2)] v0' w0' from fun v0' w0' => by rw [hQa]; exact ⟨fun h => h.2 rfl, fun h => ⟨fun e => absurd e (by decide), fun _ => h⟩⟩)
          have HQa := Lib.hid hQa
          clear hQa
          refine wpIn_wide.1 (region_inv2 (n := 9) (by kernel_rfl) (RQ Qa v5) (by kernel_rfl) rfl (RQ.start _ _ _) ?hstepa ?henda)
          case hstepa =>
            intro i' o ho val L b' x hF hR hpre hl
            match i', ho with
            | 0, ho =>
              simp at ho; subst ho; refine step_plain rfl ?_; have e3 := hF.was 3 (by kernel_rfl) rfl; have hgoal := hR.go hst HQa 0 rfl; clear hF hpre hl hR; go_simp; exact ⟨_, rfl, hgoal _ _ (Below.refl _ _) rfl⟩
            | 1, ho =>
              simp at ho; subst ho; refine step_plain rfl ?_; have e120 := hF.gv hR.2 HQa 0 rfl (hpre ⟨0, .data⟩ (by simp) rfl) rfl; have hgoal := hR.go hst HQa 1 rfl; have q0 := cell_keep hR.1 x0; clear hF hpre hl hR; go_simp; exact ⟨_, rfl, hgoal _ _ (Below.refl _ _) rfl⟩
            | 2, ho =>
              simp at ho; subst ho; refine step_plain rfl ?_; have e121 := hF.gv hR.2 HQa 1 rfl (hpre ⟨1, .data⟩ (by simp) rfl) rfl; have hgoal := hR.go hst HQa 2 rfl; clear hF hpre hl hR; go_simp; exact ⟨_, rfl, hgoal _ _ (Below.refl _ _) rfl⟩
            | 3, ho =>
              simp at ho; subst ho; refine step_plain rfl ?_; have e122 := hF.gv hR.2 HQa 2 rfl (hpre ⟨2, .data⟩ (by simp) rfl) rfl; have hgoal := hR.go hst HQa 3 rfl; have q0 := cell_keep hR.1 r0; have q1 := cell_keep hR.1 r1; clear hF hpre hl hR; go_simp; exact ⟨_, rfl, hgoal _ _ (Below.refl _ _) rfl⟩
            | 4, ho =>
              simp at ho; subst ho; refine step_plain rfl ?_; have e123 := hF.gv hR.2 HQa 3 rfl (hpre ⟨3, .data⟩ (by simp) rfl) rfl; have hgoal := hR.go hst HQa 4 rfl
              have hM := Lib.hid hR.1
              clear hF hpre hl hR; go_simp
              refine ⟨trivial, ?_⟩
              refine CallsIn.mono (callsIn_wide.2 (HH1.out _)) ?_
              rintro e w9 ⟨rfl, hb9⟩
              exact ⟨_, rfl, hgoal _ _ hb9 rfl⟩
            | 5, ho =>
              simp at ho; subst ho; refine step_plain rfl ?_; have e3 := hF.was 3 (by kernel_rfl) rfl; have hgoal := hR.go hst HQa 5 rfl; clear hF hpre hl hR; go_simp; exact ⟨_, rfl, hgoal _ _ (Below.refl _ _) rfl⟩
            | 6, ho =>
              simp at ho; subst ho; refine step_plain rfl ?_; have e125 := hF.gv hR.2 HQa 5 rfl (hpre ⟨5, .data⟩ (by simp) rfl) rfl; have hgoal := hR.go hst HQa 6 rfl; have q0 := cell_keep hR.1 x0; clear hF hpre hl hR; go_simp; exact ⟨_, rfl, hgoal _ _ (Below.refl _ _) rfl⟩
            | 7, ho =>
              simp at ho; subst ho; refine step_plain rfl ?_; have e126 := hF.gv hR.2 HQa 6 rfl (hpre ⟨6, .data⟩ (by simp) rfl) rfl; have hgoal := hR.go hst HQa 7 rfl; clear hF hpre hl hR; go_simp; exact ⟨_, rfl, hgoal _ _ (Below.refl _ _) rfl⟩
            | 8, ho =>
              simp at ho; subst ho; refine step_plain rfl ?_; have e127 := hF.gv hR.2 HQa 7 rfl (hpre ⟨7, .data⟩ (by simp) rfl) rfl; have hgoal := hR.go hst HQa 8 rfl; have q0 := cell_keep hR.1 r2; have q1 := cell_keep hR.1 r3; clear hF hpre hl hR; go_simp; exact ⟨_, rfl, hgoal _ _ (Below.refl _ _) rfl⟩
            | 9, ho =>
              simp at ho; subst ho; refine step_plain rfl ?_; have e128 := hF.gv hR.2 HQa 8 rfl (hpre ⟨8, .data⟩ (by simp) rfl) rfl; have hgoal := hR.go hst HQa 9 rfl
              have hM := Lib.hid hR.1
              clear hF hpre hl hR; go_simp
              refine ⟨trivial, ?_⟩
              refine CallsIn.mono (callsIn_wide.2 (HH2.out _)) ?_
              rintro e w9 ⟨rfl, hb9⟩
              exact ⟨_, rfl, hgoal _ _ hb9 rfl⟩
            | 10, ho =>
              simp at ho; subst ho; refine step_plain rfl ?_; have e124 := hF.gv hR.2 HQa 4 rfl (hpre ⟨4, .data⟩ (by simp) rfl) rfl; have e129 := hF.gv hR.2 HQa 9 rfl (hpre ⟨9, .data⟩ (by simp) rfl) rfl
              have hgoal : ∀ v0' w0', Below x.heap.size x w0' → QC [(z1, a2), (z2, c2)] v0' w0' → RQ Qa v5 (upd val 10 v0') (L.setIfInBounds 10 true) w0' := fun v0' w0' hb hq => hR.step hst hb ((Ua10.out _ _).2 hq)
              have hM := Lib.hid hR.1
              clear hF hpre hl hR; go_simp; exact ⟨_, rfl, hgoal _ _ ((Below.refl _ _).alloc (Nat.le_refl _) _) ⟨_, _, rfl, (RS.new2 rfl).more (by simp)⟩⟩
            | 11, ho =>
              simp at ho; subst ho; refine step_plain rfl ?_; have e130 := hF.gave 10 rfl (hpre ⟨10, .data⟩ (by simp) rfl) rfl
              have v10 := (Ua10.out _ _).1 (hR.2 10 (hpre ⟨10, .data⟩ (by simp) rfl))
              have hgoal : ∀ v0' w0', Below x.heap.size x w0' → QC [(z1, a2), (z2, c2)] v0' w0' → RQ Qa v5 (upd val 11 v0') (L.setIfInBounds 11 true) w0' := fun v0' w0' hb hq => hR.step hst hb ((Ua11.out _ _).2 hq)
              have hM := Lib.hid hR.1
              clear hF hpre hl hR; go_simp; exact ⟨_, rfl, hgoal _ _ (Below.refl _ _) v10⟩
            | i + 12, ho => simp at ho
          case henda =>
            intro val L b' x hF hall hR
            have e := hF.all (by kernel_rfl) hall
            have ka11 := (Ua11.out _ _).1 (hR.2 11 (hall 11 (by decide)))
            have hBa := Lib.hid hR.1
            clear hF hall hR hst HQa Ua10 Ua11
            subst e
            simp [final, dstOf, List.range, List.range.loop]
            obtain ⟨A9, c9, h9, hr9⟩ := ka11
            have h9' : _ = Value.slice A9 2 c9 := h9
            rw [h9']
            have HR9 := Lib.hid hr9
            have HK6 := Lib.hid (HK5.out.next hBa.out)
            clear s0 s1 s2 x0 x1 x2 x3 x4 x5 l0 l1 r0 r1 r2 r3 lb hr9 h9 h9' hl0 hl1 hl0i hl1i hBa
            have s0 := cellOf (o := 0) HK6.out.s rfl
            have s1 := cellOf (o := 1) HK6.out.s rfl
            have s2 := cellOf (o := 2) HK6.out.s rfl
            have x0 := cellOf (o := 0) HK6.out.x rfl
            have x1 := cellOf (o := 1) HK6.out.x rfl
            have x2 := cellOf (o := 2) HK6.out.x rfl
            have x3 := cellOf (o := 3) HK6.out.x rfl
            have x4 := cellOf (o := 4) HK6.out.x rfl
            have x5 := cellOf (o := 5) HK6.out.x rfl
            have l0 := lt_of_block HK6.out.s
            have l1 := lt_of_block HK6.out.x
            generalize val 0 = y0, val 1 = y1, val 2 = y2, val 3 = y3, val 4 = y4, val 5 = y5, val 6 = y6, val 7 = y7, val 8 = y8, val 9 = y9, val 10 = y10
            go_upto_region 22 with (fail)
            obtain ⟨Qb, hQb⟩ : ∃ q9 : Nat → Value → World → Prop, q9 = QG [some (.agg #[.int .i64 N, .int .i64 D, .int .i64 d]), some (.slice A9 2 c9), some (.pointer (some ⟨w.heap.size + 1, 1, none⟩)), some (.agg #[.int .i64 gl, .int .i64 gh]), some (.agg #[.int .i64 z3, .int .i64 gh]), some (.pointer (some ⟨w.heap.size + 1, 5, none⟩)), some (.int .i64 m), some (.pointer (some ⟨w.heap.size + 1, 3, none⟩)), some (.agg #[.int .i64 lo, .int .i64 hi]), some (.tuple #[.int .i64 fu, .bool fj, .int .i64 0]), some (.tuple #[.int .i64 fu, .bool fj, .int .i64 0]), some (.int .i64 fu), some (.bool fj), some (.int .i64 0), some (.int .i64 fu), some (.bool fj), some (.int .i64 0)] (fun _ _ _ => True) := ⟨_, rfl⟩
            have hst : Stays Qb := by rw [hQb]; exact QG.stays (fun _ _ _ _ _ _ => trivial)
            have HQb := Lib.hid hQb
            clear hQb
            refine wpIn_wide.1 (region_inv2 (n := 9) (by kernel_rfl) (RQ Qb x) (by kernel_rfl) rfl (RQ.start _ _ _) ?hstepb ?hendb)
            case hstepb =>
              intro i' o ho val L b' xx hF hR hpre hl
              match i', ho with
              | 0, ho =>
                simp at ho; subst ho; refine step_plain rfl ?_; have e2 := hF.was 2 (by kernel_rfl) rfl; have hgoal := hR.go hst HQb 0 rfl; have q0 := cell_keep hR.1 s0; have q1 := cell_keep hR.1 s1; have q2 := cell_keep hR.1 s2; clear hF hpre hl hR; go_simp; exact ⟨_, rfl, hgoal _ _ (Below.refl _ _) rfl⟩
              | 1, ho =>
                simp at ho; subst ho; refine step_plain rfl ?_; have e16 := hF.was 16 (by kernel_rfl) rfl; have hgoal := hR.go hst HQb 1 rfl; clear hF hpre hl hR; go_simp; exact ⟨_, rfl, hgoal _ _ (Below.refl _ _) rfl⟩
              | 2, ho =>
                simp at ho; subst ho; refine step_plain rfl ?_; have e3 := hF.was 3 (by kernel_rfl) rfl; have hgoal := hR.go hst HQb 2 rfl; clear hF hpre hl hR; go_simp; exact ⟨_, rfl, hgoal _ _ (Below.refl _ _) rfl⟩
              | 3, ho =>
                simp at ho; subst ho; refine step_plain rfl ?_; have e134 := hF.gv hR.2 HQb 2 rfl (hpre ⟨2, .data⟩ (by simp) rfl) rfl; have hgoal := hR.go hst HQb 3 rfl; have q0 := cell_keep hR.1 x1; have q1 := cell_keep hR.1 x2; clear hF hpre hl hR; go_simp; exact ⟨_, rfl, hgoal _ _ (Below.refl _ _) rfl⟩
              | 4, ho =>
                simp at ho; subst ho; refine step_plain rfl ?_; have e135 := hF.gv hR.2 HQb 3 rfl (hpre ⟨3, .data⟩ (by simp) rfl) rfl; have hgoal := hR.go hst HQb 4 rfl
                have hM := Lib.hid hR.1
                clear hF hpre hl hR; go_simp
                refine ⟨trivial, ?_⟩
                refine CallsIn.mono (callsIn_wide.2 (HH3.out _)) ?_
                rintro e w9 ⟨rfl, hb9⟩
                exact ⟨_, rfl, hgoal _ _ hb9 rfl⟩
              | 5, ho =>
                simp at ho; subst ho; refine step_plain rfl ?_; have e3 := hF.was 3 (by kernel_rfl) rfl; have hgoal := hR.go hst HQb 5 rfl; clear hF hpre hl hR; go_simp; exact ⟨_, rfl, hgoal _ _ (Below.refl _ _) rfl⟩
              | 6, ho =>
                simp at ho; subst ho; refine step_plain rfl ?_; have e137 := hF.gv hR.2 HQb 5 rfl (hpre ⟨5, .data⟩ (by simp) rfl) rfl; have hgoal := hR.go hst HQb 6 rfl; have q0 := cell_keep hR.1 x5; clear hF hpre hl hR; go_simp; exact ⟨_, rfl, hgoal _ _ (Below.refl _ _) rfl⟩
              | 7, ho =>
                simp at ho; subst ho; refine step_plain rfl ?_; have e3 := hF.was 3 (by kernel_rfl) rfl; have hgoal := hR.go hst HQb 7 rfl; clear hF hpre hl hR; go_simp; exact ⟨_, rfl, hgoal _ _ (Below.refl _ _) rfl⟩
              | 8, ho =>
                simp at ho; subst ho; refine step_plain rfl ?_; have e139 := hF.gv hR.2 HQb 7 rfl (hpre ⟨7, .data⟩ (by simp) rfl) rfl; have hgoal := hR.go hst HQb 8 rfl; have q0 := cell_keep hR.1 x3; have q1 := cell_keep hR.1 x4; clear hF hpre hl hR; go_simp; exact ⟨_, rfl, hgoal _ _ (Below.refl _ _) rfl⟩
              | 9, ho =>
                simp at ho; subst ho; refine step_plain rfl ?_; have e132 := hF.gv hR.2 HQb 0 rfl (hpre ⟨0, .data⟩ (by simp) rfl) rfl; have e133 := hF.gv hR.2 HQb 1 rfl (hpre ⟨1, .data⟩ (by simp) rfl) rfl; have e136 := hF.gv hR.2 HQb 4 rfl (hpre ⟨4, .data⟩ (by simp) rfl) rfl; have e138 := hF.gv hR.2 HQb 6 rfl (hpre ⟨6, .data⟩ (by simp) rfl) rfl; have e140 := hF.gv hR.2 HQb 8 rfl (hpre ⟨8, .data⟩ (by simp) rfl) rfl; have hgoal := hR.go hst HQb 9 rfl
                have hM := Lib.hid hR.1
                clear hF hpre hl hR; go_simp
                refine ⟨trivial, ?_⟩
                refine CallsIn.mono (callsIn_wide.2 (H6.out A9 c9 _ ((HR9.out.below hM.out).more hM.out.size))) ?_
                rintro e w9 ⟨rfl, hb9⟩
                exact ⟨_, rfl, hgoal _ _ hb9 rfl⟩
              | 10, ho =>
                simp at ho; subst ho; refine step_plain rfl ?_; have e141 := hF.gv hR.2 HQb 9 rfl (hpre ⟨9, .data⟩ (by simp) rfl) rfl; have hgoal := hR.go hst HQb 10 rfl; clear hF hpre hl hR; go_simp; exact ⟨_, rfl, hgoal _ _ (Below.refl _ _) rfl⟩
              | 11, ho =>
                simp at ho; subst ho; refine step_plain rfl ?_; have e131 := hF.gv hR.2 HQb 10 rfl (hpre ⟨10, .data⟩ (by simp) rfl) rfl; have hgoal := hR.go hst HQb 11 rfl; clear hF hpre hl hR; go_simp; exact ⟨_, rfl, hgoal _ _ (Below.refl _ _) rfl⟩
              | 12, ho =>
                simp at ho; subst ho; refine step_plain rfl ?_; have e131 := hF.gv hR.2 HQb 10 rfl (hpre ⟨10, .data⟩ (by simp) rfl) rfl; have hgoal := hR.go hst HQb 12 rfl; clear hF hpre hl hR; go_simp; exact ⟨_, rfl, hgoal _ _ (Below.refl _ _) rfl⟩
              | 13, ho =>
                simp at ho; subst ho; refine step_plain rfl ?_; have e131 := hF.gv hR.2 HQb 10 rfl (hpre ⟨10, .data⟩ (by simp) rfl) rfl; have hgoal := hR.go hst HQb 13 rfl; clear hF hpre hl hR; go_simp; exact ⟨_, rfl, hgoal _ _ (Below.refl _ _) rfl⟩
              | 14, ho =>
                simp at ho; subst ho; refine step_plain rfl ?_; have e142 := hF.gv hR.2 HQb 11 rfl (hpre ⟨11, .data⟩ (by simp) rfl) rfl; have hgoal := hR.go hst HQb 14 rfl; clear hF hpre hl hR; go_simp; exact ⟨_, rfl, hgoal _ _ (Below.refl _ _) rfl⟩
              | 15, ho =>
                simp at ho; subst ho; refine step_plain rfl ?_; have e143 := hF.gv hR.2 HQb 12 rfl (hpre ⟨12, .data⟩ (by simp) rfl) rfl; have hgoal := hR.go hst HQb 15 rfl; clear hF hpre hl hR; go_simp; exact ⟨_, rfl, hgoal _ _ (Below.refl _ _) rfl⟩
              | 16, ho =>
                simp at ho; subst ho; refine step_plain rfl ?_; have e144 := hF.gv hR.2 HQb 13 rfl (hpre ⟨13, .data⟩ (by simp) rfl) rfl; have hgoal := hR.go hst HQb 16 rfl; clear hF hpre hl hR; go_simp; exact ⟨_, rfl, hgoal _ _ (Below.refl _ _) rfl⟩
              | i + 17, ho => simp at ho
            case hendb =>
              intro val L b' xx hF hall hR
              have e := hF.all (by kernel_rfl) hall
              have kb14 := QG.val HQb rfl (hR.2 14 (hall 14 (by decide)))
              have kb15 := QG.val HQb rfl (hR.2 15 (hall 15 (by decide)))
              have kb16 := QG.val HQb rfl (hR.2 16 (hall 16 (by decide)))
              have hBb := Lib.hid hR.1
              clear hF hall hR hst HQb 
              subst e
              simp [final, dstOf, List.range, List.range.loop]
              rw [kb14]
              rw [kb15]
              rw [kb16]
              have HB7 := Lib.hid (HK6.out.next hBb.out).b
              clear s0 s1 s2 x0 x1 x2 x3 x4 x5 l0 l1
              rcases HFF.out with rfl | ⟨rfl, rfl⟩
              · go_wp2_with (go_at_call 22; refine Calls.mono (HWK.out _) ?_; rintro e v9 ⟨rfl, hb9⟩; have HX9 := Lib.hid (HB7.out.trans (hb9.mono HB7.out.size)); clear hb9)
                go_ret
                exact ⟨rfl, HX9.out⟩
              · go_wp2_with (go_at_call 22; refine Calls.mono (HWK.out _) ?_; rintro e v9 ⟨rfl, hb9⟩; have HX9 := Lib.hid (HB7.out.trans (hb9.mono HB7.out.size)); clear hb9)
                go_ret
                exact ⟨rfl, HX9.out⟩
      · rw [if_neg h0] at HGU
        simp only at HGU
        obtain rfl : gv = -1 := by omega
        obtain ⟨t2, ht2⟩ := f3 (by omega)
        have H4 := Lib.hid (hK2 _ ht2)
        rw [show (- (-1 : Int) - 1) = 0 by omega, show ((-1 : Int) + 1) = 0 by omega] at H4
        simp only at H4
        clear f0 f1 f2 f3 hK1 hK2 ht2 h0 hn1 hn3
        go_enter Try.func11, Try.ntmps11
        go_upto_region 1 with (fail)
        generalize World.alloc _ _ = w1 at *
        have s0 := cellOf (o := 0) HK0.out.s rfl
        have s1 := cellOf (o := 1) HK0.out.s rfl
        have s2 := cellOf (o := 2) HK0.out.s rfl
        have x0 := cellOf (o := 0) HK0.out.x rfl
        have x1 := cellOf (o := 1) HK0.out.x rfl
        have x2 := cellOf (o := 2) HK0.out.x rfl
        have x3 := cellOf (o := 3) HK0.out.x rfl
        have x4 := cellOf (o := 4) HK0.out.x rfl
        have x5 := cellOf (o := 5) HK0.out.x rfl
        have l0 := lt_of_block HK0.out.s
        have l1 := lt_of_block HK0.out.x
        go_upto_region 18 with (first
          | (go_at_call 40; refine Calls.mono (HCS.out _ HK0.out.b) ?_; rintro e v1 ⟨rfl, hb1⟩; have HK1 := Lib.hid (HK0.out.next hb1); clear hb1; clear s0 s1 s2 x0 x1 x2 x3 x4 x5 l0 l1; have s0 := cellOf (o := 0) HK1.out.s rfl; have s1 := cellOf (o := 1) HK1.out.s rfl; have s2 := cellOf (o := 2) HK1.out.s rfl; have x0 := cellOf (o := 0) HK1.out.x rfl; have x1 := cellOf (o := 1) HK1.out.x rfl; have x2 := cellOf (o := 2) HK1.out.x rfl; have x3 := cellOf (o := 3) HK1.out.x rfl; have x4 := cellOf (o := 4) HK1.out.x rfl; have x5 := cellOf (o := 5) HK1.out.x rfl; have l0 := lt_of_block HK1.out.s; have l1 := lt_of_block HK1.out.x)
          | (go_at_call 30; refine Calls.mono (HGU.out _ HK1.out.b) ?_; rintro e v2 ⟨rfl, hb2⟩; have HK2 := Lib.hid (HK1.out.next hb2); clear hb2; clear s0 s1 s2 x0 x1 x2 x3 x4 x5 l0 l1; have s0 := cellOf (o := 0) HK2.out.s rfl; have s1 := cellOf (o := 1) HK2.out.s rfl; have s2 := cellOf (o := 2) HK2.out.s rfl; have x0 := cellOf (o := 0) HK2.out.x rfl; have x1 := cellOf (o := 1) HK2.out.x rfl; have x2 := cellOf (o := 2) HK2.out.x rfl; have x3 := cellOf (o := 3) HK2.out.x rfl; have x4 := cellOf (o := 4) HK2.out.x rfl; have x5 := cellOf (o := 5) HK2.out.x rfl; have l0 := lt_of_block HK2.out.s; have l1 := lt_of_block HK2.out.x)
          | (go_at_call 28; refine Calls.mono (H4.out _ HK2.out.b) ?_; rintro e v4 ⟨rfl, hb4⟩; have HK4 := Lib.hid (HK2.out.next hb4); clear hb4; clear s0 s1 s2 x0 x1 x2 x3 x4 x5 l0 l1; have s0 := cellOf (o := 0) HK4.out.s rfl; have s1 := cellOf (o := 1) HK4.out.s rfl; have s2 := cellOf (o := 2) HK4.out.s rfl; have x0 := cellOf (o := 0) HK4.out.x rfl; have x1 := cellOf (o := 1) HK4.out.x rfl; have x2 := cellOf (o := 2) HK4.out.x rfl; have x3 := cellOf (o := 3) HK4.out.x rfl; have x4 := cellOf (o := 4) HK4.out.x rfl; have x5 := cellOf (o := 5) HK4.out.x rfl; have l0 := lt_of_block HK4.out.s; have l1 := lt_of_block HK4.out.x))
        go_upto_region 21 with (first
          | (go_at_call 28; refine Calls.mono (H5.out _ HK4.out.b) ?_; rintro e v5 ⟨rfl, hb5⟩; have HK5 := Lib.hid (HK4.out.next hb5); clear hb5; clear s0 s1 s2 x0 x1 x2 x3 x4 x5 l0 l1; have s0 := cellOf (o := 0) HK5.out.s rfl; have s1 := cellOf (o := 1) HK5.out.s rfl; have s2 := cellOf (o := 2) HK5.out.s rfl; have x0 := cellOf (o := 0) HK5.out.x rfl; have x1 := cellOf (o := 1) HK5.out.x rfl; have x2 := cellOf (o := 2) HK5.out.x rfl; have x3 := cellOf (o := 3) HK5.out.x rfl; have x4 := cellOf (o := 4) HK5.out.x rfl; have x5 := cellOf (o := 5) HK5.out.x rfl; have l0 := lt_of_block HK5.out.s; have l1 := lt_of_block HK5.out.x))
        have hl0 : 0 < n := by have := HN2.out; omega
        have hl1 : 1 < n := by have := HN2.out; omega
        have hl1i : (1 : Int) < (n : Int) := by omega
        have hl0i : (0 : Int) < (n : Int) := by omega
        have r0 := HK5.out.b.cell (p := ⟨bb, off, none⟩) hbb |>.trans p0
        have r1 := HK5.out.b.cell (p := ⟨bb, off + 1, none⟩) hbb |>.trans p1
        have r2 := HK5.out.b.cell (p := ⟨bb, off + 2, none⟩) hbb |>.trans p2
        have r3 := HK5.out.b.cell (p := ⟨bb, off + 2 + 1, none⟩) hbb |>.trans p3
        have lb : bb < v5.heap.size := World.block_lt_of_cell? _ _ r0
        clear p0 p1 p2 p3 hbb
        obtain ⟨Qa, hQa⟩ : ∃ q9 : Nat → Value → World → Prop, q9 = QG [some (.pointer (some ⟨w.heap.size + 1, 0, none⟩)), some (.slice (some ⟨bb, off, none⟩) n c), some (.pointer (some ⟨bb, off, none⟩)), some (.agg #[.int .i64 a1, .int .i64 a2]), some (.agg #[.int .i64 z1, .int .i64 a2]), some (.pointer (some ⟨w.heap.size + 1, 0, none⟩)), some (.slice (some ⟨bb, off, none⟩) n c), some (.pointer (some ⟨bb, off + 2, none⟩)), some (.agg #[.int .i64 c1, .int .i64 c2]), some (.agg #[.int .i64 z2, .int .i64 c2]), none, none] (fun j0' v0' w0' => (j0' = 10 → QC [(z1, a2), (z2, c2)] v0' w0') ∧ (j0' = 11 → QC [(z1, a2), (z2, c2)] v0' w0')) := ⟨_, rfl⟩
        have hst : Stays Qa := by rw [hQa]; exact QG.stays (fun j v W W' h hb => ⟨fun e => (h.1 e).stay hb, fun e => (h.2 e).stay hb⟩)
        have Ua10 := Lib.hid (show ∀ v0' w0', Qa 10 v0' w0' ↔ QC [(z1, a2), (z2, c2)] v0' w0' from fun v0' w0' => by rw [hQa]; exact ⟨fun h => h.1 rfl, fun h => ⟨fun _ => h, fun e => absurd e (by decide)⟩⟩)
        have Ua11 := Lib.hid (show ∀ v0' w0', Qa 11 v0' w0' ↔ QC [(z1, a2), (z2, c2)] v0' w0' from fun v0' w0' => by rw [hQa]; exact ⟨fun h => h.2 rfl, fun h => ⟨fun e => absurd e (by decide), fun _ => h⟩⟩)
        have HQa := Lib.hid hQa
        clear hQa
        refine wpIn_wide.1 (region_inv2 (n := 9) (by kernel_rfl) (RQ Qa v5) (by kernel_rfl) rfl (RQ.start _ _ _) ?hstepa ?henda)
        case hstepa =>
          intro i' o ho val L b' x hF hR hpre hl
          match i', ho with
          | 0, ho =>
            simp at ho; subst ho; refine step_plain rfl ?_; have e3 := hF.was 3 (by kernel_rfl) rfl; have hgoal := hR.go hst HQa 0 rfl; clear hF hpre hl hR; go_simp; exact ⟨_, rfl, hgoal _ _ (Below.refl _ _) rfl⟩
          | 1, ho =>
            simp at ho; subst ho; refine step_plain rfl ?_; have e120 := hF.gv hR.2 HQa 0 rfl (hpre ⟨0, .data⟩ (by simp) rfl) rfl; have hgoal := hR.go hst HQa 1 rfl; have q0 := cell_keep hR.1 x0; clear hF hpre hl hR; go_simp; exact ⟨_, rfl, hgoal _ _ (Below.refl _ _) rfl⟩
          | 2, ho =>
            simp at ho; subst ho; refine step_plain rfl ?_; have e121 := hF.gv hR.2 HQa 1 rfl (hpre ⟨1, .data⟩ (by simp) rfl) rfl; have hgoal := hR.go hst HQa 2 rfl; clear hF hpre hl hR; go_simp; exact ⟨_, rfl, hgoal _ _ (Below.refl _ _) rfl⟩
          | 3, ho =>
            simp at ho; subst ho; refine step_plain rfl ?_; have e122 := hF.gv hR.2 HQa 2 rfl (hpre ⟨2, .data⟩ (by simp) rfl) rfl; have hgoal := hR.go hst HQa 3 rfl; have q0 := cell_keep hR.1 r0; have q1 := cell_keep hR.1 r1; clear hF hpre hl hR; go_simp; exact ⟨_, rfl, hgoal _ _ (Below.refl _ _) rfl⟩
          | 4, ho =>
            simp at ho; subst ho; refine step_plain rfl ?_; have e123 := hF.gv hR.2 HQa 3 rfl (hpre ⟨3, .data⟩ (by simp) rfl) rfl; have hgoal := hR.go hst HQa 4 rfl
            have hM := Lib.hid hR.1
            clear hF hpre hl hR; go_simp
            refine ⟨trivial, ?_⟩
            refine CallsIn.mono (callsIn_wide.2 (HH1.out _)) ?_
            rintro e w9 ⟨rfl, hb9⟩
            exact ⟨_, rfl, hgoal _ _ hb9 rfl⟩
          | 5, ho =>
            simp at ho; subst ho; refine step_plain rfl ?_; have e3 := hF.was 3 (by kernel_rfl) rfl; have hgoal := hR.go hst HQa 5 rfl; clear hF hpre hl hR; go_simp; exact ⟨_, rfl, hgoal _ _ (Below.refl _ _) rfl⟩
          | 6, ho =>
            simp at ho; subst ho; refine step_plain rfl ?_; have e125 := hF.gv hR.2 HQa 5 rfl (hpre ⟨5, .data⟩ (by simp) rfl) rfl; have hgoal := hR.go hst HQa 6 rfl; have q0 := cell_keep hR.1 x0; clear hF hpre hl hR; go_simp; exact ⟨_, rfl, hgoal _ _ (Below.refl _ _) rfl⟩
          | 7, ho =>
            simp at ho; subst ho; refine step_plain rfl ?_; have e126 := hF.gv hR.2 HQa 6 rfl (hpre ⟨6, .data⟩ (by simp) rfl) rfl; have hgoal := hR.go hst HQa 7 rfl; clear hF hpre hl hR; go_simp; exact ⟨_, rfl, hgoal _ _ (Below.refl _ _) rfl⟩
          | 8, ho =>
            simp at ho; subst ho; refine step_plain rfl ?_; have e127 := hF.gv hR.2 HQa 7 rfl (hpre ⟨7, .data⟩ (by simp) rfl) rfl; have hgoal := hR.go hst HQa 8 rfl; have q0 := cell_keep hR.1 r2; have q1 := cell_keep hR.1 r3; clear hF hpre hl hR; go_simp; exact ⟨_, rfl, hgoal _ _ (Below.refl _ _) rfl⟩
          | 9, ho =>
            simp at ho; subst ho; refine step_plain rfl ?_; have e128 := hF.gv hR.2 HQa 8 rfl (hpre ⟨8, .data⟩ (by simp) rfl) rfl; have hgoal := hR.go hst HQa 9 rfl
            have hM := Lib.hid hR.1
            clear hF hpre hl hR; go_simp
            refine ⟨trivial, ?_⟩
            refine CallsIn.mono (callsIn_wide.2 (HH2.out _)) ?_
            rintro e w9 ⟨rfl, hb9⟩
            exact ⟨_, rfl, hgoal _ _ hb9 rfl⟩
          | 10, ho =>
            simp at ho; subst ho; refine step_plain rfl ?_; have e124 := hF.gv hR.2 HQa 4 rfl (hpre ⟨4, .data⟩ (by simp) rfl) rfl; have e129 := hF.gv hR.2 HQa 9 rfl (hpre ⟨9, .data⟩ (by simp) rfl) rfl
            have hgoal : ∀ v0' w0', Below x.heap.size x w0' → QC [(z1, a2), (z2, c2)] v0' w0' → RQ Qa v5 (upd val 10 v0') (L.setIfInBounds 10 true) w0' := fun v0' w0' hb hq => hR.step hst hb ((Ua10.out _ _).2 hq)
            have hM := Lib.hid hR.1
            clear hF hpre hl hR; go_simp; exact ⟨_, rfl, hgoal _ _ ((Below.refl _ _).alloc (Nat.le_refl _) _) ⟨_, _, rfl, (RS.new2 rfl).more (by simp)⟩⟩
          | 11, ho =>
            simp at ho; subst ho; refine step_plain rfl ?_; have e130 := hF.gave 10 rfl (hpre ⟨10, .data⟩ (by simp) rfl) rfl
            have v10 := (Ua10.out _ _).1 (hR.2 10 (hpre ⟨10, .data⟩ (by simp) rfl))
            have hgoal : ∀ v0' w0', Below x.heap.size x w0' → QC [(z1, a2), (z2, c2)] v0' w0' → RQ Qa v5 (upd val 11 v0') (L.setIfInBounds 11 true) w0' := fun v0' w0' hb hq => hR.step hst hb ((Ua11.out _ _).2 hq)
            have hM := Lib.hid hR.1
            clear hF hpre hl hR; go_simp; exact ⟨_, rfl, hgoal _ _ (Below.refl _ _) v10⟩
          | i + 12, ho => simp at ho
        case henda =>
          intro val L b' x hF hall hR
          have e := hF.all (by kernel_rfl) hall
          have ka11 := (Ua11.out _ _).1 (hR.2 11 (hall 11 (by decide)))
          have hBa := Lib.hid hR.1
          clear hF hall hR hst HQa Ua10 Ua11
          subst e
          simp [final, dstOf, List.range, List.range.loop]
          obtain ⟨A9, c9, h9, hr9⟩ := ka11
          have h9' : _ = Value.slice A9 2 c9 := h9
          rw [h9']
          have HR9 := Lib.hid hr9
          have HK6 := Lib.hid (HK5.out.next hBa.out)
          clear s0 s1 s2 x0 x1 x2 x3 x4 x5 l0 l1 r0 r1 r2 r3 lb hr9 h9 h9' hl0 hl1 hl0i hl1i hBa
          have s0 := cellOf (o := 0) HK6.out.s rfl
          have s1 := cellOf (o := 1) HK6.out.s rfl
          have s2 := cellOf (o := 2) HK6.out.s rfl
          have x0 := cellOf (o := 0) HK6.out.x rfl
          have x1 := cellOf (o := 1) HK6.out.x rfl
          have x2 := cellOf (o := 2) HK6.out.x rfl
          have x3 := cellOf (o := 3) HK6.out.x rfl
          have x4 := cellOf (o := 4) HK6.out.x rfl
          have x5 := cellOf (o := 5) HK6.out.x rfl
          have l0 := lt_of_block HK6.out.s
          have l1 := lt_of_block HK6.out.x
          generalize val 0 = y0, val 1 = y1, val 2 = y2, val 3 = y3, val 4 = y4, val 5 = y5, val 6 = y6, val 7 = y7, val 8 = y8, val 9 = y9, val 10 = y10
          go_upto_region 22 with (fail)
          obtain ⟨Qb, hQb⟩ : ∃ q9 : Nat → Value → World → Prop, q9 = QG [some (.agg #[.int .i64 N, .int .i64 D, .int .i64 d]), some (.slice A9 2 c9), some (.pointer (some ⟨w.heap.size + 1, 1, none⟩)), some (.agg #[.int .i64 gl, .int .i64 gh]), some (.agg #[.int .i64 z3, .int .i64 gh]), some (.pointer (some ⟨w.heap.size + 1, 5, none⟩)), some (.int .i64 m), some (.pointer (some ⟨w.heap.size + 1, 3, none⟩)), some (.agg #[.int .i64 lo, .int .i64 hi]), some (.tuple #[.int .i64 fu, .bool fj, .int .i64 0]), some (.tuple #[.int .i64 fu, .bool fj, .int .i64 0]), some (.int .i64 fu), some (.bool fj), some (.int .i64 0), some (.int .i64 fu), some (.bool fj), some (.int .i64 0)] (fun _ _ _ => True) := ⟨_, rfl⟩
          have hst : Stays Qb := by rw [hQb]; exact QG.stays (fun _ _ _ _ _ _ => trivial)
          have HQb := Lib.hid hQb
          clear hQb
          refine wpIn_wide.1 (region_inv2 (n := 9) (by kernel_rfl) (RQ Qb x) (by kernel_rfl) rfl (RQ.start _ _ _) ?hstepb ?hendb)
          case hstepb =>
            intro i' o ho val L b' xx hF hR hpre hl
            match i', ho with
            | 0, ho =>
              simp at ho; subst ho; refine step_plain rfl ?_; have e2 := hF.was 2 (by kernel_rfl) rfl; have hgoal := hR.go hst HQb 0 rfl; have q0 := cell_keep hR.1 s0; have q1 := cell_keep hR.1 s1; have q2 := cell_keep hR.1 s2; clear hF hpre hl hR; go_simp; exact ⟨_, rfl, hgoal _ _ (Below.refl _ _) rfl⟩
            | 1, ho =>
              simp at ho; subst ho; refine step_plain rfl ?_; have e16 := hF.was 16 (by kernel_rfl) rfl; have hgoal := hR.go hst HQb 1 rfl; clear hF hpre hl hR; go_simp; exact ⟨_, rfl, hgoal _ _ (Below.refl _ _) rfl⟩
            | 2, ho =>
              simp at ho; subst ho; refine step_plain rfl ?_; have e3 := hF.was 3 (by kernel_rfl) rfl; have hgoal := hR.go hst HQb 2 rfl; clear hF hpre hl hR; go_simp; exact ⟨_, rfl, hgoal _ _ (Below.refl _ _) rfl⟩
            | 3, ho =>
              simp at ho; subst ho; refine step_plain rfl ?_; have e134 := hF.gv hR.2 HQb 2 rfl (hpre ⟨2, .data⟩ (by simp) rfl) rfl; have hgoal := hR.go hst HQb 3 rfl; have q0 := cell_keep hR.1 x1; have q1 := cell_keep hR.1 x2; clear hF hpre hl hR; go_simp; exact ⟨_, rfl, hgoal _ _ (Below.refl _ _) rfl⟩
            | 4, ho =>
              simp at ho; subst ho; refine step_plain rfl ?_; have e135 := hF.gv hR.2 HQb 3 rfl (hpre ⟨3, .data⟩ (by simp) rfl) rfl; have hgoal := hR.go hst HQb 4 rfl
              have hM := Lib.hid hR.1
              clear hF hpre hl hR; go_simp
              refine ⟨trivial, ?_⟩
              refine CallsIn.mono (callsIn_wide.2 (HH3.out _)) ?_
              rintro e w9 ⟨rfl, hb9⟩
              exact ⟨_, rfl, hgoal _ _ hb9 rfl⟩
            | 5, ho =>
              simp at ho; subst ho; refine step_plain rfl ?_; have e3 := hF.was 3 (by kernel_rfl) rfl; have hgoal := hR.go hst HQb 5 rfl; clear hF hpre hl hR; go_simp; exact ⟨_, rfl, hgoal _ _ (Below.refl _ _) rfl⟩
            | 6, ho =>
              simp at ho; subst ho; refine step_plain rfl ?_; have e137 := hF.gv hR.2 HQb 5 rfl (hpre ⟨5, .data⟩ (by simp) rfl) rfl; have hgoal := hR.go hst HQb 6 rfl; have q0 := cell_keep hR.1 x5; clear hF hpre hl hR; go_simp; exact ⟨_, rfl, hgoal _ _ (Below.refl _ _) rfl⟩
            | 7, ho =>
              simp at ho; subst ho; refine step_plain rfl ?_; have e3 := hF.was 3 (by kernel_rfl) rfl; have hgoal := hR.go hst HQb 7 rfl; clear hF hpre hl hR; go_simp; exact ⟨_, rfl, hgoal _ _ (Below.refl _ _) rfl⟩
            | 8, ho =>
              simp at ho; subst ho; refine step_plain rfl ?_; have e139 := hF.gv hR.2 HQb 7 rfl (hpre ⟨7, .data⟩ (by simp) rfl) rfl; have hgoal := hR.go hst HQb 8 rfl; have q0 := cell_keep hR.1 x3; have q1 := cell_keep hR.1 x4; clear hF hpre hl hR; go_simp; exact ⟨_, rfl, hgoal _ _ (Below.refl _ _) rfl⟩
            | 9, ho =>
              simp at ho; subst ho; refine step_plain rfl ?_; have e132 := hF.gv hR.2 HQb 0 rfl (hpre ⟨0, .data⟩ (by simp) rfl) rfl; have e133 := hF.gv hR.2 HQb 1 rfl (hpre ⟨1, .data⟩ (by simp) rfl) rfl; have e136 := hF.gv hR.2 HQb 4 rfl (hpre ⟨4, .data⟩ (by simp) rfl) rfl; have e138 := hF.gv hR.2 HQb 6 rfl (hpre ⟨6, .data⟩ (by simp) rfl) rfl; have e140 := hF.gv hR.2 HQb 8 rfl (hpre ⟨8, .data⟩ (by simp) rfl) rfl; have hgoal := hR.go hst HQb 9 rfl
              have hM := Lib.hid hR.1
              clear hF hpre hl hR; go_simp
              refine ⟨trivial, ?_⟩
              refine CallsIn.mono (callsIn_wide.2 (H6.out A9 c9 _ ((HR9.out.below hM.out).more hM.out.size))) ?_
              rintro e w9 ⟨rfl, hb9⟩
              exact ⟨_, rfl, hgoal _ _ hb9 rfl⟩
            | 10, ho =>
              simp at ho; subst ho; refine step_plain rfl ?_; have e141 := hF.gv hR.2 HQb 9 rfl (hpre ⟨9, .data⟩ (by simp) rfl) rfl; have hgoal := hR.go hst HQb 10 rfl; clear hF hpre hl hR; go_simp; exact ⟨_, rfl, hgoal _ _ (Below.refl _ _) rfl⟩
            | 11, ho =>
              simp at ho; subst ho; refine step_plain rfl ?_; have e131 := hF.gv hR.2 HQb 10 rfl (hpre ⟨10, .data⟩ (by simp) rfl) rfl; have hgoal := hR.go hst HQb 11 rfl; clear hF hpre hl hR; go_simp; exact ⟨_, rfl, hgoal _ _ (Below.refl _ _) rfl⟩
            | 12, ho =>
              simp at ho; subst ho; refine step_plain rfl ?_; have e131 := hF.gv hR.2 HQb 10 rfl (hpre ⟨10, .data⟩ (by simp) rfl) rfl; have hgoal := hR.go hst HQb 12 rfl; clear hF hpre hl hR; go_simp; exact ⟨_, rfl, hgoal _ _ (Below.refl _ _) rfl⟩
            | 13, ho =>
              simp at ho; subst ho; refine step_plain rfl ?_; have e131 := hF.gv hR.2 HQb 10 rfl (hpre ⟨10, .data⟩ (by simp) rfl) rfl; have hgoal := hR.go hst HQb 13 rfl; clear hF hpre hl hR; go_simp; exact ⟨_, rfl, hgoal _ _ (Below.refl _ _) rfl⟩
            | 14, ho =>
              simp at ho; subst ho; refine step_plain rfl ?_; have e142 := hF.gv hR.2 HQb 11 rfl (hpre ⟨11, .data⟩ (by simp) rfl) rfl; have hgoal := hR.go hst HQb 14 rfl; clear hF hpre hl hR; go_simp; exact ⟨_, rfl, hgoal _ _ (Below.refl _ _) rfl⟩
            | 15, ho =>
              simp at ho; subst ho; refine step_plain rfl ?_; have e143 := hF.gv hR.2 HQb 12 rfl (hpre ⟨12, .data⟩ (by simp) rfl) rfl; have hgoal := hR.go hst HQb 15 rfl; clear hF hpre hl hR; go_simp; exact ⟨_, rfl, hgoal _ _ (Below.refl _ _) rfl⟩
            | 16, ho =>
              simp at ho; subst ho; refine step_plain rfl ?_; have e144 := hF.gv hR.2 HQb 13 rfl (hpre ⟨13, .data⟩ (by simp) rfl) rfl; have hgoal := hR.go hst HQb 16 rfl; clear hF hpre hl hR; go_simp; exact ⟨_, rfl, hgoal _ _ (Below.refl _ _) rfl⟩
            | i + 17, ho => simp at ho
          case hendb =>
            intro val L b' xx hF hall hR
            have e := hF.all (by kernel_rfl) hall
            have kb14 := QG.val HQb rfl (hR.2 14 (hall 14 (by decide)))
            have kb15 := QG.val HQb rfl (hR.2 15 (hall 15 (by decide)))
            have kb16 := QG.val HQb rfl (hR.2 16 (hall 16 (by decide)))
            have hBb := Lib.hid hR.1
            clear hF hall hR hst HQb 
            subst e
            simp [final, dstOf, List.range, List.range.loop]
            rw [kb14]
            rw [kb15]
            rw [kb16]
            have HB7 := Lib.hid (HK6.out.next hBb.out).b
            clear s0 s1 s2 x0 x1 x2 x3 x4 x5 l0 l1
            rcases HFF.out with rfl | ⟨rfl, rfl⟩
            · go_wp2_with (go_at_call 22; refine Calls.mono (HWK.out _) ?_; rintro e v9 ⟨rfl, hb9⟩; have HX9 := Lib.hid (HB7.out.trans (hb9.mono HB7.out.size)); clear hb9)
              go_ret
              exact ⟨rfl, HX9.out⟩
            · go_wp2_with (go_at_call 22; refine Calls.mono (HWK.out _) ?_; rintro e v9 ⟨rfl, hb9⟩; have HX9 := Lib.hid (HB7.out.trans (hb9.mono HB7.out.size)); clear hb9)
              go_ret
              exact ⟨rfl, HX9.out⟩
    · have hgu : guN N D d b m lo hi = (0, alE N D d b 0 0 m [(lo, hi)]) := by unfold guN; rw [if_neg hg]
      rw [hgu] at HGU
      have h70 : alE N D d b 0 0 m [(lo, hi)] = 70 ∨ alE N D d b 0 0 m [(lo, hi)] = 10 ∨ alE N D d b 0 0 m [(lo, hi)] = 1 := by exact alE_or hg
      generalize alE N D d b 0 0 m [(lo, hi)] = E at *
      have hE0 : (E != 0) = true := by rw [bne_iff_ne]; omega
      have hE3 : (E != 3) = true := by rw [bne_iff_ne]; omega
      simp only at HGU
      clear wk hz hg hgu h70 hr hl
      go_enter Try.func11, Try.ntmps11
      go_upto_region 1 with (fail)
      generalize World.alloc _ _ = w1 at *
      have s0 := cellOf (o := 0) HK0.out.s rfl
      have s1 := cellOf (o := 1) HK0.out.s rfl
      have s2 := cellOf (o := 2) HK0.out.s rfl
      have x0 := cellOf (o := 0) HK0.out.x rfl
      have x1 := cellOf (o := 1) HK0.out.x rfl
      have x2 := cellOf (o := 2) HK0.out.x rfl
      have x3 := cellOf (o := 3) HK0.out.x rfl
      have x4 := cellOf (o := 4) HK0.out.x rfl
      have x5 := cellOf (o := 5) HK0.out.x rfl
      have l0 := lt_of_block HK0.out.s
      have l1 := lt_of_block HK0.out.x
      go_wp2_with (first
        | (go_at_call 40; refine Calls.mono (HCS.out _ HK0.out.b) ?_; rintro e v1 ⟨rfl, hb1⟩; have HK1 := Lib.hid (HK0.out.next hb1); clear hb1; clear s0 s1 s2 x0 x1 x2 x3 x4 x5 l0 l1; have s0 := cellOf (o := 0) HK1.out.s rfl; have s1 := cellOf (o := 1) HK1.out.s rfl; have s2 := cellOf (o := 2) HK1.out.s rfl; have x0 := cellOf (o := 0) HK1.out.x rfl; have x1 := cellOf (o := 1) HK1.out.x rfl; have x2 := cellOf (o := 2) HK1.out.x rfl; have x3 := cellOf (o := 3) HK1.out.x rfl; have x4 := cellOf (o := 4) HK1.out.x rfl; have x5 := cellOf (o := 5) HK1.out.x rfl; have l0 := lt_of_block HK1.out.s; have l1 := lt_of_block HK1.out.x)
        | (go_at_call 30; refine Calls.mono (HGU.out _ HK1.out.b) ?_; rintro e v2 ⟨rfl, hb2⟩; have HK2 := Lib.hid (HK1.out.next hb2); clear hb2; clear s0 s1 s2 x0 x1 x2 x3 x4 x5 l0 l1; have s0 := cellOf (o := 0) HK2.out.s rfl; have s1 := cellOf (o := 1) HK2.out.s rfl; have s2 := cellOf (o := 2) HK2.out.s rfl; have x0 := cellOf (o := 0) HK2.out.x rfl; have x1 := cellOf (o := 1) HK2.out.x rfl; have x2 := cellOf (o := 2) HK2.out.x rfl; have x3 := cellOf (o := 3) HK2.out.x rfl; have x4 := cellOf (o := 4) HK2.out.x rfl; have x5 := cellOf (o := 5) HK2.out.x rfl; have l0 := lt_of_block HK2.out.s; have l1 := lt_of_block HK2.out.x)
        | (go_at_call 22; refine Calls.mono (HWK.out _) ?_; rintro e v9 ⟨rfl, hb9⟩; have HX9 := Lib.hid (HK2.out.b.trans (hb9.mono HK2.out.b.size)); clear hb9))
      go_ret
      exact ⟨rfl, HX9.out⟩
  · have hE0 : (alE N D d b gl gh m [] != 0) = true := by rw [bne_iff_ne]; exact hz
    generalize alE N D d b gl gh m [] = E at *
    clear wk hz hr hl
    go_enter Try.func11, Try.ntmps11
    go_upto_region 1 with (fail)
    generalize World.alloc _ _ = w1 at *
    have s0 := cellOf (o := 0) HK0.out.s rfl
    have s1 := cellOf (o := 1) HK0.out.s rfl
    have s2 := cellOf (o := 2) HK0.out.s rfl
    have x0 := cellOf (o := 0) HK0.out.x rfl
    have x1 := cellOf (o := 1) HK0.out.x rfl
    have x2 := cellOf (o := 2) HK0.out.x rfl
    have x3 := cellOf (o := 3) HK0.out.x rfl
    have x4 := cellOf (o := 4) HK0.out.x rfl
    have x5 := cellOf (o := 5) HK0.out.x rfl
    have l0 := lt_of_block HK0.out.s
    have l1 := lt_of_block HK0.out.x
    go_wp2_with (first
      | (go_at_call 40; refine Calls.mono (HCS.out _ HK0.out.b) ?_; rintro e v1 ⟨rfl, hb1⟩; have HK1 := Lib.hid (HK0.out.next hb1); clear hb1; clear s0 s1 s2 x0 x1 x2 x3 x4 x5 l0 l1; have s0 := cellOf (o := 0) HK1.out.s rfl; have s1 := cellOf (o := 1) HK1.out.s rfl; have s2 := cellOf (o := 2) HK1.out.s rfl; have x0 := cellOf (o := 0) HK1.out.x rfl; have x1 := cellOf (o := 1) HK1.out.x rfl; have x2 := cellOf (o := 2) HK1.out.x rfl; have x3 := cellOf (o := 3) HK1.out.x rfl; have x4 := cellOf (o := 4) HK1.out.x rfl; have x5 := cellOf (o := 5) HK1.out.x rfl; have l0 := lt_of_block HK1.out.s; have l1 := lt_of_block HK1.out.x)
      | (go_at_call 22; refine Calls.mono (HWK.out _) ?_; rintro e v9 ⟨rfl, hb9⟩; have HX9 := Lib.hid (HK1.out.b.trans (hb9.mono HK1.out.b.size)); clear hb9))
    go_ret
    exact ⟨rfl, HX9.out⟩
end Go.Proofs.Ytnnmmojlgikdgaa

/- swashplatelaw07.SlingGust returns true at every input, and the input reads as it did: no condition. -/
namespace Go.Proofs.Ytnnmmojlgikdgaa
open Go.RowKit Go.WideShapes Go.ChangeShapes Go.ChangeAt Go.Joins

set_option maxRecDepth 100000 in
theorem gust_lifted (os : Os) (started : os.Started) (H : Type) (enc : TypeId × Value → H) :
    ReturnsInHanded {} Try.checked os 11 .any (Rows.slingGustSpec.pre6 enc Try.prog Try.f11 Rows.slingGustRow.domain false) (Rows.slingGustSpec.post enc Try.prog Try.f11 false true false false) := by
  refine returnsInHanded_of_change (C := Try.checked) own started (by kernel_rfl) Try.func11
    (ChangeSpec.witness6 (enc := enc) (C := Try.checked) false ⟨#[], #[.agg #[.int .i64 0, .int .i64 0, .int .i64 0], .agg #[.slice none 0 0, .int .i64 0, .int .i64 0, .int .i64 0, .int .i64 0, .int .i64 0]], []⟩ 8 (by kernel_rfl) (by kernel_rfl) (by kernel_rfl) (by kernel_rfl)) ?_
  intro W base args ds gs before hval0 hW hcnd _
  have hval : ∀ (j : Nat) t v, Try.f11.params[j]? = some t → args[j]? = some v → Value.okWide Try.prog W .any base t v := hval0
  have hW' := hW
  obtain ⟨p, q, hA0, hV, rfl, hfz, hnd⟩ := hW
  have hA : DataW.TrodAll enc Try.prog W 0 (fun _ => true) true Try.f11.params.toList args.toList ds p := hA0
  rw [Try.params11] at hA hval
  obtain ⟨v0, v1, d0, d1, p0, p1, rfl, rfl, rfl, h0, h1⟩ := trodAll_two hA
  obtain ⟨rfl, rfl⟩ := trodVars_none hV
  obtain ⟨a0, b0, c0, rfl⟩ := sling_open (hval 0 23 v0 rfl rfl) h0
  obtain ⟨A1, n1, c1, g1, k1, lo1, hi1, m1, l1, rfl, hl1, hn1, hr1⟩ := sets_open (hval 1 43 v1 rfl rfl) h1
  clear hA0 hval0
  simp only [List.append_nil] at hW'
  have hlt : ∀ x ∈ p0 ++ p1, x.block < W.heap.size := fun x hx => hW'.lt x hx
  refine (law_gust works7_any W a0 b0 c0 A1 n1 c1 g1 k1 lo1 hi1 m1 l1 hl1 hn1 hr1).mono fun e W' ⟨he, hb⟩ => ?_
  subst he
  exact ⟨_, rfl, law_post hW' (by kernel_rfl) Try.underlying4 rfl rfl (fun sp hsp => trodAll_mk2 (again (by kernel_rfl) (of_decide_eq_true (by kernel_rfl)) h0 hb (fun x hx => hlt x (List.mem_append_left _ hx)) (fun x hx => hsp x (List.mem_append_left _ hx))) (again (by kernel_rfl) (of_decide_eq_true (by kernel_rfl)) h1 hb (fun x hx => hlt x (List.mem_append_right _ hx)) (fun x hx => hsp x (List.mem_append_right _ hx)))) hb⟩

theorem gust_holds : Rows.SlingGustSaid :=
  OpenClaim.holds_of_wide 11 Try.f11 rfl rfl rfl rfl rfl rfl rfl ⟨rfl, rfl, rfl, rfl, rfl⟩ rfl rfl rfl rfl rfl (by kernel_rfl) Try.func11 (by kernel_rfl)
    (of_decide_eq_true (by kernel_rfl)) (by unfold Func.isWrapper; first | (rw [if_pos (by decide +kernel)]; kernel_rfl) | (rw [if_neg (by decide +kernel)]; exact ⟨rfl, rfl⟩))
    (fun os started H enc _ => gust_lifted os started H enc)
#print axioms gust_holds

end Go.Proofs.Ytnnmmojlgikdgaa

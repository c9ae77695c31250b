/- Comparing fractions, of both sides. -/
import Derived.Test.YtjdahphnmeaolaaAtS
import Derived.Test.YtjdahphnmeaolaaGuard
namespace Go.Proofs.Ytjdahphnmeaolaa
open Go.RowKit

/-- n / d is less than m / f. -/
def ltF (n d m f : Int) : Bool := if fl n d = fl m f then decide ((n - fl n d * d) * f < (m - fl m f * f) * d) else decide (fl n d < fl m f)
structure Gd (n d : Int) : Prop where
  d1 : 1 ≤ d
  d2 : d ≤ 100000000
  n1 : -1000001 * d ≤ n
  n2 : n ≤ 1000000 * d
theorem fl_rem {n d : Int} (h : 1 ≤ d) : 0 ≤ n - fl n d * d ∧ n - fl n d * d < d := by
  unfold fl
  have h1 := Int.mul_ediv_add_emod n d
  have h2 := Int.emod_nonneg n (show d ≠ 0 by omega)
  have h3 := Int.emod_lt_of_pos n (show 0 < d by omega)
  have e : n / d * d = d * (n / d) := Int.mul_comm _ _
  omega
theorem Gd.fl {n d : Int} (h : Gd n d) : -1000001 ≤ fl n d ∧ fl n d ≤ 1000000 ∧ -100000200000000 ≤ fl n d * d ∧ fl n d * d ≤ 100000000000000 := by
  obtain ⟨d1, d2, n1, n2⟩ := h
  have h1 : -1000001 ≤ Go.Proofs.Ytjdahphnmeaolaa.fl n d := by unfold Go.Proofs.Ytjdahphnmeaolaa.fl; exact (Int.le_ediv_iff_mul_le (by omega)).2 n1
  have h2 : Go.Proofs.Ytjdahphnmeaolaa.fl n d ≤ 1000000 := by unfold Go.Proofs.Ytjdahphnmeaolaa.fl; exact Int.ediv_le_of_le_mul (by omega) n2
  have hr := fl_rem (n := n) d1
  exact ⟨h1, h2, by omega, by omega⟩

theorem isNaN_any (a : Int) (w : World) : Calls Try.prog 114 #[.int .i64 a] w fun e w' => e = .returned (.bool false) ∧ w = w' := by
  have h : (a != a) = false := by rw [bne_eq_false_iff_eq]
  go_enter Try.func114, Try.ntmps114
  go_wp2
  go_ret
  exact ⟨rfl, rfl⟩
def cmpI (a b : Int) : Int := if a < b then -1 else if b < a then 1 else 0
theorem cmp_any (a b : Int) (w : World) : Calls Try.prog 107 #[.int .i64 a, .int .i64 b] w fun e w' => e = .returned (.int .i64 (cmpI a b)) ∧ w = w' := by
  unfold cmpI
  by_cases h1 : a < b
  · rw [if_pos h1]
    go_enter Try.func107, Try.ntmps107
    go_wp2_with (go_at_call 114; refine Calls.mono (isNaN_any _ _) ?_; rintro e w9 ⟨rfl, rfl⟩)
    go_ret
    exact ⟨rfl, rfl⟩
  · rw [if_neg h1]
    by_cases h2 : b < a
    · rw [if_pos h2]
      go_enter Try.func107, Try.ntmps107
      go_wp2_with (go_at_call 114; refine Calls.mono (isNaN_any _ _) ?_; rintro e w9 ⟨rfl, rfl⟩)
      go_ret
      exact ⟨rfl, rfl⟩
    · rw [if_neg h2]
      go_enter Try.func107, Try.ntmps107
      go_wp2_with (go_at_call 114; refine Calls.mono (isNaN_any _ _) ?_; rintro e w9 ⟨rfl, rfl⟩)
      go_ret
      exact ⟨rfl, rfl⟩
theorem cmpI_pos (a b : Int) : decide (0 < cmpI a b) = decide (b < a) := by
  unfold cmpI
  split
  · simp; omega
  · split
    · simp; omega
    · simp; omega

set_option maxRecDepth 100000 in
theorem less_any (n d m f : Int) (w : World) (h : Gd n d) (k : Gd m f) : Calls Try.prog 100 #[.int .i64 n, .int .i64 d, .int .i64 m, .int .i64 f] w fun e w' => e = .returned (.bool (ltF n d m f)) ∧ w = w' := by
  obtain ⟨f1, f2, f3, f4⟩ := h.fl
  obtain ⟨g1, g2, g3, g4⟩ := k.fl
  obtain ⟨r1, r2⟩ := fl_rem (n := n) h.d1
  obtain ⟨s1, s2⟩ := fl_rem (n := m) k.d1
  obtain ⟨d1, d2, n1, n2⟩ := h
  obtain ⟨d3, d4, n3, n4⟩ := k
  have HF := Lib.hid (fun W : World => rfloor_wide n d W (by omega) (by omega) (by omega) (by omega))
  have HG := Lib.hid (fun W : World => rfloor_wide m f W (by omega) (by omega) (by omega) (by omega))
  unfold ltF
  generalize hp : fl n d = p at *
  generalize hq : fl m f = q at *
  clear hp hq
  have w1 : IntKind.i64.wrap (p * d) = p * d := IntWalk.i64_in _ (by omega)
  have w2 : IntKind.i64.wrap (q * f) = q * f := IntWalk.i64_in _ (by omega)
  generalize hpd : p * d = pd at *
  generalize hqf : q * f = qf at *
  have w3 : IntKind.i64.wrap (n - pd) = n - pd := IntWalk.i64_in _ (by omega)
  have w4 : IntKind.i64.wrap (m - qf) = m - qf := IntWalk.i64_in _ (by omega)
  generalize hu : n - pd = u at *
  generalize hv : m - qf = v at *
  have m1 := mul_bd (a := u) (u := f) (A := 100000000) (M := 100000000) (by omega) (by omega) (by omega) (by omega) (by omega)
  have m2 := mul_bd (a := v) (u := d) (A := 100000000) (M := 100000000) (by omega) (by omega) (by omega) (by omega) (by omega)
  have w5 : IntKind.i64.wrap (u * f) = u * f := IntWalk.i64_in _ (by omega)
  have w6 : IntKind.i64.wrap (v * d) = v * d := IntWalk.i64_in _ (by omega)
  generalize huf : u * f = uf at *
  generalize hvd : v * d = vd at *
  clear m1 m2
  by_cases hpq : p = q
  · subst hpq
    have hb : (p != p) = false := by rw [bne_eq_false_iff_eq]
    rw [if_pos rfl]
    by_cases hlt : uf < vd
    all_goals
      go_enter Try.func100, Try.ntmps100
      go_wp2_with (first | (go_at_call_of 76 (Value.int .i64 n); refine Calls.mono (HF.out _) ?_; rintro e w9 ⟨rfl, rfl⟩) | (go_at_call_of 76 (Value.int .i64 m); refine Calls.mono (HG.out _) ?_; rintro e w9 ⟨rfl, rfl⟩))
      go_ret
      exact ⟨ret_bool (by simp [hlt] <;> omega), rfl⟩
  · have hb : (p != q) = true := by rw [bne_iff_ne]; exact hpq
    rw [if_neg hpq]
    have HPQ := Lib.hid hpq
    clear hpq
    by_cases hlt : p < q
    all_goals
      go_enter Try.func100, Try.ntmps100
      go_wp2_with (first | (go_at_call_of 76 (Value.int .i64 n); refine Calls.mono (HF.out _) ?_; rintro e w9 ⟨rfl, rfl⟩) | (go_at_call_of 76 (Value.int .i64 m); refine Calls.mono (HG.out _) ?_; rintro e w9 ⟨rfl, rfl⟩))
      go_ret
      exact ⟨ret_bool (by simp [hlt] <;> omega), rfl⟩

def QCm (n : Int) (d : Int) (m : Int) (f : Int) (j : Nat) (v : Value) (_ : World) : Prop :=
  match j with
  | 0 => v = .agg #[.int .i64 n, .int .i64 d]
  | 1 => v = .int .i64 (fl n d)
  | 2 => v = .agg #[.int .i64 m, .int .i64 f]
  | 3 => v = .int .i64 (fl m f)
  | 4 => v = .int .i64 (fl n d)
  | 5 => v = .int .i64 (fl m f)
  | _ => True
theorem QCm_stays (n : Int) (d : Int) (m : Int) (f : Int) : Stays (QCm n d m f) := fun j v W W' h _ => by
  unfold QCm at h ⊢
  split at h <;> exact h

set_option maxRecDepth 100000 in
set_option maxHeartbeats 1000000 in
theorem compare_any (n d m f : Int) (w : World) (h : Gd n d) (k : Gd m f) : Calls Try.prog 98 #[.agg #[.int .i64 n, .int .i64 d], .agg #[.int .i64 m, .int .i64 f]] w fun e w' => (∃ c : Int, e = .returned (.int .i64 c) ∧ decide (0 < c) = ltF m f n d) ∧ Below w.heap.size w w' := by
  obtain ⟨f1, f2, f3, f4⟩ := h.fl
  obtain ⟨g1, g2, g3, g4⟩ := k.fl
  obtain ⟨r1, r2⟩ := fl_rem (n := n) h.d1
  obtain ⟨s1, s2⟩ := fl_rem (n := m) k.d1
  obtain ⟨d1, d2, n1, n2⟩ := h
  obtain ⟨d3, d4, n3, n4⟩ := k
  go_enter Try.func98, Try.ntmps98
  go_upto_region 1 with fail
  generalize hW0 : ((w.alloc _).alloc _) = W0
  have a0 : W0.cell? ⟨w.heap.size, 0, none⟩ = some (.int .i64 n) := by rw [← hW0]; clear hW0; go_simp
  have a1 : W0.cell? ⟨w.heap.size, 1, none⟩ = some (.int .i64 d) := by rw [← hW0]; clear hW0; go_simp
  have b0 : W0.cell? ⟨w.heap.size + 1, 0, none⟩ = some (.int .i64 m) := by rw [← hW0]; clear hW0; go_simp
  have b1 : W0.cell? ⟨w.heap.size + 1, 1, none⟩ = some (.int .i64 f) := by rw [← hW0]; clear hW0; go_simp
  have hb0 : Below w.heap.size w W0 := by rw [← hW0]; clear hW0; go_grown
  have HB0 := Lib.hid hb0
  clear hW0 hb0
  have hst := QCm_stays n d m f
  refine wpIn_wide.1 (region_inv2 (n := 9) (by kernel_rfl) (RQ (QCm n d m f) W0) (by kernel_rfl) rfl (RQ.start _ _ _) ?hstep ?hend)
  case hstep =>
    intro i' o ho val L b' x hF hR hpre hl
    match i', ho with
    | 0, ho =>
      simp at ho
      subst ho
      refine step_plain rfl ?_
      have e2 := hF.was 2 (by kernel_rfl) rfl
      have hgoal : ∀ v W', Below x.heap.size x W' → QCm n d m f 0 v W' → RQ (QCm n d m f) W0 (upd val 0 v) (L.setIfInBounds 0 true) W' := fun v W' hb hq => hR.step hst hb hq
      have q0 := cell_keep hR.1 a0
      have q1 := cell_keep hR.1 a1
      have q2 := cell_keep hR.1 b0
      have q3 := cell_keep hR.1 b1
      clear hF hpre hl hR
      go_simp
      exact ⟨_, rfl, hgoal _ _ (Below.refl _ _) rfl⟩
    | 1, ho =>
      simp at ho
      subst ho
      refine step_plain rfl ?_
      have e7 := hF.gave 0 rfl (hpre ⟨0, .data⟩ (by simp) rfl) rfl
      have v0 := hR.2 0 (hpre ⟨0, .data⟩ (by simp) rfl)
      rw [show val 0 = .agg #[.int .i64 n, .int .i64 d] from v0] at e7
      clear v0
      have hgoal : ∀ v W', Below x.heap.size x W' → QCm n d m f 1 v W' → RQ (QCm n d m f) W0 (upd val 1 v) (L.setIfInBounds 1 true) W' := fun v W' hb hq => hR.step hst hb hq
      have q0 := cell_keep hR.1 a0
      have q1 := cell_keep hR.1 a1
      have q2 := cell_keep hR.1 b0
      have q3 := cell_keep hR.1 b1
      have hM := Lib.hid hR.1
      clear hF hpre hl hR
      go_simp
      refine ⟨trivial, ?_⟩
      refine CallsIn.mono (callsIn_wide.2 (vfloor_any n d _ (by omega) (by omega) (by omega) (by omega))) ?_
      rintro e y9 ⟨rfl, hb9⟩
      exact ⟨_, rfl, hgoal _ _ hb9 rfl⟩
    | 2, ho =>
      simp at ho
      subst ho
      refine step_plain rfl ?_
      have e3 := hF.was 3 (by kernel_rfl) rfl
      have hgoal : ∀ v W', Below x.heap.size x W' → QCm n d m f 2 v W' → RQ (QCm n d m f) W0 (upd val 2 v) (L.setIfInBounds 2 true) W' := fun v W' hb hq => hR.step hst hb hq
      have q0 := cell_keep hR.1 a0
      have q1 := cell_keep hR.1 a1
      have q2 := cell_keep hR.1 b0
      have q3 := cell_keep hR.1 b1
      clear hF hpre hl hR
      go_simp
      exact ⟨_, rfl, hgoal _ _ (Below.refl _ _) rfl⟩
    | 3, ho =>
      simp at ho
      subst ho
      refine step_plain rfl ?_
      have e9 := hF.gave 2 rfl (hpre ⟨2, .data⟩ (by simp) rfl) rfl
      have v2 := hR.2 2 (hpre ⟨2, .data⟩ (by simp) rfl)
      rw [show val 2 = .agg #[.int .i64 m, .int .i64 f] from v2] at e9
      clear v2
      have hgoal : ∀ v W', Below x.heap.size x W' → QCm n d m f 3 v W' → RQ (QCm n d m f) W0 (upd val 3 v) (L.setIfInBounds 3 true) W' := fun v W' hb hq => hR.step hst hb hq
      have q0 := cell_keep hR.1 a0
      have q1 := cell_keep hR.1 a1
      have q2 := cell_keep hR.1 b0
      have q3 := cell_keep hR.1 b1
      have hM := Lib.hid hR.1
      clear hF hpre hl hR
      go_simp
      refine ⟨trivial, ?_⟩
      refine CallsIn.mono (callsIn_wide.2 (vfloor_any m f _ (by omega) (by omega) (by omega) (by omega))) ?_
      rintro e y9 ⟨rfl, hb9⟩
      exact ⟨_, rfl, hgoal _ _ hb9 rfl⟩
    | 4, ho =>
      simp at ho
      subst ho
      refine step_plain rfl ?_
      have e8 := hF.gave 1 rfl (hpre ⟨1, .data⟩ (by simp) rfl) rfl
      have v1 := hR.2 1 (hpre ⟨1, .data⟩ (by simp) rfl)
      rw [show val 1 = .int .i64 (fl n d) from v1] at e8
      clear v1
      have hgoal : ∀ v W', Below x.heap.size x W' → QCm n d m f 4 v W' → RQ (QCm n d m f) W0 (upd val 4 v) (L.setIfInBounds 4 true) W' := fun v W' hb hq => hR.step hst hb hq
      clear hF hpre hl hR
      go_simp
      exact ⟨_, rfl, hgoal _ _ (Below.refl _ _) rfl⟩
    | 5, ho =>
      simp at ho
      subst ho
      refine step_plain rfl ?_
      have e10 := hF.gave 3 rfl (hpre ⟨3, .data⟩ (by simp) rfl) rfl
      have v3 := hR.2 3 (hpre ⟨3, .data⟩ (by simp) rfl)
      rw [show val 3 = .int .i64 (fl m f) from v3] at e10
      clear v3
      have hgoal : ∀ v W', Below x.heap.size x W' → QCm n d m f 5 v W' → RQ (QCm n d m f) W0 (upd val 5 v) (L.setIfInBounds 5 true) W' := fun v W' hb hq => hR.step hst hb hq
      clear hF hpre hl hR
      go_simp
      exact ⟨_, rfl, hgoal _ _ (Below.refl _ _) rfl⟩
    | i + 6, ho => simp at ho
  case hend =>
  intro val L b' w1 hF hall hR
  have e := hF.all (by kernel_rfl) hall
  have v4 := hR.2 4 (hall 4 (by decide))
  have v5 := hR.2 5 (hall 5 (by decide))
  have hb1 := hR.1
  replace a0 := cell_keep hb1 a0
  replace a1 := cell_keep hb1 a1
  replace b0 := cell_keep hb1 b0
  replace b1 := cell_keep hb1 b1
  have HB1 := Lib.hid (HB0.out.trans (hb1.mono HB0.out.size))
  clear hF hall hR hst hb1 HB0
  subst e
  simp [final, dstOf, List.range, List.range.loop]
  rw [show val 4 = .int .i64 (fl n d) from v4, show val 5 = .int .i64 (fl m f) from v5]
  clear v4 v5
  generalize val 0 = v0, val 1 = v1, val 2 = v2, val 3 = v3
  unfold ltF at *
  generalize hp : fl n d = p at *
  generalize hq : fl m f = q at *
  have w1' : IntKind.i64.wrap (p * d) = p * d := IntWalk.i64_in _ (by omega)
  have w2 : IntKind.i64.wrap (q * f) = q * f := IntWalk.i64_in _ (by omega)
  have hQ : ∀ c : Int, decide (0 < c) = (if q = p then decide ((m - q * f) * d < (n - p * d) * f) else decide (q < p)) → decide (0 < c) = ltF m f n d := fun c hc => by unfold ltF; rw [hp, hq]; exact hc
  have HQ := Lib.hid hQ
  clear hp hq hQ
  generalize hpd : p * d = pd at *
  generalize hqf : q * f = qf at *
  have w3 : IntKind.i64.wrap (n - pd) = n - pd := IntWalk.i64_in _ (by omega)
  have w4 : IntKind.i64.wrap (m - qf) = m - qf := IntWalk.i64_in _ (by omega)
  generalize hu : n - pd = u at *
  generalize hv : m - qf = v at *
  have m1 := mul_bd (a := u) (u := f) (A := 100000000) (M := 100000000) (by omega) (by omega) (by omega) (by omega) (by omega)
  have m2 := mul_bd (a := v) (u := d) (A := 100000000) (M := 100000000) (by omega) (by omega) (by omega) (by omega) (by omega)
  have w5 : IntKind.i64.wrap (u * f) = u * f := IntWalk.i64_in _ (by omega)
  have w6 : IntKind.i64.wrap (v * d) = v * d := IntWalk.i64_in _ (by omega)
  generalize huf : u * f = uf at *
  generalize hvd : v * d = vd at *
  clear m1 m2
  by_cases hpq : p = q
  · subst hpq
    have hb : (p != p) = false := by rw [bne_eq_false_iff_eq]
    go_wp2_with (go_at_call 107; refine Calls.mono (cmp_any uf vd _) ?_; rintro e w9 ⟨rfl, rfl⟩)
    go_ret
    exact ⟨⟨_, rfl, HQ.out _ (by rw [cmpI_pos]; simp)⟩, HB1.out⟩
  · have hb : (p != q) = true := by rw [bne_iff_ne]; exact hpq
    have HPQ := Lib.hid hpq
    clear hpq
    go_wp2_with (go_at_call 107; refine Calls.mono (cmp_any p q _) ?_; rintro e w9 ⟨rfl, rfl⟩)
    go_ret
    exact ⟨⟨_, rfl, HQ.out _ (by rw [cmpI_pos, if_neg (fun h => HPQ.out h.symm)])⟩, HB1.out⟩

end Go.Proofs.Ytjdahphnmeaolaa

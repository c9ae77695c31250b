/- The value of a point of a turn, of both sides. -/
import Derived.Test.YtliocbjmledfbaaHRvib
namespace Go.Proofs.Ytliocbjmledfbaa
open Go.RowKit

/-- The whole numbers of a point: quotient and rest. -/
structure QR (k n T P q r : Int) : Prop where
  eP : k * T = P
  eq' : P / n = q
  er : P % n = r
  P0 : 0 ≤ P
  P1 : P ≤ 9600
  q0 : 0 ≤ q
  q1 : q < T
  r0 : 0 ≤ r
  r1 : r < n
theorem QR.mk' {k n T : Int} (k0 : 0 ≤ k) (k1 : k < n) (n1 : n ≤ 24) (t0 : 1 ≤ T) (t1 : T ≤ 400) : ∃ P q r, QR k n T P q r := by
  refine ⟨k * T, k * T / n, k * T % n, rfl, rfl, rfl, Int.mul_nonneg k0 (by omega), ?_, Int.ediv_nonneg (Int.mul_nonneg k0 (by omega)) (by omega), ?_, Int.emod_nonneg _ (by omega), Int.emod_lt_of_pos _ (by omega)⟩
  · exact Int.le_trans (Int.mul_le_mul_of_nonneg_right (show k ≤ 24 by omega) (by omega)) (by omega)
  · have h : k * T < n * T := Int.mul_lt_mul_of_pos_right k1 (by omega)
    exact Int.ediv_lt_of_lt_mul (by omega) (by rw [Int.mul_comm T n]; exact h)
theorem prod_bd {a x : Int} (a0 : 0 ≤ a) (a1 : a ≤ 24) (x0 : -100 ≤ x) (x1 : x ≤ 100) : -2400 ≤ a * x ∧ a * x ≤ 2400 := by
  have h1 : a * x ≤ a * 100 := Int.mul_le_mul_of_nonneg_left x1 a0
  have h2 : a * (-100) ≤ a * x := Int.mul_le_mul_of_nonneg_left x0 a0
  omega
theorem ptN_zero {X : Nat → Int} {T k n P q r : Int} (h : QR k n T P q r) (hr : r = 0) : ptN X T k n = n * X q.toNat := by
  unfold ptN
  rw [h.eP, h.eq', h.er, if_pos hr]
theorem ptN_some {X : Nat → Int} {T k n P q r : Int} (h : QR k n T P q r) (hr : r ≠ 0) : ptN X T k n = (n - r) * X q.toNat + r * X (q.toNat + 1) := by
  unfold ptN
  rw [h.eP, h.eq', h.er, if_neg hr]

set_option maxRecDepth 100000 in
set_option maxHeartbeats 1000000 in
theorem point_any (A : Option Addr) (m c B : Nat) (xs : List Int) (T : Nat) (k n : Int) (w : World) (hl : xs.length = m) (hT : m = T + 1) (t1 : 1 ≤ T) (t2 : T ≤ 400) (k0 : 0 ≤ k) (k1 : k < n) (n1 : n ≤ 24) (hB : B ≤ w.heap.size) (hb : ∀ x ∈ xs, -100 ≤ x ∧ x ≤ 100) (h : RI w B A xs) :
    Calls Try.prog 57 #[.slice A m c, .int .i64 k, .int .i64 n] w fun e w' => e = .returned (.int .i64 (ptN (fun j => xs[j]?.getD 0) T k n)) ∧ ∃ d, w' = w.drewN d := by
  obtain ⟨P, q, r, hQ⟩ := QR.mk' k0 k1 n1 (show 1 ≤ (T : Int) by omega) (by omega)
  obtain ⟨p0, p1, q0, q1, r0, r1⟩ : _ ∧ _ ∧ _ ∧ _ ∧ _ ∧ _ := ⟨hQ.P0, hQ.P1, hQ.q0, hQ.q1, hQ.r0, hQ.r1⟩
  obtain ⟨qn, rfl⟩ := Int.eq_ofNat_of_zero_le q0
  obtain ⟨b, off, x, rfl, hbb, hx, hc⟩ := h.at_ (k := qn) (by omega)
  obtain ⟨b', off', y, hA, hbb', hy, hc'⟩ := h.at_ (k := qn + 1) (by omega)
  obtain ⟨rfl, rfl⟩ : b = b' ∧ off = off' := by simpa using hA
  obtain ⟨x0, x1⟩ := hb x (List.mem_of_getElem? hx)
  obtain ⟨y0, y1⟩ := hb y (List.mem_of_getElem? hy)
  have e1 : IntKind.i64.wrap ((m : Int) - 1) = (T : Int) := by rw [IntWalk.i64_in _ (by omega)]; omega
  have e2 : (m : Int) - 1 = (T : Int) := by omega
  have e3 : IntKind.i64.wrap (k * (T : Int)) = P := by rw [hQ.eP]; exact IntWalk.i64_in _ (by omega)
  have e4 : k * (T : Int) = P := hQ.eP
  have e5 : IntKind.i64.wrap (P.tdiv n) = (qn : Int) := by rw [Int.tdiv_eq_ediv_of_nonneg p0, hQ.eq']; exact IntWalk.i64_in _ (by omega)
  have e6 : IntKind.i64.wrap (P.tmod n) = r := by rw [Int.tmod_eq_emod_of_nonneg p0, hQ.er]; exact IntWalk.i64_in _ (by omega)
  have e7 : P / n = (qn : Int) := hQ.eq'
  have e8 : P % n = r := hQ.er
  have e9 : ((n : Int) == 0) = false := by simp; omega
  have HQ := Lib.hid hQ
  have HX := Lib.hid (And.intro hx hy)
  have l1 : (qn : Int) < m := by omega
  have hne : n ≠ 0 := by omega
  clear hb h hA hbb' hx hy hl hT hQ
  by_cases hr : r = 0
  · have HP := Lib.hid (show ptN (fun j => xs[j]?.getD 0) T k n = n * x by rw [ptN_zero HQ.out hr]; simp [HX.out.1])
    have b1 := prod_bd (show 0 ≤ n by omega) n1 x0 x1
    obtain ⟨b1, b2⟩ := b1
    subst hr
    clear HX
    go_enter Try.func57, Try.ntmps57
    go_wp2
    go_quiet (fail)
    try rw [e7]
    try rw [e8]
    clear e1 e2 e3 e4 e5 e6 e7 e8
    go_wp2
    go_ret
    exact ⟨ret_int HP.out.symm, _, rfl⟩
  · have HP := Lib.hid (show ptN (fun j => xs[j]?.getD 0) T k n = (n - r) * x + r * y by rw [ptN_some HQ.out hr]; simp [HX.out.1, HX.out.2])
    have b1 := prod_bd (show 0 ≤ n - r by omega) (by omega) x0 x1
    obtain ⟨b1, b2⟩ := b1
    have b3 := prod_bd r0 (by omega) y0 y1
    obtain ⟨b3, b4⟩ := b3
    have f1 : ((r : Int) == 0) = false := by simpa using hr
    have f2 : IntKind.i64.wrap (n - r) = n - r := IntWalk.i64_in _ (by omega)
    have f3 : IntKind.i64.wrap ((n - r) * x) = (n - r) * x := IntWalk.i64_in _ (by omega)
    have f4 : IntKind.i64.wrap (r * y) = r * y := IntWalk.i64_in _ (by omega)
    have f5 : IntKind.i64.wrap ((n - r) * x + r * y) = (n - r) * x + r * y := IntWalk.i64_in _ (by omega)
    have f6 : IntKind.i64.wrap ((qn : Int) + 1) = (qn : Int) + 1 := IntWalk.i64_in _ (by omega)
    have f7 : ((qn : Int) + 1).toNat = qn + 1 := by omega
    have f8 : (qn : Int) + 1 < m := by omega
    have f9 : 0 ≤ (qn : Int) + 1 := by omega
    clear HX
    go_enter Try.func57, Try.ntmps57
    go_wp2
    go_quiet (fail)
    try rw [e7]
    try rw [e8]
    clear e1 e2 e3 e4 e5 e6 e7 e8
    go_wp2
    go_quiet (fail)
    go_wp2
    go_ret
    exact ⟨ret_int HP.out.symm, _, by first | rfl | (rw [World.drewN_drewN])⟩
end Go.Proofs.Ytliocbjmledfbaa

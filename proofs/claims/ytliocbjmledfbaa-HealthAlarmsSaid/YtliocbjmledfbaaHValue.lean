/- The value of a point of a turn, of the reference. -/
import Derived.Test.YtliocbjmledfbaaHPoint
namespace Go.Proofs.Ytliocbjmledfbaa
open Go.RowKit

/-- The turn i of a valid vibration: from the sample a on, T samples. -/
structure TU (S M : List Int) (i a T : Nat) : Prop where
  fst : M[i]? = some (a : Int)
  snd : M[i + 1]? = some ((a : Int) + T)
  t1 : 1 ≤ T
  top : a + T < S.length
  few : S.length ≤ 400
theorem vib_get {S M : List Int} (h : vibB S M = true) : S.length ≤ 400 ∧ wB (-100) 100 S = true ∧ 2 ≤ M.length ∧ M.length ≤ 9 ∧ wB 0 ((S.length : Int) - 1) M = true ∧ ascN M (M.length - 1) = true := by
  unfold vibB at h
  simpa [and_assoc] using h
theorem TU.get {S M : List Int} (h : vibB S M = true) {i : Nat} (hi : i + 1 < M.length) : ∃ a T, TU S M i a T := by
  obtain ⟨h1, h2, h3, h4, h5, h6⟩ := vib_get h
  have hx : M[i]? = some M[i] := List.getElem?_eq_getElem (by omega)
  have hy : M[i + 1]? = some M[i + 1] := List.getElem?_eq_getElem hi
  have bx := wB_mem h5 hx
  have by' := wB_mem h5 hy
  have ha := ascN_get h6 (m := i) (by omega)
  rw [hx, hy] at ha
  simp only [Option.getD_some] at ha
  refine ⟨M[i].toNat, (M[i + 1] - M[i]).toNat, by rw [hx]; congr 1; omega, by rw [hy]; congr 1; omega, by omega, by omega, h1⟩
theorem TU.val {S M : List Int} {i a T : Nat} (h : TU S M i a T) (k n : Int) : valN S (M[i]?.getD 0) (M[i + 1]?.getD 0) k n = ptN (fun j => S[a + j]?.getD 0) T k n := by
  unfold valN
  rw [h.fst, h.snd]
  simp only [Option.getD_some, Int.toNat_natCast]
  rw [show (a : Int) + T - a = T by omega]

set_option maxRecDepth 100000 in
set_option maxHeartbeats 1000000 in
theorem value_any (AS AM : Option Addr) (ns cs nm cm B : Nat) (S M : List Int) (i a T : Nat) (k n : Int) (w : World) (hs : S.length = ns) (hm : M.length = nm) (hM9 : nm ≤ 9) (hB : B ≤ w.heap.size) (hb : ∀ x ∈ S, -100 ≤ x ∧ x ≤ 100) (ht : TU S M i a T) (k0 : 0 ≤ k) (k1 : k < n) (n1 : n ≤ 24)
    (rs : RI w B AS S) (rm : RI w B AM M) :
    Calls Try.prog 58 #[.agg #[.slice AS ns cs, .slice AM nm cm], .int .i64 i, .int .i64 k, .int .i64 n] w fun e w' => e = .returned (.int .i64 (ptN (fun j => S[a + j]?.getD 0) T k n)) ∧ Below w.heap.size w w' := by
  have t1 := ht.t1
  have t2 := ht.top
  have t3 := ht.few
  obtain ⟨P, q, r, hQ⟩ := QR.mk' k0 k1 n1 (show 1 ≤ (T : Int) by omega) (by omega)
  obtain ⟨p0, p1, q0, q1, r0, r1⟩ : _ ∧ _ ∧ _ ∧ _ ∧ _ ∧ _ := ⟨hQ.P0, hQ.P1, hQ.q0, hQ.q1, hQ.r0, hQ.r1⟩
  obtain ⟨qn, rfl⟩ := Int.eq_ofNat_of_zero_le q0
  have hi1 : i + 1 < nm := by rw [← hm]; exact (List.getElem?_eq_some_iff.1 ht.snd).1
  obtain ⟨b, off, x, rfl, hbb, hx, hc⟩ := rs.at_ (k := a + qn) (by omega)
  obtain ⟨b', off', y, hA, hbb', hy, hc'⟩ := rs.at_ (k := a + qn + 1) (by omega)
  obtain ⟨rfl, rfl⟩ : b = b' ∧ off = off' := by simpa using hA
  obtain ⟨x0, x1⟩ := hb x (List.mem_of_getElem? hx)
  obtain ⟨y0, y1⟩ := hb y (List.mem_of_getElem? hy)
  obtain ⟨bm, om, u, rfl, hbm, hu, hcu⟩ := rm.at_ (k := i) (by omega)
  obtain ⟨bm', om', v, hA2, hbm', hv, hcv⟩ := rm.at_ (k := i + 1) (by omega)
  obtain ⟨rfl, rfl⟩ : bm = bm' ∧ om = om' := by simpa using hA2
  have eu : u = (a : Int) := by have := hu.symm.trans ht.fst; simpa using this
  have ev : v = (a : Int) + T := by have := hv.symm.trans ht.snd; simpa using this
  subst eu
  have hbw : b < w.heap.size := by omega
  have hbmw : bm < w.heap.size := by omega
  have e1 : IntKind.i64.wrap (v - (a : Int)) = (T : Int) := by rw [IntWalk.i64_in _ (by omega)]; omega
  have e2 : v - (a : Int) = (T : Int) := by omega
  have e3 : IntKind.i64.wrap (k * (T : Int)) = P := by rw [hQ.eP]; exact IntWalk.i64_in _ (by omega)
  have e4 : k * (T : Int) = P := hQ.eP
  have e5 : IntKind.i64.wrap (P.tdiv n) = (qn : Int) := by rw [Int.tdiv_eq_ediv_of_nonneg p0, hQ.eq']; exact IntWalk.i64_in _ (by omega)
  have e6 : IntKind.i64.wrap (P.tmod n) = r := by rw [Int.tmod_eq_emod_of_nonneg p0, hQ.er]; exact IntWalk.i64_in _ (by omega)
  have e7 : P / n = (qn : Int) := hQ.eq'
  have e8 : P % n = r := hQ.er
  have e9 : ((n : Int) == 0) = false := by simp; omega
  have g1 : IntKind.i64.wrap ((i : Int) + 1) = (i : Int) + 1 := IntWalk.i64_in _ (by omega)
  have g2 : ((i : Int) + 1).toNat = i + 1 := by omega
  have g3 : (i : Int) + 1 < nm := by omega
  have g4 : 0 ≤ (i : Int) + 1 := by omega
  have g5 : (i : Int) < nm := by omega
  have g6 : 0 ≤ (i : Int) := by omega
  have g7 : IntKind.i64.wrap ((a : Int) + qn) = (a : Int) + qn := IntWalk.i64_in _ (by omega)
  have g8 : ((a : Int) + qn).toNat = a + qn := by omega
  have g9 : (a : Int) + qn < ns := by omega
  have g10 : 0 ≤ (a : Int) + qn := by omega
  have HQ := Lib.hid hQ
  have HX := Lib.hid (And.intro hx hy)
  have hne : n ≠ 0 := by omega
  clear hb rs rm hA hA2 hbb' hbm' hx hy hQ hu hv ht ev
  by_cases hr : r = 0
  · have HP := Lib.hid (show ptN (fun j => S[a + j]?.getD 0) T k n = n * x by rw [ptN_zero HQ.out hr]; simp [HX.out.1])
    have b1 := prod_bd (show 0 ≤ n by omega) n1 x0 x1
    obtain ⟨b1, b2⟩ := b1
    subst hr
    clear HX hs hm
    go_enter Try.func58, Try.ntmps58
    go_wp2
    go_quiet (fail)
    go_wp2
    go_quiet (fail)
    try rw [e7]
    try rw [e8]
    clear e1 e2 e3 e4 e5 e6 e7 e8
    go_wp2
    go_ret
    exact ⟨ret_int HP.out.symm, by (repeat refine below_drewN ?_ _); exact (Below.refl _ _).alloc (Nat.le_refl _) _⟩
  · have HP := Lib.hid (show ptN (fun j => S[a + j]?.getD 0) T k n = (n - r) * x + r * y by rw [ptN_some HQ.out hr, Int.toNat_natCast]; simp only [HX.out.1, show a + (qn + 1) = a + qn + 1 by omega, HX.out.2]; rfl)
    have b1 := prod_bd (show 0 ≤ n - r by omega) (by omega) x0 x1
    obtain ⟨b1, b2⟩ := b1
    have b3 := prod_bd r0 (by omega) y0 y1
    obtain ⟨b3, b4⟩ := b3
    have f1 : ((r : Int) == 0) = false := by simpa using hr
    have f2 : IntKind.i64.wrap (n - r) = n - r := IntWalk.i64_in _ (by omega)
    have f3 : IntKind.i64.wrap ((n - r) * x) = (n - r) * x := IntWalk.i64_in _ (by omega)
    have f4 : IntKind.i64.wrap (r * y) = r * y := IntWalk.i64_in _ (by omega)
    have f5 : IntKind.i64.wrap ((n - r) * x + r * y) = (n - r) * x + r * y := IntWalk.i64_in _ (by omega)
    have f6 : IntKind.i64.wrap ((a : Int) + qn + 1) = (a : Int) + qn + 1 := IntWalk.i64_in _ (by omega)
    have f7 : ((a : Int) + qn + 1).toNat = a + qn + 1 := by omega
    have f8 : (a : Int) + qn + 1 < ns := by omega
    have f9 : 0 ≤ (a : Int) + qn + 1 := by omega
    clear HX hs hm
    go_enter Try.func58, Try.ntmps58
    go_wp2
    go_quiet (fail)
    go_wp2
    go_quiet (fail)
    try rw [e7]
    try rw [e8]
    clear e1 e2 e3 e4 e5 e6 e7 e8
    go_wp2
    go_quiet (fail)
    go_wp2
    go_ret
    exact ⟨ret_int HP.out.symm, by (repeat refine below_drewN ?_ _); exact (Below.refl _ _).alloc (Nat.le_refl _) _⟩
end Go.Proofs.Ytliocbjmledfbaa

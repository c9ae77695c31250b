/- swashplatelaw07.SlingSwings returns true at every input, and the input reads as it did: no condition. -/
import Derived.Test.YtnnmmojlgikdgaaM7
import Derived.Test.YtnnmmojlgikdgaaM6

/- Arguments of layer 7's laws, opened: slings, swings, sets, steps. -/
namespace Go.Proofs.Ytnnmmojlgikdgaa
open Go.RowKit Go.WideShapes Go.ChangeShapes Go.ChangeAt Go.Joins Go.Deep

theorem arr6 {cs : Array Value} (h : cs.size = 6) : ∃ a b c d e f, cs = #[a, b, c, d, e, f] :=
  ⟨cs[0], cs[1], cs[2], cs[3], cs[4], cs[5], by
    apply Array.ext (by simp [h])
    intro i h1 h2
    simp at h2
    match i, h2 with
    | 0, _ => rfl
    | 1, _ => rfl
    | 2, _ => rfl
    | 3, _ => rfl
    | 4, _ => rfl
    | 5, _ => rfl⟩

section
variable {H : Type} {enc : TypeId × Value → H}
set_option maxRecDepth 100000
theorem cells_sling : Try.prog.cellsOf 23 = 3 := by kernel_rfl
theorem cells_swung : Try.prog.cellsOf 29 = 6 := by kernel_rfl
theorem cells_sets7 : Try.prog.cellsOf 43 = 6 := by kernel_rfl
theorem cells_pr7 : Try.prog.cellsOf 24 = 2 := by kernel_rfl
theorem cells_sp7 : Try.prog.cellsOf 27 = 2 := by kernel_rfl
theorem cells_bx7 : Try.prog.cellsOf 41 = 1 := by kernel_rfl

theorem sling_open {w : World} {base : Nat} {spare : Nat → Bool} {held : Bool} {r : Reach} {b0 : Nat} {v : Value} {d : DataW H} {p : List MemPlace}
    (hv : Value.okWide Try.prog w r b0 23 v) (h : DataW.Trod enc Try.prog w base spare held 23 v d p) : ∃ a b c : Int, v = .agg #[.int .i64 a, .int .i64 b, .int .i64 c] := by
  obtain ⟨c0, c1, c2, y0, y1, y2, m, rfl, _, _, h0, h1, h2⟩ := open_agg3 Try.underlying23 (by kernel_rfl) cells_sling hv h
  obtain ⟨a, e0, _, _⟩ := DataW.trod_int Try.underlying3 h0
  obtain ⟨b, e1, _, _⟩ := DataW.trod_int Try.underlying3 h1
  obtain ⟨c, e2, _, _⟩ := DataW.trod_int Try.underlying3 h2
  simp at e0 e1 e2
  subst e0 e1 e2
  exact ⟨a, b, c, rfl⟩
theorem pair_cells7 {w : World} {base : Nat} {spare : Nat → Bool} {held : Bool} {fuel : Nat} {c0 c1 : Value} {x : DataW H × List MemPlace} (h : DataW.trod enc Try.prog w base spare held fuel 24 [c0, c1] = some x) : ∃ a b : Int, c0 = .int .i64 a ∧ c1 = .int .i64 b := by
  obtain ⟨xs, m, _, hx, _, hlen, hg⟩ := DataW.trod_array Try.underlying24 h
  match xs, hlen with
  | [y0, y1], _ =>
    have h0 := hg 0 (by omega)
    have h1 := hg 1 (by omega)
    simp only [cells_int7] at h0 h1
    simp at h0 h1
    obtain ⟨a, e0, _, _⟩ := DataW.trod_int Try.underlying3 h0
    obtain ⟨b, e1, _, _⟩ := DataW.trod_int Try.underlying3 h1
    simp at e0 e1
    exact ⟨a, b, e0, e1⟩
theorem span_cells7 {w : World} {base : Nat} {spare : Nat → Bool} {held : Bool} {fuel : Nat} {c0 c1 : Value} {x : DataW H × List MemPlace} (h : DataW.trod enc Try.prog w base spare held fuel 27 [c0, c1] = some x) : ∃ a b : Int, c0 = .int .i64 a ∧ c1 = .int .i64 b := by
  obtain ⟨y0, y1, n, _, _, h0, h1⟩ := trod_struct2 Try.underlying27 h
  simp only [cells_int7] at h0 h1
  obtain ⟨a, e0, _, _⟩ := DataW.trod_int Try.underlying3 (by simpa using h0)
  obtain ⟨b, e1, _, _⟩ := DataW.trod_int Try.underlying3 (by simpa using h1)
  simp at e0 e1
  exact ⟨a, b, e0, e1⟩
theorem swung_open {w : World} {base : Nat} {r : Reach} {b0 : Nat} {v : Value} {d : DataW H} {p : List MemPlace}
    (hv : Value.okWide Try.prog w r b0 29 v) (h : DataW.Trod enc Try.prog w base (fun _ => true) true 29 v d p) :
    ∃ a b A n c m lo hi G, v = .agg #[.int .i64 a, .int .i64 b, .slice A n c, .int .i64 m, .int .i64 lo, .int .i64 hi] ∧ G.length = n ∧ n ≤ maxLen ∧ RI w w.heap.size A G := by
  obtain ⟨cs, rfl, hsz⟩ := okWide_struct Try.underlying29 hv
  obtain ⟨c0, c1, c2, c3, c4, c5, rfl⟩ := arr6 (hsz.trans cells_swung)
  obtain ⟨fuel, hf⟩ := h
  obtain ⟨xs, n, _, _, _, hlen, hg⟩ := DataW.trod_struct Try.underlying29 hf
  match xs, hlen with
  | [z0, z1, z2, z3], _ =>
    have k0 : DataW.trod enc Try.prog w base (fun _ => true) true n 24 [c0, c1] = some z0 := by
      have := hg 0 _ rfl
      simpa [Value.cells, cells_pr7] using this
    have k1 : DataW.trod enc Try.prog w base (fun _ => true) true n 25 [c2] = some z1 := by
      have := hg 1 _ rfl
      simpa [Value.cells, cells_ints7] using this
    have k2 : DataW.trod enc Try.prog w base (fun _ => true) true n 3 [c3] = some z2 := by
      have := hg 2 _ rfl
      simpa [Value.cells, cells_int7] using this
    have k3 : DataW.trod enc Try.prog w base (fun _ => true) true n 27 [c4, c5] = some z3 := by
      have := hg 3 _ rfl
      simpa [Value.cells, cells_sp7] using this
    obtain ⟨a, b, e0, e1⟩ := pair_cells7 k0
    obtain ⟨A, n', c, G, e2, hl, hn, hr⟩ := ints_of k1
    obtain ⟨m, e3, _, _⟩ := DataW.trod_int Try.underlying3 k2
    obtain ⟨lo, hi, e4, e5⟩ := span_cells7 k3
    simp at e2 e3
    subst e0 e1 e2 e3 e4 e5
    exact ⟨a, b, A, n', c, m, lo, hi, G, rfl, hl, hn, hr⟩
theorem sets_open {w : World} {base : Nat} {r : Reach} {b0 : Nat} {v : Value} {d : DataW H} {p : List MemPlace}
    (hv : Value.okWide Try.prog w r b0 43 v) (h : DataW.Trod enc Try.prog w base (fun _ => true) true 43 v d p) :
    ∃ A n c g k lo hi m l, v = .agg #[.slice A n c, .int .i64 g, .int .i64 k, .int .i64 lo, .int .i64 hi, .int .i64 m] ∧ l.length = n ∧ n ≤ maxLen ∧ RS w w.heap.size A l := by
  obtain ⟨cs, rfl, hsz⟩ := okWide_struct Try.underlying43 hv
  obtain ⟨c0, c1, c2, c3, c4, c5, rfl⟩ := arr6 (hsz.trans cells_sets7)
  obtain ⟨fuel, hf⟩ := h
  obtain ⟨xs, n, _, _, _, hlen, hg⟩ := DataW.trod_struct Try.underlying43 hf
  match xs, hlen with
  | [z0, z1, z2, z3], _ =>
    have k0 : DataW.trod enc Try.prog w base (fun _ => true) true n 41 [c0] = some z0 := by
      have := hg 0 _ rfl
      simpa [Value.cells, cells_bx7] using this
    have k1 : DataW.trod enc Try.prog w base (fun _ => true) true n 27 [c1, c2] = some z1 := by
      have := hg 1 _ rfl
      simpa [Value.cells, cells_sp7] using this
    have k2 : DataW.trod enc Try.prog w base (fun _ => true) true n 27 [c3, c4] = some z2 := by
      have := hg 2 _ rfl
      simpa [Value.cells, cells_sp7] using this
    have k3 : DataW.trod enc Try.prog w base (fun _ => true) true n 3 [c5] = some z3 := by
      have := hg 3 _ rfl
      simpa [Value.cells, cells_int7] using this
    obtain ⟨A, n', c, l, e0, hl, hn, hr⟩ := spans_of Try.underlying41 k0
    obtain ⟨g, k, e1, e2⟩ := span_cells7 k1
    obtain ⟨lo, hi, e3, e4⟩ := span_cells7 k2
    obtain ⟨m, e5, _, _⟩ := DataW.trod_int Try.underlying3 k3
    simp at e0 e5
    subst e0 e1 e2 e3 e4 e5
    exact ⟨A, n', c, g, k, lo, hi, m, l, rfl, hl, hn, hr⟩
end
end Go.Proofs.Ytnnmmojlgikdgaa

/- Calm of both sides. -/
namespace Go.Proofs.Ytnnmmojlgikdgaa
open Go.RowKit

/-! ### Mathematics -/
def zG (n : Nat) : List Int := List.replicate n 0
theorem zG_len (n : Nat) : (zG n).length = n := by simp [zG]
theorem zG_wB (n : Nat) : wB (-100) 100 (zG n) = true := by
  unfold wB zG
  rw [List.all_eq_true]
  intro x hx
  have := List.eq_of_mem_replicate hx
  subst this
  decide
theorem swK_z {N D d a v : Int} {n m k : Nat} (h : k ≤ n) (h' : k ≤ m) : swK N D d a v (zG n) k = swK N D d a v (zG m) k := by
  unfold swK zG
  rw [List.take_replicate, List.take_replicate]
  congr 2
  omega
theorem zG_get {n k : Nat} (h : k < n) : (zG n)[k]? = some 0 := by
  unfold zG
  rw [List.getElem?_replicate]
  simp [h]
/-- Behind k ticks the load is in the band. -/
def inB (N D d a v lo hi : Int) (k : Nat) : Bool := decide (lo * (swK N D d a v (zG 17) k).2.2 ≤ (swK N D d a v (zG 17) k).1) && decide ((swK N D d a v (zG 17) k).1 ≤ hi * (swK N D d a v (zG 17) k).2.2)
def calmC (p : Nat → Bool) : Nat → Nat
  | 0 => 0
  | k + 1 => if p k then calmC p k else k + 1
theorem calmC_le (p : Nat → Bool) : ∀ k, calmC p k ≤ k
  | 0 => Nat.le_refl _
  | k + 1 => by
    unfold calmC
    split
    · have := calmC_le p k; omega
    · exact Nat.le_refl _
theorem calmC_all {p : Nat → Bool} {t : Nat} : ∀ m, (∀ j, t ≤ j → j < t + m → p j = true) → calmC p (t + m) = calmC p t
  | 0, _ => rfl
  | m + 1, h => by
    show (if p (t + m) then calmC p (t + m) else t + m + 1) = _
    rw [if_pos (h (t + m) (by omega) (by omega))]
    exact calmC_all m fun j a b => h j a (by omega)
def calmE (N D d a v n lo hi : Int) : Int :=
  if slB N D d then (if vS (lo, hi) then (if staB a v && decide (0 ≤ n ∧ n ≤ 16) then (if (calmC (inB N D d a v lo hi) (n.toNat + 1) : Int) ≤ n then 0 else 3) else 1) else 10) else 70
def calmN (N D d a v n lo hi : Int) : Int × Int := (if calmE N D d a v n lo hi = 0 then (calmC (inB N D d a v lo hi) (n.toNat + 1) : Int) else 0, calmE N D d a v n lo hi)
theorem calm_70 {N D d a v n lo hi : Int} (h : slB N D d = false) : calmN N D d a v n lo hi = (0, 70) := by unfold calmN calmE; rw [h]; rfl
theorem calm_10 {N D d a v n lo hi : Int} (h : slB N D d = true) (h2 : vS (lo, hi) = false) : calmN N D d a v n lo hi = (0, 10) := by unfold calmN calmE; rw [h, h2]; rfl
theorem calm_1 {N D d a v n lo hi : Int} (h : slB N D d = true) (h2 : vS (lo, hi) = true) (h3 : (staB a v && decide (0 ≤ n ∧ n ≤ 16)) = false) : calmN N D d a v n lo hi = (0, 1) := by unfold calmN calmE; rw [h, h2, h3]; rfl
theorem calm_ok {N D d a v lo hi : Int} {n : Nat} (h : slB N D d = true) (h2 : vS (lo, hi) = true) (h3 : staB a v = true) (h4 : n ≤ 16) :
    calmN N D d a v n lo hi = if calmC (inB N D d a v lo hi) (n + 1) ≤ n then ((calmC (inB N D d a v lo hi) (n + 1) : Int), 0) else (0, 3) := by
  unfold calmN calmE
  rw [h, h2, h3, show decide (0 ≤ (n : Int) ∧ (n : Int) ≤ 16) = true by simp; omega]
  simp only [Bool.true_and, if_true, Int.toNat_natCast]
  by_cases hc : calmC (inB N D d a v lo hi) (n + 1) ≤ n
  · rw [if_pos (by omega : (calmC (inB N D d a v lo hi) (n + 1) : Int) ≤ n), if_pos hc]
    rfl
  · rw [if_neg (by omega : ¬ (calmC (inB N D d a v lo hi) (n + 1) : Int) ≤ n), if_neg hc]
    rfl

/-! ### inside -/
set_option maxRecDepth 100000 in
theorem inside1_any (num den lo hi : Int) (A : Option Addr) (c B : Nat) (w : World) (hv : vS (lo, hi) = true) (hd : 1 ≤ den ∧ den ≤ 4294967296) (hB : B ≤ w.heap.size) (h : RS w B A [(lo, hi)]) :
    Calls Try.prog 60 #[.int .i64 num, .int .i64 den, .slice A 1 c] w fun e w' => e = .returned (.bool (decide (lo * den ≤ num) && decide (num ≤ hi * den))) ∧ Below w.heap.size w w' := by
  obtain ⟨hlh, hlo, hhi⟩ := vS_get hv
  obtain ⟨d1, d2⟩ := hd
  obtain ⟨p1, hp1⟩ : ∃ x, lo * den = x := ⟨_, rfl⟩
  obtain ⟨p2, hp2⟩ : ∃ x, hi * den = x := ⟨_, rfl⟩
  have b1 := mul_bd (a := den) (A := 4294967296) (u := lo) (M := 1000000) (by omega) d2 hlo (by omega) (by omega)
  have b2 := mul_bd (a := den) (A := 4294967296) (u := hi) (M := 1000000) (by omega) d2 (by omega) hhi (by omega)
  rw [show den * lo = p1 by rw [Int.mul_comm]; exact hp1] at b1
  rw [show den * hi = p2 by rw [Int.mul_comm]; exact hp2] at b2
  have i1 : IntKind.i64.wrap (lo * den) = p1 := by rw [hp1]; exact IntWalk.i64_in _ (by omega)
  have i2 : IntKind.i64.wrap (hi * den) = p2 := by rw [hp2]; exact IntWalk.i64_in _ (by omega)
  rw [hp1, hp2]
  obtain ⟨b, off, x, rfl, hb, hx, hc1, hc2⟩ := h.at_ (k := 0) (by simp)
  simp at hx
  subst hx
  simp only [Nat.zero_mul, Nat.add_zero] at hc1 hc2
  have hbw : b < w.heap.size := by omega
  have HB0 := Lib.hid ((Below.refl w.heap.size w).alloc (Nat.le_refl _) (.cells #[.int .i64 lo, .int .i64 hi] 27))
  have HWB := Lib.hid (show wB p1 p2 [num] = (decide (p1 ≤ num) && decide (num ≤ p2)) by unfold wB; simp)
  generalize (decide (p1 ≤ num) && decide (num ≤ p2)) = bv at *
  clear h hp1 hp2 b1 b2 hv d1 d2 hlh
  go_enter Try.func60, Try.ntmps60
  go_wp2
  go_loopw [11] (fun i wr => (i = .int .i64 0 ∧ wr = w) ∨ (i = .int .i64 1 ∧ bv = true ∧ Below w.heap.size w wr)) (fun i _ => (1 - intOf i).toNat)
  case atStart => exact .inl ⟨rfl, rfl⟩
  case round =>
    rcases hrel with ⟨rfl, rfl⟩ | ⟨rfl, hbv, hbw2⟩
    · cases bv with
      | false =>
        go_wp2_with (go_at_call 49; refine (within_any p1 p2 _ 1 _ _ [num] _ rfl (le_maxLen (by omega)) (RI.new1 (by simp))).mono ?_; rintro e w2 ⟨rfl, rfl⟩; rw [HWB.out])
        go_ret
        exact ⟨rfl, by go_grown⟩
      | true =>
        go_wp2_with (go_at_call 49; refine (within_any p1 p2 _ 1 _ _ [num] _ rfl (le_maxLen (by omega)) (RI.new1 (by simp))).mono ?_; rintro e w2 ⟨rfl, rfl⟩; rw [HWB.out])
        go_roundw
        case rel => exact .inr ⟨rfl, trivial, by go_grown⟩
        case measure => simp [intOf]
    · subst hbv
      have HBW := Lib.hid hbw2
      clear hbw2
      go_wp2
      go_ret
      exact ⟨rfl, HBW.out⟩

set_option maxRecDepth 100000 in
set_option maxHeartbeats 2000000 in
theorem calm_any (N D d a v n lo hi : Int) (w : World) :
    Calls Try.prog 20 #[.agg #[.int .i64 N, .int .i64 D, .int .i64 d], .agg #[.int .i64 a, .int .i64 v], .int .i64 n, .agg #[.int .i64 lo, .int .i64 hi]] w fun e w' => e = .returned (.tuple #[.int .i64 (calmN N D d a v n lo hi).1, .int .i64 (calmN N D d a v n lo hi).2]) ∧ Below w.heap.size w w' := by
  have HC := Lib.hid (fun W => slcheck_any N D d W)
  have HSP := Lib.hid (fun (W : World) (g : Nat) (hg : g < W.heap.size) (hr : RS W (g + 1) (some ⟨g, 0, none⟩) [(lo, hi)]) => checkSpans_any (some ⟨g, 0, none⟩) 1 1 (g + 1) [(lo, hi)] W rfl (le_maxLen (by omega)) hg hr)
  simp only [List.all_cons, List.all_nil, Bool.and_true] at HSP
  have HST := Lib.hid (fun W => isStart_any a v W)
  have hT0 : ((((w.alloc (.cells #[.int .i64 N, .int .i64 D, .int .i64 d] 23)).alloc (.cells #[.int .i64 a, .int .i64 v] 24)).alloc (.cells #[.int .i64 lo, .int .i64 hi] 27)).cell? ⟨w.heap.size, 0, none⟩ = some (.int .i64 N) ∧ (((w.alloc (.cells #[.int .i64 N, .int .i64 D, .int .i64 d] 23)).alloc (.cells #[.int .i64 a, .int .i64 v] 24)).alloc (.cells #[.int .i64 lo, .int .i64 hi] 27)).cell? ⟨w.heap.size, 1, none⟩ = some (.int .i64 D) ∧ (((w.alloc (.cells #[.int .i64 N, .int .i64 D, .int .i64 d] 23)).alloc (.cells #[.int .i64 a, .int .i64 v] 24)).alloc (.cells #[.int .i64 lo, .int .i64 hi] 27)).cell? ⟨w.heap.size, 2, none⟩ = some (.int .i64 d)) ∧ ((((w.alloc (.cells #[.int .i64 N, .int .i64 D, .int .i64 d] 23)).alloc (.cells #[.int .i64 a, .int .i64 v] 24)).alloc (.cells #[.int .i64 lo, .int .i64 hi] 27)).cell? ⟨w.heap.size + 1, 0, none⟩ = some (.int .i64 a) ∧ (((w.alloc (.cells #[.int .i64 N, .int .i64 D, .int .i64 d] 23)).alloc (.cells #[.int .i64 a, .int .i64 v] 24)).alloc (.cells #[.int .i64 lo, .int .i64 hi] 27)).cell? ⟨w.heap.size + 1, 1, none⟩ = some (.int .i64 v)) ∧ ((((w.alloc (.cells #[.int .i64 N, .int .i64 D, .int .i64 d] 23)).alloc (.cells #[.int .i64 a, .int .i64 v] 24)).alloc (.cells #[.int .i64 lo, .int .i64 hi] 27)).cell? ⟨w.heap.size + 1 + 1, 0, none⟩ = some (.int .i64 lo) ∧ (((w.alloc (.cells #[.int .i64 N, .int .i64 D, .int .i64 d] 23)).alloc (.cells #[.int .i64 a, .int .i64 v] 24)).alloc (.cells #[.int .i64 lo, .int .i64 hi] 27)).cell? ⟨w.heap.size + 1 + 1, 1, none⟩ = some (.int .i64 hi)) := by
    refine ⟨⟨?_, ?_, ?_⟩, ⟨?_, ?_⟩, ?_, ?_⟩ <;> go_simp
  have hb0 : Below w.heap.size w (((w.alloc (.cells #[.int .i64 N, .int .i64 D, .int .i64 d] 23)).alloc (.cells #[.int .i64 a, .int .i64 v] 24)).alloc (.cells #[.int .i64 lo, .int .i64 hi] 27)) := by go_grown
  obtain ⟨wA, hwA⟩ : ∃ x, (((w.alloc (.cells #[.int .i64 N, .int .i64 D, .int .i64 d] 23)).alloc (.cells #[.int .i64 a, .int .i64 v] 24)).alloc (.cells #[.int .i64 lo, .int .i64 hi] 27)) = x := ⟨_, rfl⟩
  rw [hwA] at hT0 hb0
  have HB0 := Lib.hid hb0
  have HT := Lib.hid hT0
  clear hT0 hb0
  have HWA := Lib.hid hwA
  clear hwA
  cases hsl : slB N D d with
  | false =>
    rw [slE_no hsl] at HC
    rw [calm_70 hsl]
    clear hsl
    go_enter Try.func20, Try.ntmps20
    go_upto_region 1 with fail
    rw [HWA.out]
    obtain ⟨⟨t0, t1, t2⟩, ⟨t3, t4⟩, t5, t6⟩ := HT.out
    go_wp2_with (go_at_call 15; refine Calls.mono (HC.out _) ?_; rintro e w3 ⟨rfl, hb3⟩; have HB3 := Lib.hid (HB0.out.trans (hb3.mono HB0.out.size)); clear hb3)
    go_ret2
    exact ⟨rfl, HB3.out⟩
  | true =>
    rw [slE_yes hsl] at HC
    cases hvs : vS (lo, hi) with
    | false =>
      rw [hvs] at HSP
      rw [calm_10 hsl hvs]
      clear hsl hvs
      go_enter Try.func20, Try.ntmps20
      go_upto_region 1 with fail
      rw [HWA.out]
      obtain ⟨⟨t0, t1, t2⟩, ⟨t3, t4⟩, t5, t6⟩ := HT.out
      go_wp2_with (first
        | (go_at_call 15; refine Calls.mono (HC.out _) ?_; rintro e w3 ⟨rfl, hb3⟩; have r5 := cell_keep hb3 t5; have r6 := cell_keep hb3 t6; have l5 := World.block_lt_of_cell? _ _ r5; have HB3 := Lib.hid (HB0.out.trans (hb3.mono HB0.out.size)); clear hb3 t0 t1 t2 t3 t4 t5 t6)
        | (go_at_call 59; refine Calls.mono (HSP.out _ _ (by simp) (RS.new1 (by simp))) ?_; rintro e w4 ⟨rfl, hb4⟩; have HB4 := Lib.hid ((HB3.out.alloc HB3.out.size _).trans (hb4.mono (by simp; have := HB3.out.size; omega))); clear hb4))
      go_ret2
      exact ⟨rfl, HB4.out⟩
    | true =>
      rw [hvs] at HSP
      cases hst : staB a v with
      | false =>
        rw [hst] at HST
        rw [calm_1 hsl hvs (by rw [hst]; rfl)]
        clear hsl hvs hst
        go_enter Try.func20, Try.ntmps20
        go_upto_region 1 with fail
        rw [HWA.out]
        obtain ⟨⟨t0, t1, t2⟩, ⟨t3, t4⟩, t5, t6⟩ := HT.out
        go_wp2_with (first
          | (go_at_call 15; refine Calls.mono (HC.out _) ?_; rintro e w3 ⟨rfl, hb3⟩; have r5 := cell_keep hb3 t5; have r6 := cell_keep hb3 t6; have r3 := cell_keep hb3 t3; have r4 := cell_keep hb3 t4; have l5 := World.block_lt_of_cell? _ _ r5; have l3 := World.block_lt_of_cell? _ _ r3; have HB3 := Lib.hid (HB0.out.trans (hb3.mono HB0.out.size)); clear hb3 t0 t1 t2 t3 t4 t5 t6)
          | (go_at_call 59; refine Calls.mono (HSP.out _ _ (by simp) (RS.new1 (by simp))) ?_; rintro e w4 ⟨rfl, hb4⟩; have s3 := keepA hb4 r3; have s4 := keepA hb4 r4; have l4 := World.block_lt_of_cell? _ _ s3; have HB4 := Lib.hid ((HB3.out.alloc HB3.out.size _).trans (hb4.mono (by simp; have := HB3.out.size; omega))); clear hb4 r3 r4 r5 r6)
          | (go_at_call 51; refine Calls.mono (HST.out _) ?_; rintro e w5 ⟨rfl, hb5⟩; have HB5 := Lib.hid (HB4.out.trans (hb5.mono HB4.out.size)); clear hb5))
        go_ret2
        exact ⟨rfl, HB5.out⟩
      | true =>
        rw [hst] at HST
        by_cases gn : 0 ≤ n ∧ n ≤ 16
        · obtain ⟨m, rfl⟩ : ∃ m : Nat, n = (m : Int) := ⟨n.toNat, by omega⟩
          have GN := Lib.hid (show wB 0 16 [(m : Int)] = true by rw [wB_one]; simp; omega)
          have hm : m ≤ 16 := by omega
          rw [calm_ok hsl hvs hst hm]
          obtain ⟨⟨da, db⟩, hd⟩ : ∃ r : Int × Int, (if calmC (inB N D d a v lo hi) (m + 1) ≤ m then ((calmC (inB N D d a v lo hi) (m + 1) : Int), (0 : Int)) else (0, 3)) = r := ⟨_, rfl⟩
          rw [hd]
          have HD := Lib.hid hd
          have HH := Lib.hid (fun W => hang_any N D d a v W)
          have HSW := Lib.hid (swB_all (N := N) (D := D) (d := d) (a := a) (v := v) (G := zG 16) hsl hst (zG_wB 16) (by rw [zG_len]; omega))
          obtain ⟨⟨d1, d2⟩, _, _⟩ := slB_get hsl
          have HSL := Lib.hid hsl
          have HVS := Lib.hid hvs
          clear hd hsl hvs hst gn
          go_enter Try.func20, Try.ntmps20
          go_upto_region 1 with fail
          rw [HWA.out]
          obtain ⟨⟨t0, t1, t2⟩, ⟨t3, t4⟩, t5, t6⟩ := HT.out
          go_upto_region 9 with (first
            | (go_at_call 15; refine Calls.mono (HC.out _) ?_; rintro e w3 ⟨rfl, hb3⟩; have r0 := cell_keep hb3 t0; have r1 := cell_keep hb3 t1; have r2 := cell_keep hb3 t2; have r5 := cell_keep hb3 t5; have r6 := cell_keep hb3 t6; have r3 := cell_keep hb3 t3; have r4 := cell_keep hb3 t4; have l5 := World.block_lt_of_cell? _ _ r5; have l3 := World.block_lt_of_cell? _ _ r3; have HB3 := Lib.hid (HB0.out.trans (hb3.mono HB0.out.size)); clear hb3 t0 t1 t2 t3 t4 t5 t6)
            | (go_at_call 59; refine Calls.mono (HSP.out _ _ (by simp) (RS.new1 (by simp))) ?_; rintro e w4 ⟨rfl, hb4⟩; have s0 := keepA hb4 r0; have s1 := keepA hb4 r1; have s2 := keepA hb4 r2; have s3 := keepA hb4 r3; have s4 := keepA hb4 r4; have s5 := keepA hb4 r5; have s6 := keepA hb4 r6; have l4 := World.block_lt_of_cell? _ _ s3; have HB4 := Lib.hid ((HB3.out.alloc HB3.out.size _).trans (hb4.mono (by simp; have := HB3.out.size; omega))); clear hb4 r0 r1 r2 r3 r4 r5 r6)
            | (go_at_call 51; refine Calls.mono (HST.out _) ?_; rintro e w5 ⟨rfl, hb5⟩; have r0 := cell_keep hb5 s0; have r1 := cell_keep hb5 s1; have r2 := cell_keep hb5 s2; have r3 := cell_keep hb5 s3; have r4 := cell_keep hb5 s4; have r5 := cell_keep hb5 s5; have r6 := cell_keep hb5 s6; have l6 : w.heap.size + 1 + 1 < w5.heap.size := World.block_lt_of_cell? _ _ r5; have l7 : w.heap.size + 1 < w5.heap.size := (by omega); have l8 : w.heap.size < w5.heap.size := (by omega); have HB5 := Lib.hid (HB4.out.trans (hb5.mono HB4.out.size)); clear hb5 s0 s1 s2 s3 s4 s5 s6)
            | (go_at_call 49; refine (within_any 0 16 _ 1 _ _ [(m : Int)] _ rfl (le_maxLen (by omega)) (RI.new1 (by simp))).mono ?_; rintro e w6 ⟨rfl, rfl⟩; rw [GN.out])
            | (go_at_call 52; refine Calls.mono (HH.out _) ?_; rintro e w7 ⟨rfl, hb7⟩; have q5 := keepA hb7 r5; have q6 := keepA hb7 r6; have l9 : w.heap.size + 1 + 1 < w7.heap.size := World.block_lt_of_cell? _ _ q5; have HB7 := Lib.hid ((HB5.out.alloc HB5.out.size _).trans (hb7.mono (by simp; have := HB5.out.size; omega))); clear hb7 r0 r1 r2 r3 r4 r5 r6))
          have hwl0 : WL (w7.alloc (.cells #[.int .i64 N, .int .i64 D, .int .i64 d, .int .i64 a, .int .i64 v, .int .i64 1] 89)) w7.heap.size N D d (swK N D d a v (zG 17) 0) := by show (w7.heap.push _)[w7.heap.size]? = _; simp [swK_zero]
          have HWL0 := Lib.hid hwl0
          have q5' := cell_keep ((Below.refl _ _).alloc (Nat.le_refl _) (.cells #[.int .i64 N, .int .i64 D, .int .i64 d, .int .i64 a, .int .i64 v, .int .i64 1] 89)) q5
          have q6' := cell_keep ((Below.refl _ _).alloc (Nat.le_refl _) (.cells #[.int .i64 N, .int .i64 D, .int .i64 d, .int .i64 a, .int .i64 v, .int .i64 1] 89)) q6
          have HQ := Lib.hid (And.intro q5' q6')
          have HB8 := Lib.hid (HB7.out.alloc HB7.out.size (.cells #[.int .i64 N, .int .i64 D, .int .i64 d, .int .i64 a, .int .i64 v, .int .i64 1] 89))
          have hgw := HB7.out.size
          clear hwl0 q5 q6 q5' q6' l6 l7 l8 HC HSP HST HT HWA HH HB0 HB3 HB4 HB5 HB7
          generalize hgg : w7.heap.size = g at *
          clear hgg
          generalize w7.alloc _ = w8 at *
          go_wp2
          go_loopw [12, 37] (fun c i wr => ∃ k : Nat, k ≤ m + 1 ∧ i = .int .i64 k ∧ c = .int .i64 (calmC (inB N D d a v lo hi) k) ∧ WL wr g N D d (swK N D d a v (zG 17) k) ∧ (wr.cell? ⟨w.heap.size + 1 + 1, 0, none⟩ = some (.int .i64 lo) ∧ wr.cell? ⟨w.heap.size + 1 + 1, 1, none⟩ = some (.int .i64 hi)) ∧ Below w.heap.size w wr) (fun _ i _ => m + 1 - (intOf i).toNat)
          case atStart => exact ⟨0, Nat.zero_le _, rfl, rfl, HWL0.out, HQ.out, HB8.out⟩
          case round =>
            obtain ⟨k, hk, rfl, rfl, hwl, ⟨hc5, hc6⟩, hbw⟩ := hrel
            by_cases hlt : k < m + 1
            · have hbd := HSW.out k (by rw [zG_len]; omega)
              rw [swK_z (m := 17) (by omega) (by omega)] at hbd
              have hsu := swK_succ (N := N) (D := D) (d := d) (a := a) (v := v) (zG_get (show k < 17 by omega))
              have hden := swK_den (N := N) (D := D) (d := d) (a := a) (v := v) (G := zG 17) (k := k) (by rw [zG_len]; omega)
              have hpw := powI_bd d1 d2 k
              have hpw2 := Int.le_trans (hpw.2 (by omega)) (powI_4 (show k ≤ 16 by omega))
              have hp1 := hpw.1
              rw [← hden] at hp1 hpw2
              have hcs : calmC (inB N D d a v lo hi) (k + 1) = if inB N D d a v lo hi k then calmC (inB N D d a v lo hi) k else k + 1 := rfl
              have hib : inB N D d a v lo hi k = (decide (lo * (swK N D d a v (zG 17) k).2.2 ≤ (swK N D d a v (zG 17) k).1) && decide ((swK N D d a v (zG 17) k).1 ≤ hi * (swK N D d a v (zG 17) k).2.2)) := rfl
              have hcl := calmC_le (inB N D d a v lo hi) k
              obtain ⟨⟨pa, pv, pe⟩, hp⟩ : ∃ p, swK N D d a v (zG 17) k = p := ⟨_, rfl⟩
              rw [hp] at hbd hsu hp1 hpw2 hwl hib
              dsimp only at hbd hp1 hpw2 hib
              have HIN := Lib.hid (fun (W : World) (g' : Nat) (hg' : g' < W.heap.size) (hr : RS W (g' + 1) (some ⟨g', 0, none⟩) [(lo, hi)]) => inside1_any pa pe lo hi (some ⟨g', 0, none⟩) 1 (g' + 1) W HVS.out ⟨hp1, hpw2⟩ hg' hr)
              rw [← hib] at HIN
              have HSWI := Lib.hid (fun (W : World) (hW : WL W g N D d (pa, pv, pe)) => swing_any g N D d pa pv pe 0 W HSL.out hbd.1 hbd.2 ⟨hp1, hpw2⟩ (by omega) hW)
              rw [← hsu] at HSWI
              have c3 := cellOf (o := 3) hwl rfl
              have c5 := cellOf (o := 5) hwl rfl
              have HWL := Lib.hid hwl
              have HCC := Lib.hid (And.intro hc5 hc6)
              have HBW := Lib.hid hbw
              have lg := hwl.lt
              have lq : w.heap.size + 1 + 1 < wr.heap.size := World.block_lt_of_cell? _ _ hc5
              have i7 : (k : Int) < (m : Int) + 1 := by omega
              have HCS := Lib.hid hcs
              obtain ⟨bv, hbv⟩ : ∃ b, inB N D d a v lo hi k = b := ⟨_, rfl⟩
              rw [hbv] at HIN
              have HBV := Lib.hid hbv
              have hne : g ≠ w.heap.size + 1 + 1 := by omega
              have HNE := Lib.hid hne
              obtain ⟨ck, hck⟩ : ∃ c, calmC (inB N D d a v lo hi) k = c := ⟨_, rfl⟩
              rw [hck] at hcl
              rw [hck]
              have HCK := Lib.hid hck
              clear hbd hsu hden hpw hpw2 hp1 hib hp hwl hbw hcs hbv hne hck hc5 hc6
              have d5 := HCC.out.1
              have d6 := HCC.out.2
              cases bv <;>
              · go_wp2_with (first
                  | (go_at_call 60; refine Calls.mono (HIN.out _ _ (by simp) (RS.new1 (by simp))) ?_; rintro e w10 ⟨rfl, hb10⟩; have HW10 := Lib.hid ((HWL.out.stay ((Below.refl _ _).alloc (Nat.le_refl _) _)).stay hb10); have HC10 := Lib.hid (And.intro (keepA hb10 HCC.out.1) (keepA hb10 HCC.out.2)); have HB10 := Lib.hid ((HBW.out.alloc HBW.out.size _).trans (hb10.mono (by simp; have := HBW.out.size; omega))); clear hb10 c3 c5 d5 d6)
                  | (go_at_call 53; refine Calls.mono (HSWI.out _ HW10.out) ?_; rintro e w11 ⟨rfl, hw11, hg11⟩; have HW11 := Lib.hid hw11; have HC11 := Lib.hid (And.intro (hg11.cell HC10.out.1 (fun e => HNE.out (by cases e; rfl))) (hg11.cell HC10.out.2 (fun e => HNE.out (by cases e; rfl)))); have HB11 := Lib.hid (HB10.out.grown hg11 HB10.out.size (fun q hq => (by cases hq; exact hgw))); clear hw11 hg11))
                go_roundw
                case rel => exact ⟨k + 1, by omega, by go_num, by rw [HCS.out, HBV.out]; first | exact congrArg _ (congrArg _ HCK.out.symm) | (simp), HW11.out, HC11.out, HB11.out⟩
                case measure => simp [intOf]; omega
            · obtain rfl : k = m + 1 := by omega
              have HBW := Lib.hid hbw
              clear hbw hwl hc5 hc6
              by_cases hcm : calmC (inB N D d a v lo hi) (m + 1) ≤ m
              · have HE := Lib.hid (show da = (calmC (inB N D d a v lo hi) (m + 1) : Int) ∧ db = 0 by have := HD.out; rw [if_pos hcm] at this; cases this; exact ⟨rfl, rfl⟩)
                generalize calmC (inB N D d a v lo hi) (m + 1) = cc at *
                go_wp2
                go_ret2
                exact ⟨by rw [HE.out.1, HE.out.2]; rfl, HBW.out⟩
              · have HE := Lib.hid (show da = 0 ∧ db = 3 by have := HD.out; rw [if_neg hcm] at this; cases this; exact ⟨rfl, rfl⟩)
                generalize calmC (inB N D d a v lo hi) (m + 1) = cc at *
                go_wp2
                go_ret2
                exact ⟨by rw [HE.out.1, HE.out.2]; rfl, HBW.out⟩
        · have GN := Lib.hid (show wB 0 16 [n] = false by rw [wB_one]; simpa using gn)
          rw [calm_1 hsl hvs (by rw [hst]; simpa using gn)]
          clear hsl hvs hst gn
          go_enter Try.func20, Try.ntmps20
          go_upto_region 1 with fail
          rw [HWA.out]
          obtain ⟨⟨t0, t1, t2⟩, ⟨t3, t4⟩, t5, t6⟩ := HT.out
          go_wp2_with (first
            | (go_at_call 15; refine Calls.mono (HC.out _) ?_; rintro e w3 ⟨rfl, hb3⟩; have r5 := cell_keep hb3 t5; have r6 := cell_keep hb3 t6; have r3 := cell_keep hb3 t3; have r4 := cell_keep hb3 t4; have l5 := World.block_lt_of_cell? _ _ r5; have l3 := World.block_lt_of_cell? _ _ r3; have HB3 := Lib.hid (HB0.out.trans (hb3.mono HB0.out.size)); clear hb3 t0 t1 t2 t3 t4 t5 t6)
            | (go_at_call 59; refine Calls.mono (HSP.out _ _ (by simp) (RS.new1 (by simp))) ?_; rintro e w4 ⟨rfl, hb4⟩; have s3 := keepA hb4 r3; have s4 := keepA hb4 r4; have l4 := World.block_lt_of_cell? _ _ s3; have HB4 := Lib.hid ((HB3.out.alloc HB3.out.size _).trans (hb4.mono (by simp; have := HB3.out.size; omega))); clear hb4 r3 r4 r5 r6)
            | (go_at_call 51; refine Calls.mono (HST.out _) ?_; rintro e w5 ⟨rfl, hb5⟩; have HB5 := Lib.hid (HB4.out.trans (hb5.mono HB4.out.size)); clear hb5)
            | (go_at_call 49; refine (within_any 0 16 _ 1 _ _ [n] _ rfl (le_maxLen (by omega)) (RI.new1 (by simp))).mono ?_; rintro e w6 ⟨rfl, rfl⟩; rw [GN.out]))
          go_ret2
          exact ⟨rfl, HB5.out.alloc HB5.out.size _⟩
end Go.Proofs.Ytnnmmojlgikdgaa

/- Calm of the reference. -/
namespace Go.Proofs.Ytnnmmojlgikdgaa
open Go.RowKit

theorem step_makeI {F : Fence} {k : Nat} {w : World} {o : Oper} {a : Act} {K : Act → World → Prop} {Q : Exit → Act → World → Prop} (l c : Operand) (hop : o.op = Op.makeSlice 25 l c)
    (n : Nat) (hl : a.eval l = .int .i64 (n : Int)) (hc : a.eval c = .int .i64 (n : Int)) (hn : n ≤ 1000000)
    (h : K (a.put o.dst (.slice (some ⟨w.heap.size, 0, none⟩) n n)) (w.alloc (.cells (madeCells #[Value.int .i64 0] n) 3))) : o.wpIn F k Try.prog a w K Q := by
  obtain ⟨i0, hi0, hz0, hz1, hz2⟩ := info_parts info_int
  have hrun := run_make (P := Try.prog) w 25 3 i0 (.int .i64 0) Try.underlying25 hi0 hz0 .i64 .i64 n n (by omega) (by omega) (by rw [hz2]; omega) (by omega)
  rw [hz1] at hrun
  simp only [Int.toNat_natCast, Nat.mul_one] at hrun
  unfold Oper.wpIn
  refine ⟨?_, ?_⟩
  · simp [Oper.about, hop]
  · rw [Oper.semAt_plain F _ _ (by rw [hop]; intro c hc'; cases hc')]
    simp only [execOp, hop, hl, hc, hrun, Result.andThen, Sem.run_bind, Sem.run_pure]
    exact h
theorem QI.made (W : World) (n : Nat) : QI (zG n) (.slice (some ⟨W.heap.size, 0, none⟩) n n) (W.alloc (.cells (madeCells #[Value.int .i64 0] n) 3)) := by
  refine ⟨_, n, by rw [zG_len], by rw [zG_len]; exact Nat.le_refl _, ?_⟩
  exact (RW.made W n).ri

def frsN (m k : Nat) : Int := if k = m + 1 then -1 else k
theorem frsN_lt {m k : Nat} (h : k ≤ m) : frsN m k = k := by unfold frsN; rw [if_neg (by omega)]
theorem frsN_top (m : Nat) : frsN m (m + 1) = -1 := by unfold frsN; rw [if_pos rfl]

set_option maxRecDepth 100000 in
set_option maxHeartbeats 2000000 in
theorem rcalm_any (N D d a v n lo hi : Int) (w : World) :
    Calls Try.prog 21 #[.agg #[.int .i64 N, .int .i64 D, .int .i64 d], .agg #[.int .i64 a, .int .i64 v], .int .i64 n, .agg #[.int .i64 lo, .int .i64 hi]] w fun e w' => e = .returned (.tuple #[.int .i64 (calmN N D d a v n lo hi).1, .int .i64 (calmN N D d a v n lo hi).2]) ∧ Below w.heap.size w w' := by
  have HC := Lib.hid (fun W => rslcheck_any N D d W)
  have HV := Lib.hid (fun W => rvalid_any lo hi W)
  rw [← vS_vI lo hi] at HV
  have HST := Lib.hid (fun W => started_any a v W)
  have hT0 : ((((w.alloc (.cells #[.int .i64 N, .int .i64 D, .int .i64 d] 23)).alloc (.cells #[.int .i64 a, .int .i64 v] 24)).alloc (.cells #[.int .i64 lo, .int .i64 hi] 27)).cell? ⟨w.heap.size, 0, none⟩ = some (.int .i64 N) ∧ (((w.alloc (.cells #[.int .i64 N, .int .i64 D, .int .i64 d] 23)).alloc (.cells #[.int .i64 a, .int .i64 v] 24)).alloc (.cells #[.int .i64 lo, .int .i64 hi] 27)).cell? ⟨w.heap.size, 1, none⟩ = some (.int .i64 D) ∧ (((w.alloc (.cells #[.int .i64 N, .int .i64 D, .int .i64 d] 23)).alloc (.cells #[.int .i64 a, .int .i64 v] 24)).alloc (.cells #[.int .i64 lo, .int .i64 hi] 27)).cell? ⟨w.heap.size, 2, none⟩ = some (.int .i64 d)) ∧ ((((w.alloc (.cells #[.int .i64 N, .int .i64 D, .int .i64 d] 23)).alloc (.cells #[.int .i64 a, .int .i64 v] 24)).alloc (.cells #[.int .i64 lo, .int .i64 hi] 27)).cell? ⟨w.heap.size + 1, 0, none⟩ = some (.int .i64 a) ∧ (((w.alloc (.cells #[.int .i64 N, .int .i64 D, .int .i64 d] 23)).alloc (.cells #[.int .i64 a, .int .i64 v] 24)).alloc (.cells #[.int .i64 lo, .int .i64 hi] 27)).cell? ⟨w.heap.size + 1, 1, none⟩ = some (.int .i64 v)) ∧ ((((w.alloc (.cells #[.int .i64 N, .int .i64 D, .int .i64 d] 23)).alloc (.cells #[.int .i64 a, .int .i64 v] 24)).alloc (.cells #[.int .i64 lo, .int .i64 hi] 27)).cell? ⟨w.heap.size + 1 + 1, 0, none⟩ = some (.int .i64 lo) ∧ (((w.alloc (.cells #[.int .i64 N, .int .i64 D, .int .i64 d] 23)).alloc (.cells #[.int .i64 a, .int .i64 v] 24)).alloc (.cells #[.int .i64 lo, .int .i64 hi] 27)).cell? ⟨w.heap.size + 1 + 1, 1, none⟩ = some (.int .i64 hi)) := by
    refine ⟨⟨?_, ?_, ?_⟩, ⟨?_, ?_⟩, ?_, ?_⟩ <;> go_simp
  have hb0 : Below w.heap.size w (((w.alloc (.cells #[.int .i64 N, .int .i64 D, .int .i64 d] 23)).alloc (.cells #[.int .i64 a, .int .i64 v] 24)).alloc (.cells #[.int .i64 lo, .int .i64 hi] 27)) := by go_grown
  obtain ⟨wA, hwA⟩ : ∃ x, (((w.alloc (.cells #[.int .i64 N, .int .i64 D, .int .i64 d] 23)).alloc (.cells #[.int .i64 a, .int .i64 v] 24)).alloc (.cells #[.int .i64 lo, .int .i64 hi] 27)) = x := ⟨_, rfl⟩
  rw [hwA] at hT0 hb0
  have HB0 := Lib.hid hb0
  have HT := Lib.hid hT0
  clear hT0 hb0
  have HWA := Lib.hid hwA
  clear hwA
  cases hsl : slB N D d with
  | false =>
    rw [slE_no hsl] at HC
    rw [calm_70 hsl]
    clear hsl
    go_enter Try.func21, Try.ntmps21
    go_upto_region 1 with fail
    rw [HWA.out]
    obtain ⟨⟨t0, t1, t2⟩, ⟨t3, t4⟩, t5, t6⟩ := HT.out
    go_wp2_with (go_at_call 16; refine Calls.mono (HC.out _) ?_; rintro e w3 ⟨rfl, hb3⟩; have HB3 := Lib.hid (HB0.out.trans (hb3.mono HB0.out.size)); clear hb3)
    go_ret2
    exact ⟨rfl, HB3.out⟩
  | true =>
    rw [slE_yes hsl] at HC
    cases hvs : vS (lo, hi) with
    | false =>
      rw [hvs] at HV
      rw [calm_10 hsl hvs]
      clear hsl hvs
      go_enter Try.func21, Try.ntmps21
      go_upto_region 1 with fail
      rw [HWA.out]
      obtain ⟨⟨t0, t1, t2⟩, ⟨t3, t4⟩, t5, t6⟩ := HT.out
      go_wp2_with (first
        | (go_at_call 16; refine Calls.mono (HC.out _) ?_; rintro e w3 ⟨rfl, hb3⟩; have r5 := cell_keep hb3 t5; have r6 := cell_keep hb3 t6; have l5 := World.block_lt_of_cell? _ _ r5; have HB3 := Lib.hid (HB0.out.trans (hb3.mono HB0.out.size)); clear hb3 t0 t1 t2 t3 t4 t5 t6)
        | (go_at_call 61; refine Calls.mono (HV.out _) ?_; rintro e w4 ⟨rfl, hb4⟩; have HB4 := Lib.hid (HB3.out.trans (hb4.mono HB3.out.size)); clear hb4))
      go_ret2
      exact ⟨rfl, HB4.out⟩
    | true =>
      rw [hvs] at HV
      cases hst : staB a v with
      | false =>
        rw [hst] at HST
        rw [calm_1 hsl hvs (by rw [hst]; rfl)]
        clear hsl hvs hst
        go_enter Try.func21, Try.ntmps21
        go_upto_region 1 with fail
        rw [HWA.out]
        obtain ⟨⟨t0, t1, t2⟩, ⟨t3, t4⟩, t5, t6⟩ := HT.out
        go_wp2_with (first
          | (go_at_call 16; refine Calls.mono (HC.out _) ?_; rintro e w3 ⟨rfl, hb3⟩; have r5 := cell_keep hb3 t5; have r6 := cell_keep hb3 t6; have r3 := cell_keep hb3 t3; have r4 := cell_keep hb3 t4; have l5 := World.block_lt_of_cell? _ _ r5; have l3 := World.block_lt_of_cell? _ _ r3; have HB3 := Lib.hid (HB0.out.trans (hb3.mono HB0.out.size)); clear hb3 t0 t1 t2 t3 t4 t5 t6)
          | (go_at_call 61; refine Calls.mono (HV.out _) ?_; rintro e w4 ⟨rfl, hb4⟩; have s3 := cell_keep hb4 r3; have s4 := cell_keep hb4 r4; have l4 := World.block_lt_of_cell? _ _ s3; have HB4 := Lib.hid (HB3.out.trans (hb4.mono HB3.out.size)); clear hb4 r3 r4 r5 r6)
          | (go_at_call 55; refine Calls.mono (HST.out _) ?_; rintro e w5 ⟨rfl, hb5⟩; have HB5 := Lib.hid (HB4.out.trans (hb5.mono HB4.out.size)); clear hb5))
        go_ret2
        exact ⟨rfl, HB5.out⟩
      | true =>
        rw [hst] at HST
        by_cases gn : 0 ≤ n ∧ n ≤ 16
        · obtain ⟨m, rfl⟩ : ∃ m : Nat, n = (m : Int) := ⟨n.toNat, by omega⟩
          have GN := Lib.hid (w7_yes gn.1 gn.2)
          have hm : m ≤ 16 := by omega
          rw [calm_ok hsl hvs hst hm]
          obtain ⟨⟨da, db⟩, hd⟩ : ∃ r : Int × Int, (if calmC (inB N D d a v lo hi) (m + 1) ≤ m then ((calmC (inB N D d a v lo hi) (m + 1) : Int), (0 : Int)) else (0, 3)) = r := ⟨_, rfl⟩
          rw [hd]
          have HD := Lib.hid hd
          have HSW := Lib.hid (swB_all (N := N) (D := D) (d := d) (a := a) (v := v) (G := zG m) hsl hst (zG_wB m) (by rw [zG_len]; omega))
          have HSU := Lib.hid (fun (A9 : Option Addr) (c9 : Nat) (W : World) (hr : RI W W.heap.size A9 (zG m)) => swung_any N D d a v A9 m c9 W.heap.size (zG m) W hsl (zG_len m) hm (zG_wB m) HSW.out (Nat.le_refl _) hr)
          obtain ⟨⟨d1, d2⟩, _, _⟩ := slB_get hsl
          obtain ⟨hlh, hlo, hhi⟩ := vS_get hvs
          clear hd hsl hvs hst gn
          go_enter Try.func21, Try.ntmps21
          go_upto_region 1 with fail
          rw [HWA.out]
          obtain ⟨⟨t0, t1, t2⟩, ⟨t3, t4⟩, t5, t6⟩ := HT.out
          go_upto_region 8 with (first
            | (go_at_call 16; refine Calls.mono (HC.out _) ?_; rintro e w3 ⟨rfl, hb3⟩; have r0 := cell_keep hb3 t0; have r1 := cell_keep hb3 t1; have r2 := cell_keep hb3 t2; have r5 := cell_keep hb3 t5; have r6 := cell_keep hb3 t6; have r3 := cell_keep hb3 t3; have r4 := cell_keep hb3 t4; have l5 := World.block_lt_of_cell? _ _ r5; have l3 := World.block_lt_of_cell? _ _ r3; have HB3 := Lib.hid (HB0.out.trans (hb3.mono HB0.out.size)); clear hb3 t0 t1 t2 t3 t4 t5 t6)
            | (go_at_call 61; refine Calls.mono (HV.out _) ?_; rintro e w4 ⟨rfl, hb4⟩; have s0 := cell_keep hb4 r0; have s1 := cell_keep hb4 r1; have s2 := cell_keep hb4 r2; have s3 := cell_keep hb4 r3; have s4 := cell_keep hb4 r4; have s5 := cell_keep hb4 r5; have s6 := cell_keep hb4 r6; have l4 := World.block_lt_of_cell? _ _ s3; have HB4 := Lib.hid (HB3.out.trans (hb4.mono HB3.out.size)); clear hb4 r0 r1 r2 r3 r4 r5 r6)
            | (go_at_call 55; refine Calls.mono (HST.out _) ?_; rintro e w5 ⟨rfl, hb5⟩; have r0 := cell_keep hb5 s0; have r1 := cell_keep hb5 s1; have r2 := cell_keep hb5 s2; have r3 := cell_keep hb5 s3; have r4 := cell_keep hb5 s4; have r5 := cell_keep hb5 s5; have r6 := cell_keep hb5 s6; have l6 : w.heap.size + 1 + 1 < w5.heap.size := World.block_lt_of_cell? _ _ r5; have l7 : w.heap.size + 1 < w5.heap.size := (by omega); have l8 : w.heap.size < w5.heap.size := (by omega); have HB5 := Lib.hid (HB4.out.trans (hb5.mono HB4.out.size)); clear hb5 s0 s1 s2 s3 s4 s5 s6)
            | (go_at_call 50; refine Calls.mono (GN.out _) ?_; rintro e w6 ⟨rfl, rfl⟩))
          have hml : m ≤ 1000000 := by omega
          clear HC HV HST HT HWA HB0 HB3 HB4
          obtain ⟨Q, hQ⟩ : ∃ q9 : Nat → Value → World → Prop, q9 = QG [some (.agg #[.int .i64 N, .int .i64 D, .int .i64 d]), some (.pointer (some ⟨w.heap.size + 1, 0, none⟩)), some (.int .i64 a), some (.pointer (some ⟨w.heap.size + 1, 1, none⟩)), some (.int .i64 v), some (.int .i64 ((m : Int))), none, none, none] (fun j0' v0' w0' => (j0' = 6 → QI (zG m) v0' w0') ∧ (j0' = 7 → QI (swList N D d a v (zG m) m) v0' w0') ∧ (j0' = 8 → QI (swList N D d a v (zG m) m) v0' w0')) := ⟨_, rfl⟩
          have hst : Stays Q := by rw [hQ]; exact QG.stays (fun j v W W' h hb => ⟨fun e => (h.1 e).stay hb, fun e => (h.2.1 e).stay hb, fun e => (h.2.2 e).stay hb⟩)
          have u0 : ∀ v0' w0', Q 0 v0' w0' ↔ v0' = .agg #[.int .i64 N, .int .i64 D, .int .i64 d] := fun v0' w0' => by rw [hQ]; exact Iff.rfl
          have u1 : ∀ v0' w0', Q 1 v0' w0' ↔ v0' = .pointer (some ⟨w.heap.size + 1, 0, none⟩) := fun v0' w0' => by rw [hQ]; exact Iff.rfl
          have u2 : ∀ v0' w0', Q 2 v0' w0' ↔ v0' = .int .i64 a := fun v0' w0' => by rw [hQ]; exact Iff.rfl
          have u3 : ∀ v0' w0', Q 3 v0' w0' ↔ v0' = .pointer (some ⟨w.heap.size + 1, 1, none⟩) := fun v0' w0' => by rw [hQ]; exact Iff.rfl
          have u4 : ∀ v0' w0', Q 4 v0' w0' ↔ v0' = .int .i64 v := fun v0' w0' => by rw [hQ]; exact Iff.rfl
          have u5 : ∀ v0' w0', Q 5 v0' w0' ↔ v0' = .int .i64 ((m : Int)) := fun v0' w0' => by rw [hQ]; exact Iff.rfl
          have u6 : ∀ v0' w0', Q 6 v0' w0' ↔ QI (zG m) v0' w0' := fun v0' w0' => by rw [hQ]; exact ⟨fun h => h.1 rfl, fun h => ⟨fun _ => h, fun e => absurd e (by decide), fun e => absurd e (by decide)⟩⟩
          have u7 : ∀ v0' w0', Q 7 v0' w0' ↔ QI (swList N D d a v (zG m) m) v0' w0' := fun v0' w0' => by rw [hQ]; exact ⟨fun h => h.2.1 rfl, fun h => ⟨fun e => absurd e (by decide), fun _ => h, fun e => absurd e (by decide)⟩⟩
          have u8 : ∀ v0' w0', Q 8 v0' w0' ↔ QI (swList N D d a v (zG m) m) v0' w0' := fun v0' w0' => by rw [hQ]; exact ⟨fun h => h.2.2 rfl, fun h => ⟨fun e => absurd e (by decide), fun e => absurd e (by decide), fun _ => h⟩⟩
          have U0 := Lib.hid u0
          have U1 := Lib.hid u1
          have U2 := Lib.hid u2
          have U3 := Lib.hid u3
          have U4 := Lib.hid u4
          have U5 := Lib.hid u5
          have U6 := Lib.hid u6
          have U7 := Lib.hid u7
          have U8 := Lib.hid u8
          clear u0 u1 u2 u3 u4 u5 u6 u7 u8 hQ
          refine wpIn_wide.1 (region_inv2 (n := 9) (by kernel_rfl) (RQ Q w5) (by kernel_rfl) rfl (RQ.start _ _ _) ?hstep ?hend)
          case hstep =>
            intro i' o ho val L b' x hF hR hpre hl
            match i', ho with
            | 0, ho =>
              simp at ho
              subst ho
              refine step_plain rfl ?_
              have e4 := hF.was 4 (by kernel_rfl) rfl
              have hgoal : ∀ v0' w0', Below x.heap.size x w0' → v0' = .agg #[.int .i64 N, .int .i64 D, .int .i64 d] → RQ Q w5 (upd val 0 v0') (L.setIfInBounds 0 true) w0' := fun v0' w0' hb hq => hR.step hst hb ((U0.out _ _).2 hq)
              have q0 := cell_keep hR.1 r0
              have q1 := cell_keep hR.1 r1
              have q2 := cell_keep hR.1 r2
              clear hF hpre hl hR
              go_simp
              exact ⟨_, rfl, hgoal _ _ (Below.refl _ _) rfl⟩
            | 1, ho =>
              simp at ho
              subst ho
              refine step_plain rfl ?_
              have e5 := hF.was 5 (by kernel_rfl) rfl
              have hgoal : ∀ v0' w0', Below x.heap.size x w0' → v0' = .pointer (some ⟨w.heap.size + 1, 0, none⟩) → RQ Q w5 (upd val 1 v0') (L.setIfInBounds 1 true) w0' := fun v0' w0' hb hq => hR.step hst hb ((U1.out _ _).2 hq)
              clear hF hpre hl hR
              go_simp
              exact ⟨_, rfl, hgoal _ _ (Below.refl _ _) rfl⟩
            | 2, ho =>
              simp at ho
              subst ho
              refine step_plain rfl ?_
              have e32 := hF.gave 1 rfl (hpre ⟨1, .data⟩ (by simp) rfl) rfl
              rw [(U1.out _ _).1 (hR.2 1 (hpre ⟨1, .data⟩ (by simp) rfl))] at e32
              have hgoal : ∀ v0' w0', Below x.heap.size x w0' → v0' = .int .i64 a → RQ Q w5 (upd val 2 v0') (L.setIfInBounds 2 true) w0' := fun v0' w0' hb hq => hR.step hst hb ((U2.out _ _).2 hq)
              have q0 := cell_keep hR.1 r3
              clear hF hpre hl hR
              go_simp
              exact ⟨_, rfl, hgoal _ _ (Below.refl _ _) rfl⟩
            | 3, ho =>
              simp at ho
              subst ho
              refine step_plain rfl ?_
              have e5 := hF.was 5 (by kernel_rfl) rfl
              have hgoal : ∀ v0' w0', Below x.heap.size x w0' → v0' = .pointer (some ⟨w.heap.size + 1, 1, none⟩) → RQ Q w5 (upd val 3 v0') (L.setIfInBounds 3 true) w0' := fun v0' w0' hb hq => hR.step hst hb ((U3.out _ _).2 hq)
              clear hF hpre hl hR
              go_simp
              exact ⟨_, rfl, hgoal _ _ (Below.refl _ _) rfl⟩
            | 4, ho =>
              simp at ho
              subst ho
              refine step_plain rfl ?_
              have e34 := hF.gave 3 rfl (hpre ⟨3, .data⟩ (by simp) rfl) rfl
              rw [(U3.out _ _).1 (hR.2 3 (hpre ⟨3, .data⟩ (by simp) rfl))] at e34
              have hgoal : ∀ v0' w0', Below x.heap.size x w0' → v0' = .int .i64 v → RQ Q w5 (upd val 4 v0') (L.setIfInBounds 4 true) w0' := fun v0' w0' hb hq => hR.step hst hb ((U4.out _ _).2 hq)
              have q0 := cell_keep hR.1 r4
              clear hF hpre hl hR
              go_simp
              exact ⟨_, rfl, hgoal _ _ (Below.refl _ _) rfl⟩
            | 5, ho =>
              simp at ho
              subst ho
              refine step_plain rfl ?_
              have e2 := hF.was 2 (by kernel_rfl) rfl
              have hgoal : ∀ v0' w0', Below x.heap.size x w0' → v0' = .int .i64 ((m : Int)) → RQ Q w5 (upd val 5 v0') (L.setIfInBounds 5 true) w0' := fun v0' w0' hb hq => hR.step hst hb ((U5.out _ _).2 hq)
              clear hF hpre hl hR
              go_simp
              exact ⟨_, rfl, hgoal _ _ (Below.refl _ _) rfl⟩
            | 6, ho =>
              simp at ho
              subst ho
              refine step_plain rfl ?_
              have e36 := hF.gave 5 rfl (hpre ⟨5, .data⟩ (by simp) rfl) rfl
              rw [(U5.out _ _).1 (hR.2 5 (hpre ⟨5, .data⟩ (by simp) rfl))] at e36
              have hgoal : ∀ v0' w0', Below x.heap.size x w0' → QI (zG m) v0' w0' → RQ Q w5 (upd val 6 v0') (L.setIfInBounds 6 true) w0' := fun v0' w0' hb hq => hR.step hst hb ((U6.out _ _).2 hq)
              have hM := Lib.hid hR.1
              clear hF hpre hl hR
              refine step_makeI (.tmp 36) (.tmp 36) rfl m (by simpa [Act.eval] using e36) (by simpa [Act.eval] using e36) hml ?_
              exact ⟨_, rfl, hgoal _ _ ((Below.refl _ _).alloc (Nat.le_refl _) _) (QI.made _ _)⟩
            | 7, ho =>
              simp at ho
              subst ho
              refine step_plain rfl ?_
              have e31 := hF.gave 0 rfl (hpre ⟨0, .data⟩ (by simp) rfl) rfl
              rw [(U0.out _ _).1 (hR.2 0 (hpre ⟨0, .data⟩ (by simp) rfl))] at e31
              have e33 := hF.gave 2 rfl (hpre ⟨2, .data⟩ (by simp) rfl) rfl
              rw [(U2.out _ _).1 (hR.2 2 (hpre ⟨2, .data⟩ (by simp) rfl))] at e33
              have e35 := hF.gave 4 rfl (hpre ⟨4, .data⟩ (by simp) rfl) rfl
              rw [(U4.out _ _).1 (hR.2 4 (hpre ⟨4, .data⟩ (by simp) rfl))] at e35
              have e37 := hF.gave 6 rfl (hpre ⟨6, .data⟩ (by simp) rfl) rfl
              have v6 := (U6.out _ _).1 (hR.2 6 (hpre ⟨6, .data⟩ (by simp) rfl))
              have hgoal : ∀ v0' w0', Below x.heap.size x w0' → QI (swList N D d a v (zG m) m) v0' w0' → RQ Q w5 (upd val 7 v0') (L.setIfInBounds 7 true) w0' := fun v0' w0' hb hq => hR.step hst hb ((U7.out _ _).2 hq)
              have hM := Lib.hid hR.1
              clear hF hpre hl hR
              obtain ⟨A9, c9, h9, _, hr9⟩ := v6
              rw [zG_len] at h9
              rw [h9] at e37
              go_simp
              refine ⟨trivial, ?_⟩
              refine CallsIn.mono (callsIn_wide.2 (HSU.out A9 c9 _ hr9)) ?_
              rintro e w9 ⟨u9, rfl, hu9, hb9⟩
              exact ⟨_, rfl, hgoal _ _ hb9 hu9⟩
            | 8, ho =>
              simp at ho
              subst ho
              refine step_plain rfl ?_
              have e38 := hF.gave 7 rfl (hpre ⟨7, .data⟩ (by simp) rfl) rfl
              have v7 := (U7.out _ _).1 (hR.2 7 (hpre ⟨7, .data⟩ (by simp) rfl))
              have hgoal : ∀ v0' w0', Below x.heap.size x w0' → QI (swList N D d a v (zG m) m) v0' w0' → RQ Q w5 (upd val 8 v0') (L.setIfInBounds 8 true) w0' := fun v0' w0' hb hq => hR.step hst hb ((U8.out _ _).2 hq)
              have hM := Lib.hid hR.1
              clear hF hpre hl hR
              go_simp
              exact ⟨_, rfl, hgoal _ _ (Below.refl _ _) v7⟩
            | i + 9, ho => simp at ho
          case hend =>
            intro val L b' x hF hall hR
            have e := hF.all (by kernel_rfl) hall
            have k8 := (U8.out _ _).1 (hR.2 8 (hall 8 (by decide)))
            have hB := Lib.hid hR.1
            clear hF hall hR hst U0 U1 U2 U3 U4 U5 U6 U7 U8
            subst e
            simp [final, dstOf, List.range, List.range.loop]
            obtain ⟨A9, c9, h9, _, hr9⟩ := k8
            rw [swList_len] at h9
            rw [h9]
            have HR9 := Lib.hid hr9
            have HB6 := Lib.hid (HB5.out.trans (hB.out.mono HB5.out.size))
            have q2 := cell_keep hB.out r2
            have q5 := cell_keep hB.out r5
            have q6 := cell_keep hB.out r6
            have HQ := Lib.hid (And.intro q2 (And.intro q5 q6))
            clear r0 r1 r2 r3 r4 r5 r6 l3 l4 l5 l6 l7 l8 hr9 h9 q2 q5 q6 hB HB5 HSU
            go_wp2
            generalize val 0 = z0, val 1 = z1, val 2 = z2, val 3 = z3, val 4 = z4, val 5 = z5, val 6 = z6, val 7 = z7
            go_loopw [12, 13] (fun f t wr => ∃ k : Nat, k ≤ m + 1 ∧ t = .int .i64 ((k : Int) - 1) ∧ f = .int .i64 (frsN m k) ∧ (∀ j, k ≤ j → j < m + 1 → inB N D d a v lo hi j = true) ∧ Below x.heap.size x wr) (fun _ t _ => (intOf t + 1).toNat)
            case atStart => exact ⟨m + 1, Nat.le_refl _, by go_num, by rw [frsN_top], fun j h1 h2 => by omega, Below.refl _ _⟩
            case round =>
              obtain ⟨k, hk, rfl, rfl, hall, hbw⟩ := hrel
              have HALL := Lib.hid hall
              have HBW := Lib.hid hbw
              clear hall hbw
              cases k with
              | zero =>
                have HF := Lib.hid (frsN_lt (m := m) (k := 0) (by omega))
                have hcc : calmC (inB N D d a v lo hi) (m + 1) = 0 := by
                  have := calmC_all (p := inB N D d a v lo hi) (t := 0) (m + 1) (fun j h1 h2 => HALL.out j h1 (by omega))
                  rw [Nat.zero_add] at this
                  exact this
                have HE := Lib.hid (show da = 0 ∧ db = 0 by have := HD.out; rw [hcc, if_pos (by omega)] at this; cases this; exact ⟨rfl, rfl⟩)
                rw [HF.out]
                simp only [Int.natCast_zero]
                go_wp2
                go_ret2
                exact ⟨by rw [HE.out.1, HE.out.2]; rfl, HB6.out.trans (HBW.out.mono HB6.out.size)⟩
              | succ t =>
                rw [show (((t + 1 : Nat) : Int) - 1) = (t : Int) by omega]
                obtain ⟨b9, o9, x9, rfl, hb9, hx9, hc9⟩ := (HR9.out.below HBW.out).at_ (k := t) (by rw [swList_len]; omega)
                rw [swList_get (by omega)] at hx9
                cases hx9
                have c2 := cell_keep HBW.out HQ.out.1
                have c5 := cell_keep HBW.out HQ.out.2.1
                have c6 := cell_keep HBW.out HQ.out.2.2
                have hbd := HSW.out t (by rw [zG_len]; omega)
                have hden := swK_den (N := N) (D := D) (d := d) (a := a) (v := v) (G := zG m) (k := t) (by rw [zG_len]; omega)
                have hpw := powI_bd d1 d2 t
                have hpw2 := Int.le_trans (hpw.2 (by omega)) (powI_4 (show t ≤ 16 by omega))
                have hp1 := hpw.1
                have HPO := Lib.hid (fun W => power_any d t W d1 d2 (by omega))
                have hib : inB N D d a v lo hi t = (decide (lo * (swK N D d a v (zG 17) t).2.2 ≤ (swK N D d a v (zG 17) t).1) && decide ((swK N D d a v (zG 17) t).1 ≤ hi * (swK N D d a v (zG 17) t).2.2)) := rfl
                rw [← swK_z (n := m) (by omega) (by omega)] at hib
                rw [← hden] at hp1 hpw2 HPO
                obtain ⟨⟨pa, pv, pe⟩, hp⟩ : ∃ p, swK N D d a v (zG m) t = p := ⟨_, rfl⟩
                rw [hp] at hbd hp1 hpw2 hib hc9 HPO
                dsimp only at hbd hp1 hpw2 hib hc9 HPO
                obtain ⟨p1, hp1'⟩ : ∃ x, lo * pe = x := ⟨_, rfl⟩
                obtain ⟨p2, hp2'⟩ : ∃ x, hi * pe = x := ⟨_, rfl⟩
                have b1 := mul_bd (a := pe) (A := 4294967296) (u := lo) (M := 1000000) (by omega) hpw2 hlo (by omega) (by omega)
                have b2 := mul_bd (a := pe) (A := 4294967296) (u := hi) (M := 1000000) (by omega) hpw2 (by omega) hhi (by omega)
                rw [show pe * lo = p1 by rw [Int.mul_comm]; exact hp1'] at b1
                rw [show pe * hi = p2 by rw [Int.mul_comm]; exact hp2'] at b2
                have i1 : IntKind.i64.wrap (lo * pe) = p1 := by rw [hp1']; exact IntWalk.i64_in _ (by omega)
                have i2 : IntKind.i64.wrap (hi * pe) = p2 := by rw [hp2']; exact IntWalk.i64_in _ (by omega)
                rw [hp1', hp2'] at hib
                have i3 : (t : Int) < ((m + 1 : Nat) : Int) := by omega
                have i4 : (0 : Int) ≤ (t : Int) := by omega
                have i5 : t < m + 1 := by omega
                have i6 : b9 < wr.heap.size := World.block_lt_of_cell? _ _ hc9
                have i7 : w.heap.size < wr.heap.size := World.block_lt_of_cell? _ _ c2
                have i8 : w.heap.size + 1 + 1 < wr.heap.size := World.block_lt_of_cell? _ _ c5
                have hcs : inB N D d a v lo hi t = false → calmC (inB N D d a v lo hi) (m + 1) = t + 1 := fun hf => by
                  have h1 := calmC_all (p := inB N D d a v lo hi) (t := t + 1) (m - t) (fun j h1 h2 => HALL.out j h1 (by omega))
                  rw [show t + 1 + (m - t) = m + 1 by omega] at h1
                  rw [h1]
                  show (if inB N D d a v lo hi t then _ else t + 1) = _
                  rw [hf]
                  rfl
                have HCS := Lib.hid hcs
                have HIB := Lib.hid hib
                clear hcs hib hbd hden hpw hp hp1' hp2' b1 b2
                by_cases g : p1 ≤ pa ∧ pa ≤ p2
                · obtain ⟨g1, g2⟩ := g
                  have HI := Lib.hid (show inB N D d a v lo hi t = true by rw [HIB.out]; simp [g1, g2])
                  have j1 : decide (pa < p1) = false := decide_eq_false (by omega)
                  have j2 : decide (p2 < pa) = false := decide_eq_false (by omega)
                  have HF := Lib.hid (frsN_lt (m := m) (k := t) (by omega))
                  go_upto_region 14 with (go_at_call 58; refine Calls.mono (HPO.out _) ?_; rintro e w7 ⟨rfl, rfl⟩)
                  go_quiet (fail)
                  go_wp2
                  go_roundw
                  case rel => exact ⟨t, by omega, by go_num, by rw [HF.out], fun j h1 h2 => by
                    by_cases e : j = t
                    · rw [e]; exact HI.out
                    · exact HALL.out j (by omega) h2, below_drewN HBW.out _⟩
                  case measure => simp [intOf] <;> omega
                · have HI := Lib.hid (show inB N D d a v lo hi t = false by
                    rw [HIB.out]
                    simp only [Bool.and_eq_false_iff, decide_eq_false_iff_not]
                    omega)
                  have hcv := HCS.out HI.out
                  by_cases htm : t = m
                  · have HE := Lib.hid (show da = 0 ∧ db = 3 by have := HD.out; rw [hcv, if_neg (by omega)] at this; cases this; exact ⟨rfl, rfl⟩)
                    rw [show frsN m (t + 1) = -1 by rw [htm]; exact frsN_top m]
                    clear htm hcv
                    by_cases g1 : pa < p1
                    · have j1 : decide (pa < p1) = true := by simp [g1]
                      clear g
                      go_upto_region 14 with (go_at_call 58; refine Calls.mono (HPO.out _) ?_; rintro e w7 ⟨rfl, rfl⟩)
                      go_quiet (fail)
                      go_wp2
                      go_ret2
                      exact ⟨by rw [HE.out.1, HE.out.2]; rfl, HB6.out.trans ((below_drewN HBW.out _).mono HB6.out.size)⟩
                    · have g2 : p2 < pa := by omega
                      have j1 : decide (pa < p1) = false := decide_eq_false (by omega)
                      have j2 : decide (p2 < pa) = true := by simp [g2]
                      clear g
                      go_upto_region 14 with (go_at_call 58; refine Calls.mono (HPO.out _) ?_; rintro e w7 ⟨rfl, rfl⟩)
                      go_quiet (fail)
                      go_wp2
                      go_ret2
                      exact ⟨by rw [HE.out.1, HE.out.2]; rfl, HB6.out.trans ((below_drewN HBW.out _).mono HB6.out.size)⟩
                  · have HE := Lib.hid (show da = ((t + 1 : Nat) : Int) ∧ db = 0 by have := HD.out; rw [hcv, if_pos (by omega)] at this; cases this; exact ⟨rfl, rfl⟩)
                    rw [frsN_lt (show t + 1 ≤ m by omega)]
                    have hnn : ¬ (((t + 1 : Nat) : Int) < 0) := by omega
                    generalize ((t + 1 : Nat) : Int) = t1 at *
                    clear htm hcv
                    by_cases g1 : pa < p1
                    · have j1 : decide (pa < p1) = true := by simp [g1]
                      clear g
                      go_upto_region 14 with (go_at_call 58; refine Calls.mono (HPO.out _) ?_; rintro e w7 ⟨rfl, rfl⟩)
                      go_quiet (fail)
                      go_wp2
                      go_ret2
                      exact ⟨by rw [HE.out.1, HE.out.2]; rfl, HB6.out.trans ((below_drewN HBW.out _).mono HB6.out.size)⟩
                    · have g2 : p2 < pa := by omega
                      have j1 : decide (pa < p1) = false := decide_eq_false (by omega)
                      have j2 : decide (p2 < pa) = true := by simp [g2]
                      clear g
                      go_upto_region 14 with (go_at_call 58; refine Calls.mono (HPO.out _) ?_; rintro e w7 ⟨rfl, rfl⟩)
                      go_quiet (fail)
                      go_wp2
                      go_ret2
                      exact ⟨by rw [HE.out.1, HE.out.2]; rfl, HB6.out.trans ((below_drewN HBW.out _).mono HB6.out.size)⟩
        · have GN := Lib.hid (w7_no gn)
          rw [calm_1 hsl hvs (by rw [hst]; simpa using gn)]
          clear hsl hvs hst gn
          go_enter Try.func21, Try.ntmps21
          go_upto_region 1 with fail
          rw [HWA.out]
          obtain ⟨⟨t0, t1, t2⟩, ⟨t3, t4⟩, t5, t6⟩ := HT.out
          go_wp2_with (first
            | (go_at_call 16; refine Calls.mono (HC.out _) ?_; rintro e w3 ⟨rfl, hb3⟩; have r5 := cell_keep hb3 t5; have r6 := cell_keep hb3 t6; have r3 := cell_keep hb3 t3; have r4 := cell_keep hb3 t4; have l5 := World.block_lt_of_cell? _ _ r5; have l3 := World.block_lt_of_cell? _ _ r3; have HB3 := Lib.hid (HB0.out.trans (hb3.mono HB0.out.size)); clear hb3 t0 t1 t2 t3 t4 t5 t6)
            | (go_at_call 61; refine Calls.mono (HV.out _) ?_; rintro e w4 ⟨rfl, hb4⟩; have s3 := cell_keep hb4 r3; have s4 := cell_keep hb4 r4; have l4 := World.block_lt_of_cell? _ _ s3; have HB4 := Lib.hid (HB3.out.trans (hb4.mono HB3.out.size)); clear hb4 r3 r4 r5 r6)
            | (go_at_call 55; refine Calls.mono (HST.out _) ?_; rintro e w5 ⟨rfl, hb5⟩; have HB5 := Lib.hid (HB4.out.trans (hb5.mono HB4.out.size)); clear hb5)
            | (go_at_call 50; refine Calls.mono (GN.out _) ?_; rintro e w6 ⟨rfl, rfl⟩))
          go_ret2
          exact ⟨rfl, HB5.out⟩
end Go.Proofs.Ytnnmmojlgikdgaa

/- The law of the swings. -/
namespace Go.Proofs.Ytnnmmojlgikdgaa
open Go.RowKit

/-- A sling and a swing in their boxes. -/
structure AS7 (w W : World) (N D d a v : Int) (A : Option Addr) (n c : Nat) (m lo hi : Int) : Prop where
  s0 : W.cell? ⟨w.heap.size, 0, none⟩ = some (.int .i64 N)
  s1 : W.cell? ⟨w.heap.size, 1, none⟩ = some (.int .i64 D)
  s2 : W.cell? ⟨w.heap.size, 2, none⟩ = some (.int .i64 d)
  x0 : W.cell? ⟨w.heap.size + 1, 0, none⟩ = some (.int .i64 a)
  x1 : W.cell? ⟨w.heap.size + 1, 1, none⟩ = some (.int .i64 v)
  x2 : W.cell? ⟨w.heap.size + 1, 2, none⟩ = some (.slice A n c)
  x3 : W.cell? ⟨w.heap.size + 1, 3, none⟩ = some (.int .i64 m)
  x4 : W.cell? ⟨w.heap.size + 1, 4, none⟩ = some (.int .i64 lo)
  x5 : W.cell? ⟨w.heap.size + 1, 5, none⟩ = some (.int .i64 hi)
  l : w.heap.size + 1 < W.heap.size
  b : Below w.heap.size w W
section
variable {w W W' : World} {N D d a v m lo hi : Int} {A : Option Addr} {n c : Nat}
theorem AS7.next (h : AS7 w W N D d a v A n c m lo hi) (hb : Below W.heap.size W W') : AS7 w W' N D d a v A n c m lo hi :=
  ⟨cell_keep hb h.s0, cell_keep hb h.s1, cell_keep hb h.s2, cell_keep hb h.x0, cell_keep hb h.x1, cell_keep hb h.x2, cell_keep hb h.x3, cell_keep hb h.x4, cell_keep hb h.x5, Nat.lt_of_lt_of_le h.l hb.size, h.b.trans (hb.mono h.b.size)⟩
theorem AS7.start (w : World) (T T' : TypeId) : AS7 w ((w.alloc (.cells #[.int .i64 N, .int .i64 D, .int .i64 d] T)).alloc (.cells #[.int .i64 a, .int .i64 v, .slice A n c, .int .i64 m, .int .i64 lo, .int .i64 hi] T')) N D d a v A n c m lo hi :=
  ⟨by go_simp, by go_simp, by go_simp, by go_simp, by go_simp, by go_simp, by go_simp, by go_simp, by go_simp, by simp, by go_grown⟩
end

set_option maxRecDepth 100000 in
set_option maxHeartbeats 1000000 in
theorem law_swings (wk : WK7) (w : World) (N D d a v : Int) (A : Option Addr) (n c : Nat) (m lo hi : Int) (G : List Int) (hl : G.length = n) (hn : n ≤ maxLen) (hr : RI w w.heap.size A G) :
    Calls Try.prog 3 #[.agg #[.int .i64 N, .int .i64 D, .int .i64 d], .agg #[.int .i64 a, .int .i64 v, .slice A n c, .int .i64 m, .int .i64 lo, .int .i64 hi]] w fun e w' => e = .returned (.bool true) ∧ Below w.heap.size w w' := by
  have HWK := Lib.hid wk
  have HC1 := Lib.hid (fun W => slcheck_any N D d W)
  have HC2 := Lib.hid (fun W => rslcheck_any N D d W)
  have HS1 := Lib.hid (fun (W : World) (hW : Below w.heap.size w W) => swingT_any N D d a v A n c w.heap.size G W hl hn hW.size (hr.below hW))
  have HS2 := Lib.hid (fun (W : World) (hW : Below w.heap.size w W) => rswingT_any N D d a v A n c w.heap.size G W hl hn hW.size (hr.below hW))
  have HL1 := Lib.hid (fun W => calm_any N D d a v m lo hi W)
  have HL2 := Lib.hid (fun W => rcalm_any N D d a v m lo hi W)
  have hlen : (swA N D d a v G).1.length ≤ maxLen := by
    show (swN N D d a v G).length ≤ maxLen
    unfold swN
    split
    · simp [swRow]; omega
    · exact le_maxLen (by simp)
  generalize swA N D d a v G = sa at *
  obtain ⟨sl, se⟩ := sa
  generalize calmN N D d a v m lo hi = cm at *
  obtain ⟨cm0, cm1⟩ := cm
  dsimp only at HS1 HS2 HL1 HL2 hlen
  have HSF := Lib.hid (fun u u' W (h : QC sl u W) (h' : QC sl u' W) => sameFr_any sl u u' W h h' hlen)
  generalize slE N D d = e0 at *
  have HA0 := Lib.hid (AS7.start (N := N) (D := D) (d := d) (a := a) (v := v) (A := A) (n := n) (c := c) (m := m) (lo := lo) (hi := hi) w 23 29)
  obtain ⟨wA, hwA⟩ : ∃ x, (w.alloc (.cells #[.int .i64 N, .int .i64 D, .int .i64 d] 23)).alloc (.cells #[.int .i64 a, .int .i64 v, .slice A n c, .int .i64 m, .int .i64 lo, .int .i64 hi] 29) = x := ⟨_, rfl⟩
  rw [hwA] at HA0
  have HWA := Lib.hid hwA
  clear hwA wk hr hl hn hlen
  go_enter Try.func3, Try.ntmps3
  go_upto_region 1 with fail
  rw [HWA.out]
  obtain ⟨s0, s1, s2, _, _, _, _, _, _, _, _⟩ := HA0.out
  obtain ⟨Q, hQ⟩ : ∃ q9 : Nat → Value → World → Prop, q9 = QG [some (.agg #[.int .i64 N, .int .i64 D, .int .i64 d]), some (.int .i64 e0), some (.agg #[.int .i64 N, .int .i64 D, .int .i64 d]), some (.int .i64 e0), some (.bool false)] (fun _ _ _ => True) := ⟨_, rfl⟩
  have hst : Stays Q := by rw [hQ]; exact QG.stays (fun _ _ _ _ _ _ => trivial)
  have u0 : ∀ v0' w0', Q 0 v0' w0' ↔ v0' = .agg #[.int .i64 N, .int .i64 D, .int .i64 d] := fun v0' w0' => by rw [hQ]; exact Iff.rfl
  have u1 : ∀ v0' w0', Q 1 v0' w0' ↔ v0' = .int .i64 e0 := fun v0' w0' => by rw [hQ]; exact Iff.rfl
  have u2 : ∀ v0' w0', Q 2 v0' w0' ↔ v0' = .agg #[.int .i64 N, .int .i64 D, .int .i64 d] := fun v0' w0' => by rw [hQ]; exact Iff.rfl
  have u3 : ∀ v0' w0', Q 3 v0' w0' ↔ v0' = .int .i64 e0 := fun v0' w0' => by rw [hQ]; exact Iff.rfl
  have u4 : ∀ v0' w0', Q 4 v0' w0' ↔ v0' = .bool false := fun v0' w0' => by rw [hQ]; exact Iff.rfl
  have U0 := Lib.hid u0
  have U1 := Lib.hid u1
  have U2 := Lib.hid u2
  have U3 := Lib.hid u3
  have U4 := Lib.hid u4
  clear u0 u1 u2 u3 u4 hQ
  refine wpIn_wide.1 (region_inv2 (n := 9) (by kernel_rfl) (RQ Q wA) (by kernel_rfl) rfl (RQ.start _ _ _) ?hstep ?hend)
  case hstep =>
    intro i' o ho val L b' x hF hR hpre hl
    match i', ho with
    | 0, ho =>
      simp at ho
      subst ho
      refine step_plain rfl ?_
      have e2 := hF.was 2 (by kernel_rfl) rfl
      have hgoal : ∀ v0' w0', Below x.heap.size x w0' → v0' = .agg #[.int .i64 N, .int .i64 D, .int .i64 d] → RQ Q wA (upd val 0 v0') (L.setIfInBounds 0 true) w0' := fun v0' w0' hb hq => hR.step hst hb ((U0.out _ _).2 hq)
      have q0 := cell_keep hR.1 s0
      have q1 := cell_keep hR.1 s1
      have q2 := cell_keep hR.1 s2
      clear hF hpre hl hR
      go_simp
      exact ⟨_, rfl, hgoal _ _ (Below.refl _ _) rfl⟩
    | 1, ho =>
      simp at ho
      subst ho
      refine step_plain rfl ?_
      have e11 := hF.gave 0 rfl (hpre ⟨0, .data⟩ (by simp) rfl) rfl
      rw [(U0.out _ _).1 (hR.2 0 (hpre ⟨0, .data⟩ (by simp) rfl))] at e11
      have hgoal : ∀ v0' w0', Below x.heap.size x w0' → v0' = .int .i64 e0 → RQ Q wA (upd val 1 v0') (L.setIfInBounds 1 true) w0' := fun v0' w0' hb hq => hR.step hst hb ((U1.out _ _).2 hq)
      have hM := Lib.hid hR.1
      clear hF hpre hl hR
      go_simp
      refine ⟨trivial, ?_⟩
      refine CallsIn.mono (callsIn_wide.2 (HC1.out _)) ?_
      rintro e w9 ⟨rfl, hb9⟩
      exact ⟨_, rfl, hgoal _ _ hb9 rfl⟩
    | 2, ho =>
      simp at ho
      subst ho
      refine step_plain rfl ?_
      have e2 := hF.was 2 (by kernel_rfl) rfl
      have hgoal : ∀ v0' w0', Below x.heap.size x w0' → v0' = .agg #[.int .i64 N, .int .i64 D, .int .i64 d] → RQ Q wA (upd val 2 v0') (L.setIfInBounds 2 true) w0' := fun v0' w0' hb hq => hR.step hst hb ((U2.out _ _).2 hq)
      have q0 := cell_keep hR.1 s0
      have q1 := cell_keep hR.1 s1
      have q2 := cell_keep hR.1 s2
      clear hF hpre hl hR
      go_simp
      exact ⟨_, rfl, hgoal _ _ (Below.refl _ _) rfl⟩
    | 3, ho =>
      simp at ho
      subst ho
      refine step_plain rfl ?_
      have e13 := hF.gave 2 rfl (hpre ⟨2, .data⟩ (by simp) rfl) rfl
      rw [(U2.out _ _).1 (hR.2 2 (hpre ⟨2, .data⟩ (by simp) rfl))] at e13
      have hgoal : ∀ v0' w0', Below x.heap.size x w0' → v0' = .int .i64 e0 → RQ Q wA (upd val 3 v0') (L.setIfInBounds 3 true) w0' := fun v0' w0' hb hq => hR.step hst hb ((U3.out _ _).2 hq)
      have hM := Lib.hid hR.1
      clear hF hpre hl hR
      go_simp
      refine ⟨trivial, ?_⟩
      refine CallsIn.mono (callsIn_wide.2 (HC2.out _)) ?_
      rintro e w9 ⟨rfl, hb9⟩
      exact ⟨_, rfl, hgoal _ _ hb9 rfl⟩
    | 4, ho =>
      simp at ho
      subst ho
      refine step_plain rfl ?_
      have e12 := hF.gave 1 rfl (hpre ⟨1, .data⟩ (by simp) rfl) rfl
      rw [(U1.out _ _).1 (hR.2 1 (hpre ⟨1, .data⟩ (by simp) rfl))] at e12
      have e14 := hF.gave 3 rfl (hpre ⟨3, .data⟩ (by simp) rfl) rfl
      rw [(U3.out _ _).1 (hR.2 3 (hpre ⟨3, .data⟩ (by simp) rfl))] at e14
      have hgoal : ∀ v0' w0', Below x.heap.size x w0' → v0' = .bool false → RQ Q wA (upd val 4 v0') (L.setIfInBounds 4 true) w0' := fun v0' w0' hb hq => hR.step hst hb ((U4.out _ _).2 hq)
      clear hF hpre hl hR
      go_simp
      exact ⟨_, rfl, hgoal _ _ (Below.refl _ _) rfl⟩
    | i + 5, ho => simp at ho
  case hend =>
    intro val L b' x hF hall hR
    have e := hF.all (by kernel_rfl) hall
    have k4 := (U4.out _ _).1 (hR.2 4 (hall 4 (by decide)))
    have hB := Lib.hid hR.1
    clear hF hall hR hst U0 U1 U2 U3 U4
    subst e
    simp [final, dstOf, List.range, List.range.loop]
    rw [k4]
    have HA1 := Lib.hid (HA0.out.next hB.out)
    clear s0 s1 s2 hB HA0 HWA HC1 HC2
    obtain ⟨s0, s1, s2, x0, x1, x2, x3, x4, x5, ll, _⟩ := HA1.out
    generalize val 0 = z0, val 1 = z1, val 2 = z2, val 3 = z3
    go_wp2_with (first
      | (go_at_call 17; refine Calls.mono (HS1.out _ HA1.out.b) ?_; rintro e w1 ⟨u1, rfl, hq1, hb1⟩; clear s0 s1 s2 x0 x1 x2 x3 x4 x5 ll; have HA2 := Lib.hid (HA1.out.next hb1); obtain ⟨s0, s1, s2, x0, x1, x2, x3, x4, x5, ll, _⟩ := HA2.out; have HQ1 := Lib.hid hq1; clear hb1 hq1)
      | (go_at_call 18; refine Calls.mono (HS2.out _ HA2.out.b) ?_; rintro e w2 ⟨u2, rfl, hq2, hb2⟩; clear s0 s1 s2 x0 x1 x2 x3 x4 x5 ll; have HA3 := Lib.hid (HA2.out.next hb2); obtain ⟨s0, s1, s2, x0, x1, x2, x3, x4, x5, ll, _⟩ := HA3.out; have HQ2 := Lib.hid (And.intro (HQ1.out.stay hb2) hq2); clear hb2 hq2)
      | (go_at_call 19; refine Calls.mono (HSF.out _ _ _ HQ2.out.1 HQ2.out.2) ?_; rintro e w3 ⟨rfl, hb3⟩; clear s0 s1 s2 x0 x1 x2 x3 x4 x5 ll; have HA4 := Lib.hid (HA3.out.next hb3); obtain ⟨s0, s1, s2, x0, x1, x2, x3, x4, x5, ll, _⟩ := HA4.out; clear hb3)
      | (go_at_call 20; refine Calls.mono (HL1.out _) ?_; rintro e w4 ⟨rfl, hb4⟩; clear s0 s1 s2 x0 x1 x2 x3 x4 x5 ll; have HA5 := Lib.hid (HA4.out.next hb4); obtain ⟨s0, s1, s2, x0, x1, x2, x3, x4, x5, ll, _⟩ := HA5.out; clear hb4)
      | (go_at_call 21; refine Calls.mono (HL2.out _) ?_; rintro e w5 ⟨rfl, hb5⟩; clear s0 s1 s2 x0 x1 x2 x3 x4 x5 ll; have HA6 := Lib.hid (HA5.out.next hb5); clear hb5)
      | (go_at_call 22; refine Calls.mono (HWK.out _) ?_; rintro e w9 ⟨rfl, hb9⟩; have HX9 := Lib.hid (HA6.out.b.trans (hb9.mono HA6.out.b.size)); clear hb9))
    go_ret
    exact ⟨rfl, HX9.out⟩
end Go.Proofs.Ytnnmmojlgikdgaa

/- swashplatelaw07.SlingSwings returns true at every input, and the input reads as it did: no condition. -/
namespace Go.Proofs.Ytnnmmojlgikdgaa
open Go.RowKit Go.WideShapes Go.ChangeShapes Go.ChangeAt Go.Joins

set_option maxRecDepth 100000 in
theorem swings_lifted (os : Os) (started : os.Started) (H : Type) (enc : TypeId × Value → H) :
    ReturnsInHanded {} Try.checked os 3 .any (Rows.slingSwingsSpec.pre6 enc Try.prog Try.f3 Rows.slingSwingsRow.domain false) (Rows.slingSwingsSpec.post enc Try.prog Try.f3 false true false false) := by
  refine returnsInHanded_of_change (C := Try.checked) own started (by kernel_rfl) Try.func3
    (ChangeSpec.witness6 (enc := enc) (C := Try.checked) false ⟨#[], #[.agg #[.int .i64 0, .int .i64 0, .int .i64 0], .agg #[.int .i64 0, .int .i64 0, .slice none 0 0, .int .i64 0, .int .i64 0, .int .i64 0]], []⟩ 8 (by kernel_rfl) (by kernel_rfl) (by kernel_rfl) (by kernel_rfl)) ?_
  intro W base args ds gs before hval0 hW hcnd _
  have hval : ∀ (j : Nat) t v, Try.f3.params[j]? = some t → args[j]? = some v → Value.okWide Try.prog W .any base t v := hval0
  have hW' := hW
  obtain ⟨p, q, hA0, hV, rfl, hfz, hnd⟩ := hW
  have hA : DataW.TrodAll enc Try.prog W 0 (fun _ => true) true Try.f3.params.toList args.toList ds p := hA0
  rw [Try.params3] at hA hval
  obtain ⟨v0, v1, d0, d1, p0, p1, rfl, rfl, rfl, h0, h1⟩ := trodAll_two hA
  obtain ⟨rfl, rfl⟩ := trodVars_none hV
  obtain ⟨a0, b0, c0, rfl⟩ := sling_open (hval 0 23 v0 rfl rfl) h0
  obtain ⟨a1, b1, A1, n1, c1, m1, lo1, hi1, G1, rfl, hl1, hn1, hr1⟩ := swung_open (hval 1 29 v1 rfl rfl) h1
  clear hA0 hval0
  simp only [List.append_nil] at hW'
  have hlt : ∀ x ∈ p0 ++ p1, x.block < W.heap.size := fun x hx => hW'.lt x hx
  refine (law_swings works7_any W a0 b0 c0 a1 b1 A1 n1 c1 m1 lo1 hi1 G1 hl1 hn1 hr1).mono fun e W' ⟨he, hb⟩ => ?_
  subst he
  exact ⟨_, rfl, law_post hW' (by kernel_rfl) Try.underlying4 rfl rfl (fun sp hsp => trodAll_mk2 (again (by kernel_rfl) (of_decide_eq_true (by kernel_rfl)) h0 hb (fun x hx => hlt x (List.mem_append_left _ hx)) (fun x hx => hsp x (List.mem_append_left _ hx))) (again (by kernel_rfl) (of_decide_eq_true (by kernel_rfl)) h1 hb (fun x hx => hlt x (List.mem_append_right _ hx)) (fun x hx => hsp x (List.mem_append_right _ hx)))) hb⟩

theorem swings_holds : Rows.SlingSwingsSaid :=
  OpenClaim.holds_of_wide 3 Try.f3 rfl rfl rfl rfl rfl rfl rfl ⟨rfl, rfl, rfl, rfl, rfl⟩ rfl rfl rfl rfl rfl (by kernel_rfl) Try.func3 (by kernel_rfl)
    (of_decide_eq_true (by kernel_rfl)) (by unfold Func.isWrapper; first | (rw [if_pos (by decide +kernel)]; kernel_rfl) | (rw [if_neg (by decide +kernel)]; exact ⟨rfl, rfl⟩))
    (fun os started H enc _ => swings_lifted os started H enc)
#print axioms swings_holds

end Go.Proofs.Ytnnmmojlgikdgaa

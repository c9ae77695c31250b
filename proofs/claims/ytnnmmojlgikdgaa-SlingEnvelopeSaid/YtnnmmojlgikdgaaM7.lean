/- Contracts of the functions that the statement reaches: JKit2, JEff, JEff2, JEff3, JCalm, JCalm2, Ra, JKept, Rk, JBlk. -/
import Derived.Test.YtnnmmojlgikdgaaM6
import Derived.Test.YtnnmmojlgikdgaaM4
import Derived.Test.YtnnmmojlgikdgaaM5

/- Arguments of layer 7's laws, opened: slings, swings, sets, steps. -/
namespace Go.Proofs.Ytnnmmojlgikdgaa
open Go.RowKit Go.WideShapes Go.ChangeShapes Go.ChangeAt Go.Joins Go.Deep

theorem arr6 {cs : Array Value} (h : cs.size = 6) : ∃ a b c d e f, cs = #[a, b, c, d, e, f] :=
  ⟨cs[0], cs[1], cs[2], cs[3], cs[4], cs[5], by
    apply Array.ext (by simp [h])
    intro i h1 h2
    simp at h2
    match i, h2 with
    | 0, _ => rfl
    | 1, _ => rfl
    | 2, _ => rfl
    | 3, _ => rfl
    | 4, _ => rfl
    | 5, _ => rfl⟩

section
variable {H : Type} {enc : TypeId × Value → H}
set_option maxRecDepth 100000
theorem cells_sling : Try.prog.cellsOf 23 = 3 := by kernel_rfl
theorem cells_swung : Try.prog.cellsOf 29 = 6 := by kernel_rfl
theorem cells_sets7 : Try.prog.cellsOf 43 = 6 := by kernel_rfl
theorem cells_pr7 : Try.prog.cellsOf 24 = 2 := by kernel_rfl
theorem cells_sp7 : Try.prog.cellsOf 27 = 2 := by kernel_rfl
theorem cells_bx7 : Try.prog.cellsOf 41 = 1 := by kernel_rfl

theorem sling_open {w : World} {base : Nat} {spare : Nat → Bool} {held : Bool} {r : Reach} {b0 : Nat} {v : Value} {d : DataW H} {p : List MemPlace}
    (hv : Value.okWide Try.prog w r b0 23 v) (h : DataW.Trod enc Try.prog w base spare held 23 v d p) : ∃ a b c : Int, v = .agg #[.int .i64 a, .int .i64 b, .int .i64 c] := by
  obtain ⟨c0, c1, c2, y0, y1, y2, m, rfl, _, _, h0, h1, h2⟩ := open_agg3 Try.underlying23 (by kernel_rfl) cells_sling hv h
  obtain ⟨a, e0, _, _⟩ := DataW.trod_int Try.underlying3 h0
  obtain ⟨b, e1, _, _⟩ := DataW.trod_int Try.underlying3 h1
  obtain ⟨c, e2, _, _⟩ := DataW.trod_int Try.underlying3 h2
  simp at e0 e1 e2
  subst e0 e1 e2
  exact ⟨a, b, c, rfl⟩
theorem pair_cells7 {w : World} {base : Nat} {spare : Nat → Bool} {held : Bool} {fuel : Nat} {c0 c1 : Value} {x : DataW H × List MemPlace} (h : DataW.trod enc Try.prog w base spare held fuel 24 [c0, c1] = some x) : ∃ a b : Int, c0 = .int .i64 a ∧ c1 = .int .i64 b := by
  obtain ⟨xs, m, _, hx, _, hlen, hg⟩ := DataW.trod_array Try.underlying24 h
  match xs, hlen with
  | [y0, y1], _ =>
    have h0 := hg 0 (by omega)
    have h1 := hg 1 (by omega)
    simp only [cells_int7] at h0 h1
    simp at h0 h1
    obtain ⟨a, e0, _, _⟩ := DataW.trod_int Try.underlying3 h0
    obtain ⟨b, e1, _, _⟩ := DataW.trod_int Try.underlying3 h1
    simp at e0 e1
    exact ⟨a, b, e0, e1⟩
theorem span_cells7 {w : World} {base : Nat} {spare : Nat → Bool} {held : Bool} {fuel : Nat} {c0 c1 : Value} {x : DataW H × List MemPlace} (h : DataW.trod enc Try.prog w base spare held fuel 27 [c0, c1] = some x) : ∃ a b : Int, c0 = .int .i64 a ∧ c1 = .int .i64 b := by
  obtain ⟨y0, y1, n, _, _, h0, h1⟩ := trod_struct2 Try.underlying27 h
  simp only [cells_int7] at h0 h1
  obtain ⟨a, e0, _, _⟩ := DataW.trod_int Try.underlying3 (by simpa using h0)
  obtain ⟨b, e1, _, _⟩ := DataW.trod_int Try.underlying3 (by simpa using h1)
  simp at e0 e1
  exact ⟨a, b, e0, e1⟩
theorem swung_open {w : World} {base : Nat} {r : Reach} {b0 : Nat} {v : Value} {d : DataW H} {p : List MemPlace}
    (hv : Value.okWide Try.prog w r b0 29 v) (h : DataW.Trod enc Try.prog w base (fun _ => true) true 29 v d p) :
    ∃ a b A n c m lo hi G, v = .agg #[.int .i64 a, .int .i64 b, .slice A n c, .int .i64 m, .int .i64 lo, .int .i64 hi] ∧ G.length = n ∧ n ≤ maxLen ∧ RI w w.heap.size A G := by
  obtain ⟨cs, rfl, hsz⟩ := okWide_struct Try.underlying29 hv
  obtain ⟨c0, c1, c2, c3, c4, c5, rfl⟩ := arr6 (hsz.trans cells_swung)
  obtain ⟨fuel, hf⟩ := h
  obtain ⟨xs, n, _, _, _, hlen, hg⟩ := DataW.trod_struct Try.underlying29 hf
  match xs, hlen with
  | [z0, z1, z2, z3], _ =>
    have k0 : DataW.trod enc Try.prog w base (fun _ => true) true n 24 [c0, c1] = some z0 := by
      have := hg 0 _ rfl
      simpa [Value.cells, cells_pr7] using this
    have k1 : DataW.trod enc Try.prog w base (fun _ => true) true n 25 [c2] = some z1 := by
      have := hg 1 _ rfl
      simpa [Value.cells, cells_ints7] using this
    have k2 : DataW.trod enc Try.prog w base (fun _ => true) true n 3 [c3] = some z2 := by
      have := hg 2 _ rfl
      simpa [Value.cells, cells_int7] using this
    have k3 : DataW.trod enc Try.prog w base (fun _ => true) true n 27 [c4, c5] = some z3 := by
      have := hg 3 _ rfl
      simpa [Value.cells, cells_sp7] using this
    obtain ⟨a, b, e0, e1⟩ := pair_cells7 k0
    obtain ⟨A, n', c, G, e2, hl, hn, hr⟩ := ints_of k1
    obtain ⟨m, e3, _, _⟩ := DataW.trod_int Try.underlying3 k2
    obtain ⟨lo, hi, e4, e5⟩ := span_cells7 k3
    simp at e2 e3
    subst e0 e1 e2 e3 e4 e5
    exact ⟨a, b, A, n', c, m, lo, hi, G, rfl, hl, hn, hr⟩
theorem sets_open {w : World} {base : Nat} {r : Reach} {b0 : Nat} {v : Value} {d : DataW H} {p : List MemPlace}
    (hv : Value.okWide Try.prog w r b0 43 v) (h : DataW.Trod enc Try.prog w base (fun _ => true) true 43 v d p) :
    ∃ A n c g k lo hi m l, v = .agg #[.slice A n c, .int .i64 g, .int .i64 k, .int .i64 lo, .int .i64 hi, .int .i64 m] ∧ l.length = n ∧ n ≤ maxLen ∧ RS w w.heap.size A l := by
  obtain ⟨cs, rfl, hsz⟩ := okWide_struct Try.underlying43 hv
  obtain ⟨c0, c1, c2, c3, c4, c5, rfl⟩ := arr6 (hsz.trans cells_sets7)
  obtain ⟨fuel, hf⟩ := h
  obtain ⟨xs, n, _, _, _, hlen, hg⟩ := DataW.trod_struct Try.underlying43 hf
  match xs, hlen with
  | [z0, z1, z2, z3], _ =>
    have k0 : DataW.trod enc Try.prog w base (fun _ => true) true n 41 [c0] = some z0 := by
      have := hg 0 _ rfl
      simpa [Value.cells, cells_bx7] using this
    have k1 : DataW.trod enc Try.prog w base (fun _ => true) true n 27 [c1, c2] = some z1 := by
      have := hg 1 _ rfl
      simpa [Value.cells, cells_sp7] using this
    have k2 : DataW.trod enc Try.prog w base (fun _ => true) true n 27 [c3, c4] = some z2 := by
      have := hg 2 _ rfl
      simpa [Value.cells, cells_sp7] using this
    have k3 : DataW.trod enc Try.prog w base (fun _ => true) true n 3 [c5] = some z3 := by
      have := hg 3 _ rfl
      simpa [Value.cells, cells_int7] using this
    obtain ⟨A, n', c, l, e0, hl, hn, hr⟩ := spans_of Try.underlying41 k0
    obtain ⟨g, k, e1, e2⟩ := span_cells7 k1
    obtain ⟨lo, hi, e3, e4⟩ := span_cells7 k2
    obtain ⟨m, e5, _, _⟩ := DataW.trod_int Try.underlying3 k3
    simp at e0 e5
    subst e0 e1 e2 e3 e4 e5
    exact ⟨A, n', c, g, k, lo, hi, m, l, rfl, hl, hn, hr⟩
end
end Go.Proofs.Ytnnmmojlgikdgaa

/- Plain mathematics: what each number of a swing does to the displacement; ends. -/
namespace Go.Proofs.Ytnnmmojlgikdgaa

def dotL : List Int → List Int → Int
  | a :: s, b :: t => b * a + dotL s t
  | _, _ => 0
theorem dotL_nil (t : List Int) : dotL [] t = 0 := by cases t <;> rfl
theorem dotL_nil2 (t : List Int) : dotL t [] = 0 := by cases t <;> rfl
theorem dotL_map (d : Int) : ∀ s t : List Int, dotL s (t.map (d * ·)) = d * dotL s t
  | [], t => by rw [dotL_nil, dotL_nil]; simp
  | a :: s, [] => by simp [dotL]
  | a :: s, b :: t => by
    show d * b * a + dotL s (t.map (d * ·)) = d * (b * a + dotL s t)
    rw [dotL_map d s t]
    grind
/-- The effects of gusts. -/
def gcL (N D d : Int) : Nat → List Int
  | 0 => []
  | k + 1 => (d * ((abK N D d (1, 0) k).1 + (abK N D d (1, 0) k).2)) :: (gcL N D d k).map (d * ·)
theorem gcL_len (N D d : Int) : ∀ k, (gcL N D d k).length = k
  | 0 => rfl
  | k + 1 => by simp [gcL, gcL_len N D d k]
theorem gsK_dot (N D d : Int) : ∀ G : List Int, gsK N D d (1, 0) G = dotL G (gcL N D d G.length)
  | [] => rfl
  | g :: G => by
    show g * d * ((abK N D d (1, 0) G.length).1 + (abK N D d (1, 0) G.length).2) + d * gsK N D d (1, 0) G = d * ((abK N D d (1, 0) G.length).1 + (abK N D d (1, 0) G.length).2) * g + dotL G ((gcL N D d G.length).map (d * ·))
    rw [dotL_map, gsK_dot N D d G]
    grind
/-- The effects of all numbers: the displacement and the speed at the start, and the gusts. -/
def efL (N D d : Int) (k : Nat) : List Int := (abK N D d (1, 0) k).1 :: (abK N D d (1, 0) k).2 :: gcL N D d k
theorem efL_len (N D d : Int) (k : Nat) : (efL N D d k).length = k + 2 := by simp [efL, gcL_len]
theorem sw_dot (N D d a v : Int) (G : List Int) : (swK N D d a v G G.length).1 = dotL (a :: v :: G) (efL N D d G.length) := by
  have h := (sw_lin N D d G (a, v, 1)).1
  unfold swK
  rw [List.take_length, h, gsK_dot]
  show a * _ + v * _ + 1 * _ = (abK N D d (1, 0) G.length).1 * a + ((abK N D d (1, 0) G.length).2 * v + _)
  grind
/-- A one among zeros. -/
def oneL (n i : Nat) : List Int := (List.replicate n (0 : Int)).set i 1
theorem oneL_len (n i : Nat) : (oneL n i).length = n := by simp [oneL]
theorem dotL_zero : ∀ (n : Nat) (t : List Int), dotL (List.replicate n 0) t = 0
  | 0, t => dotL_nil t
  | n + 1, [] => dotL_nil2 _
  | n + 1, b :: t => by
    show b * 0 + dotL (List.replicate n 0) t = 0
    rw [dotL_zero n t]; omega
theorem dotL_un : ∀ (n i : Nat) (t : List Int) (e : Int), i < n → t[i]? = some e → dotL (oneL n i) t = e
  | 0, _, _, _, h, _ => absurd h (by omega)
  | n + 1, _, [], _, _, h => by simp at h
  | n + 1, 0, b :: t, e, _, h => by
    show b * 1 + dotL (List.replicate n 0) t = e
    rw [dotL_zero]
    simp at h
    omega
  | n + 1, i + 1, b :: t, e, hi, h => by
    show b * 0 + dotL (oneL n i) t = e
    rw [dotL_un n i t e (by omega) (by simpa using h)]
    omega
/-- Numbers that may be those of a start and gusts. -/
def numB (x : List Int) : Bool := staB (gz x 0) (gz x 1) && wB (-100) 100 (x.drop 2)
theorem dot_bd {N D d : Int} (hsl : slB N D d = true) : ∀ {x : List Int} {k : Nat}, x.length = k + 2 → k ≤ 16 → numB x = true → -1125899906842624 ≤ dotL x (efL N D d k) ∧ dotL x (efL N D d k) ≤ 1125899906842624
  | a :: v :: G, k, h, hk, hn => by
    simp at h
    subst h
    unfold numB at hn
    simp only [Bool.and_eq_true] at hn
    have h1 : staB a v = true := hn.1
    have h2 : wB (-100) 100 G = true := hn.2
    have := (swB_all hsl h1 h2 hk G.length (Nat.le_refl _)).1
    rw [sw_dot] at this
    exact this
  | [], _, h, _, _ => by simp at h
  | [_], _, h, _, _ => by simp at h
/-- The first numbers alone. -/
def cutL (x : List Int) (m : Nat) : List Int := x.take m ++ List.replicate (x.length - m) 0
theorem cutL_len (x : List Int) (m : Nat) : (cutL x m).length = x.length := by simp [cutL]; omega
theorem dot_cut : ∀ (x t : List Int) (m : Nat), dotL (cutL x m) t = dotL (x.take m) t
  | [], t, m => by simp [cutL]
  | a :: x, t, 0 => by
    show dotL ([] ++ List.replicate _ 0) t = dotL [] t
    rw [List.nil_append, dotL_zero, dotL_nil]
  | a :: x, [], m + 1 => by rw [dotL_nil2, dotL_nil2]
  | a :: x, b :: t, m + 1 => by
    have e : cutL (a :: x) (m + 1) = a :: cutL x m := by simp [cutL]
    rw [e]
    show b * a + dotL (cutL x m) t = b * a + dotL (x.take m) t
    rw [dot_cut x t m]
theorem dot_more : ∀ (x t : List Int) (m : Nat) (a b : Int), x[m]? = some a → t[m]? = some b → dotL (x.take (m + 1)) t = dotL (x.take m) t + b * a
  | [], _, _, _, _, h, _ => by simp at h
  | _ :: _, [], _, _, _, _, h => by simp at h
  | a' :: x, b' :: t, 0, a, b, h1, h2 => by
    simp at h1 h2
    subst h1 h2
    show b' * a' + dotL [] t = dotL [] (b' :: t) + b' * a'
    rw [dotL_nil, dotL_nil]
    omega
  | a' :: x, b' :: t, m + 1, a, b, h1, h2 => by
    have := dot_more x t m a b (by simpa using h1) (by simpa using h2)
    show b' * a' + dotL (x.take (m + 1)) t = b' * a' + dotL (x.take m) t + b * a
    omega
theorem numB_cut {x : List Int} (h : numB x = true) (m : Nat) : numB (cutL x m) = true := by
  have g : ∀ j : Nat, gz (cutL x m) j = if j < m then gz x j else 0 := by
    intro j
    unfold cutL gz
    rw [List.getElem?_append]
    split
    · rename_i h1
      have : j < m := by simp at h1; omega
      rw [if_pos this, List.getElem?_take, if_pos this]
    · rename_i h1
      rw [List.getElem?_replicate]
      by_cases hj : j < m
      · have h2 : x.length ≤ j := by simp at h1; omega
        rw [if_pos hj, if_neg (by simp; omega), List.getElem?_eq_none h2]
      · rw [if_neg hj]
        split <;> rfl
  unfold numB staB wB at h ⊢
  simp only [Bool.and_eq_true, List.all_cons, List.all_nil, Bool.and_true, decide_eq_true_eq, List.all_eq_true] at h ⊢
  obtain ⟨⟨h1, h2⟩, h3⟩ := h
  refine ⟨⟨?_, ?_⟩, fun z hz => ?_⟩
  · rw [g]; split <;> omega
  · rw [g]; split <;> omega
  · obtain ⟨j, hj⟩ := List.mem_iff_getElem?.1 hz
    rw [List.getElem?_drop] at hj
    have e : gz (cutL x m) (2 + j) = z := by unfold gz; rw [hj]; rfl
    rw [g] at e
    by_cases hm : 2 + j < m
    · rw [if_pos hm] at e
      by_cases hx : 2 + j < x.length
      · refine h3 z ?_
        refine List.mem_iff_getElem?.2 ⟨j, ?_⟩
        rw [List.getElem?_drop, List.getElem?_eq_getElem hx]
        rw [← e]
        unfold gz
        rw [List.getElem?_eq_getElem hx]
        rfl
      · have : gz x (2 + j) = 0 := by unfold gz; rw [List.getElem?_eq_none (by omega)]; rfl
        omega
    · rw [if_neg hm] at e
      omega
end Go.Proofs.Ytnnmmojlgikdgaa

/- Plain mathematics: a one among zeros, swung. -/
namespace Go.Proofs.Ytnnmmojlgikdgaa

theorem oneL_get (n i j : Nat) (hj : j < n) : (oneL n i)[j]? = some (if i = j then 1 else 0) := by
  unfold oneL
  rw [List.getElem?_set]
  split
  · rename_i h; subst h; simp [hj]
  · rename_i h; rw [List.getElem?_replicate]; simp [hj]
theorem oneL_gz (n i j : Nat) (hj : j < n) : gz (oneL n i) j = if i = j then 1 else 0 := by unfold gz; rw [oneL_get n i j hj]; rfl
theorem oneL_mem {n i : Nat} {x : Int} (h : x ∈ oneL n i) : 0 ≤ x ∧ x ≤ 1 := by
  obtain ⟨j, hj⟩ := List.mem_iff_getElem?.1 h
  have hl := (List.getElem?_eq_some_iff.1 hj).1
  rw [oneL_len] at hl
  rw [oneL_get n i j hl] at hj
  cases hj
  split <;> omega
theorem wB_of {lo hi : Int} {l : List Int} (h : ∀ x ∈ l, lo ≤ x ∧ x ≤ hi) : wB lo hi l = true := by
  unfold wB
  rw [List.all_eq_true]
  intro x hx
  have := h x hx
  simp
  omega
theorem oneL_wB (n i : Nat) : wB (-100) 100 ((oneL n i).drop 2) = true := wB_of fun x hx => by have := oneL_mem (List.mem_of_mem_drop hx); omega
theorem gz_mem {l : List Int} {j : Nat} (h : j < l.length) : gz l j ∈ l := by unfold gz; rw [List.getElem?_eq_getElem h]; exact List.getElem_mem h
theorem oneL_sta (k i : Nat) : staB (gz (oneL (k + 2) i) 0) (gz (oneL (k + 2) i) 1) = true := by
  unfold staB
  refine wB_of fun x hx => ?_
  have : x ∈ oneL (k + 2) i := by
    simp at hx
    rcases hx with rfl | rfl
    · exact gz_mem (by rw [oneL_len]; omega)
    · exact gz_mem (by rw [oneL_len]; omega)
  have := oneL_mem this
  omega
theorem cons2_drop {l : List Int} (h : 2 ≤ l.length) : gz l 0 :: gz l 1 :: l.drop 2 = l := by
  match l, h with
  | a :: b :: t, _ => rfl
  | [_], h => simp at h
  | [], h => simp at h
theorem sw_dot2 (N D d : Int) {x : List Int} {k : Nat} (h : x.length = k + 2) : (swK N D d (gz x 0) (gz x 1) (x.drop 2) k).1 = dotL x (efL N D d k) := by
  have e : (x.drop 2).length = k := by simp [h]
  have := sw_dot N D d (gz x 0) (gz x 1) (x.drop 2)
  rw [e, cons2_drop (by omega)] at this
  exact this
theorem eff_one (N D d : Int) {k i : Nat} (hi : i < k + 2) : (swK N D d (gz (oneL (k + 2) i) 0) (gz (oneL (k + 2) i) 1) ((oneL (k + 2) i).drop 2) k).1 = gz (efL N D d k) i := by
  rw [sw_dot2 N D d (oneL_len _ _)]
  have hl : i < (efL N D d k).length := by rw [efL_len]; exact hi
  unfold gz
  rw [List.getElem?_eq_getElem hl]
  exact dotL_un _ _ _ _ hi (List.getElem?_eq_getElem hl)
theorem take_more {l : List Int} {i : Nat} (h : i < l.length) : l.take i ++ [gz l i] = l.take (i + 1) := by
  rw [List.take_add_one, List.getElem?_eq_getElem h]
  unfold gz
  rw [List.getElem?_eq_getElem h]
  rfl
end Go.Proofs.Ytnnmmojlgikdgaa

/- Plain mathematics: the ends of a swing. -/
namespace Go.Proofs.Ytnnmmojlgikdgaa

theorem gz_out {l : List Int} {j : Nat} (h : l.length ≤ j) : gz l j = 0 := by unfold gz; rw [List.getElem?_eq_none h]; rfl
theorem numB_iff (x : List Int) : numB x = true ↔ ((-1000 ≤ gz x 0 ∧ gz x 0 ≤ 1000) ∧ (-1000 ≤ gz x 1 ∧ gz x 1 ≤ 1000)) ∧ ∀ j, -100 ≤ gz x (2 + j) ∧ gz x (2 + j) ≤ 100 := by
  unfold numB staB wB
  simp only [Bool.and_eq_true, List.all_cons, List.all_nil, Bool.and_true, decide_eq_true_eq, List.all_eq_true]
  constructor
  · rintro ⟨h1, h2⟩
    refine ⟨h1, fun j => ?_⟩
    by_cases hj : 2 + j < x.length
    · refine h2 _ (List.mem_iff_getElem?.2 ⟨j, ?_⟩)
      rw [List.getElem?_drop, List.getElem?_eq_getElem hj]
      unfold gz
      rw [List.getElem?_eq_getElem hj]
      rfl
    · rw [gz_out (by omega)]; omega
  · rintro ⟨h1, h2⟩
    refine ⟨h1, fun z hz => ?_⟩
    obtain ⟨j, hj⟩ := List.mem_iff_getElem?.1 hz
    rw [List.getElem?_drop] at hj
    have := h2 j
    unfold gz at this
    rw [hj] at this
    exact this
/-- The number of a span with which a load is displaced most, or least. -/
def witE (high : Bool) (s : Int × Int) (e : Int) : Int := if (0 < e ∧ high = true) ∨ (e < 0 ∧ high = false) then s.2 else s.1
def witL (high : Bool) (S : List (Int × Int)) (E : List Int) : List Int := List.zipWith (witE high) S E
theorem witL_len (high : Bool) {S : List (Int × Int)} {E : List Int} (h : S.length = E.length) : (witL high S E).length = S.length := by simp [witL, h]
theorem witL_get {high : Bool} {S : List (Int × Int)} {E : List Int} {i : Nat} {s : Int × Int} {e : Int} (hs : S[i]? = some s) (he : E[i]? = some e) : (witL high S E)[i]? = some (witE high s e) := by
  unfold witL
  rw [List.getElem?_zipWith, hs, he]
def endN (high : Bool) (S : List (Int × Int)) (E : List Int) : Int := dotL (witL high S E) E
/-- Spans of numbers that may be those of a start and gusts. -/
structure SB (S : List (Int × Int)) : Prop where
  lo : numB (S.map (·.1)) = true
  hi : numB (S.map (·.2)) = true
theorem SB.wit {S : List (Int × Int)} (h : SB S) (high : Bool) (E : List Int) (hl : S.length = E.length) : numB (witL high S E) = true := by
  have a := (numB_iff _).1 h.lo
  have b := (numB_iff _).1 h.hi
  have key : ∀ j, gz (witL high S E) j = gz (S.map (·.1)) j ∨ gz (witL high S E) j = gz (S.map (·.2)) j := fun j => by
    by_cases hj : j < S.length
    · have hs := List.getElem?_eq_getElem hj
      have he := List.getElem?_eq_getElem (show j < E.length by omega)
      unfold gz
      rw [witL_get hs he, List.getElem?_map, List.getElem?_map, hs]
      show witE high S[j] E[j] = S[j].1 ∨ witE high S[j] E[j] = S[j].2
      unfold witE
      split
      · exact Or.inr rfl
      · exact Or.inl rfl
    · left
      rw [gz_out (by rw [witL_len high hl]; omega), gz_out (by simp; omega)]
  refine (numB_iff _).2 ⟨⟨?_, ?_⟩, fun j => ?_⟩
  · rcases key 0 with e | e <;> rw [e]
    · exact a.1.1
    · exact b.1.1
  · rcases key 1 with e | e <;> rw [e]
    · exact a.1.2
    · exact b.1.2
  · rcases key (2 + j) with e | e <;> rw [e]
    · exact a.2 j
    · exact b.2 j
theorem gz_take (l : List Int) (n j : Nat) : gz (l.take n) j = if j < n then gz l j else 0 := by
  unfold gz
  rw [List.getElem?_take]
  split <;> rfl
theorem numB_take {x : List Int} (h : numB x = true) (n : Nat) : numB (x.take n) = true := by
  have a := (numB_iff _).1 h
  refine (numB_iff _).2 ⟨⟨?_, ?_⟩, fun j => ?_⟩
  · rw [gz_take]; split <;> have := a.1.1 <;> omega
  · rw [gz_take]; split <;> have := a.1.2 <;> omega
  · rw [gz_take]; split <;> have := a.2 j <;> omega
theorem SB.take {S : List (Int × Int)} (h : SB S) (n : Nat) : SB (S.take n) :=
  ⟨by rw [List.map_take]; exact numB_take h.lo n, by rw [List.map_take]; exact numB_take h.hi n⟩
/-- All partial sums are small. -/
theorem part_bd {N D d : Int} (hsl : slB N D d = true) {x : List Int} {k : Nat} (hx : x.length = k + 2) (hk : k ≤ 16) (hn : numB x = true) (m : Nat) : -1125899906842624 ≤ dotL (x.take m) (efL N D d k) ∧ dotL (x.take m) (efL N D d k) ≤ 1125899906842624 := by
  rw [← dot_cut]
  exact dot_bd hsl (by rw [cutL_len]; exact hx) hk (numB_cut hn m)
/-- Each number lies in its span. -/
def inSp : List Int → List (Int × Int) → Prop
  | a :: x, s :: S => (s.1 ≤ a ∧ a ≤ s.2) ∧ inSp x S
  | [], [] => True
  | _, _ => False
theorem dot_wit : ∀ (x : List Int) (S : List (Int × Int)) (E : List Int), inSp x S → S.length = E.length → endN false S E ≤ dotL x E ∧ dotL x E ≤ endN true S E
  | [], [], [], _, _ => ⟨Int.le_refl _, Int.le_refl _⟩
  | a :: x, s :: S, e :: E, h, hl => by
    obtain ⟨h1, h2⟩ := dot_wit x S E h.2 (by simpa using hl)
    have ha := h.1
    show e * witE false s e + endN false S E ≤ e * a + dotL x E ∧ e * a + dotL x E ≤ e * witE true s e + endN true S E
    have key : e * witE false s e ≤ e * a ∧ e * a ≤ e * witE true s e := by
      unfold witE
      by_cases p : 0 < e
      · rw [if_neg (by simp; omega), if_pos (Or.inl ⟨p, rfl⟩)]
        exact ⟨Int.mul_le_mul_of_nonneg_left ha.1 (by omega), Int.mul_le_mul_of_nonneg_left ha.2 (by omega)⟩
      · by_cases q : e < 0
        · rw [if_pos (Or.inr ⟨q, rfl⟩), if_neg (by simp; omega)]
          exact ⟨Int.mul_le_mul_of_nonpos_left (by omega) ha.2, Int.mul_le_mul_of_nonpos_left (by omega) ha.1⟩
        · obtain rfl : e = 0 := by omega
          simp
    omega
  | [], _ :: _, _, h, _ => absurd h (by simp [inSp])
  | _ :: _, [], _, h, _ => absurd h (by simp [inSp])
  | [], [], _ :: _, _, hl => by simp at hl
  | _ :: _, _ :: _, [], _, hl => by simp at hl
theorem inSp_lo : ∀ (S : List (Int × Int)), (∀ s ∈ S, s.1 ≤ s.2) → inSp (S.map (·.1)) S
  | [], _ => trivial
  | s :: S, h => ⟨⟨Int.le_refl _, h s List.mem_cons_self⟩, inSp_lo S fun t ht => h t (List.mem_cons_of_mem _ ht)⟩
theorem end_le {S : List (Int × Int)} {E : List Int} (h : ∀ s ∈ S, s.1 ≤ s.2) (hl : S.length = E.length) : endN false S E ≤ endN true S E := by
  have := dot_wit _ S E (inSp_lo S h) hl
  omega
theorem end_bd {N D d : Int} (hsl : slB N D d = true) {S : List (Int × Int)} {k : Nat} (hS : SB S) (hl : S.length = k + 2) (hk : k ≤ 16) (high : Bool) : -1125899906842624 ≤ endN high S (efL N D d k) ∧ endN high S (efL N D d k) ≤ 1125899906842624 :=
  dot_bd hsl (by rw [witL_len high (by rw [efL_len]; exact hl)]; exact hl) hk (hS.wit high _ (by rw [efL_len]; exact hl))
end Go.Proofs.Ytnnmmojlgikdgaa

/- Calm of both sides. -/
namespace Go.Proofs.Ytnnmmojlgikdgaa
open Go.RowKit

/-! ### Mathematics -/
def zG (n : Nat) : List Int := List.replicate n 0
theorem zG_len (n : Nat) : (zG n).length = n := by simp [zG]
theorem zG_wB (n : Nat) : wB (-100) 100 (zG n) = true := by
  unfold wB zG
  rw [List.all_eq_true]
  intro x hx
  have := List.eq_of_mem_replicate hx
  subst this
  decide
theorem swK_z {N D d a v : Int} {n m k : Nat} (h : k ≤ n) (h' : k ≤ m) : swK N D d a v (zG n) k = swK N D d a v (zG m) k := by
  unfold swK zG
  rw [List.take_replicate, List.take_replicate]
  congr 2
  omega
theorem zG_get {n k : Nat} (h : k < n) : (zG n)[k]? = some 0 := by
  unfold zG
  rw [List.getElem?_replicate]
  simp [h]
/-- Behind k ticks the load is in the band. -/
def inB (N D d a v lo hi : Int) (k : Nat) : Bool := decide (lo * (swK N D d a v (zG 17) k).2.2 ≤ (swK N D d a v (zG 17) k).1) && decide ((swK N D d a v (zG 17) k).1 ≤ hi * (swK N D d a v (zG 17) k).2.2)
def calmC (p : Nat → Bool) : Nat → Nat
  | 0 => 0
  | k + 1 => if p k then calmC p k else k + 1
theorem calmC_le (p : Nat → Bool) : ∀ k, calmC p k ≤ k
  | 0 => Nat.le_refl _
  | k + 1 => by
    unfold calmC
    split
    · have := calmC_le p k; omega
    · exact Nat.le_refl _
theorem calmC_all {p : Nat → Bool} {t : Nat} : ∀ m, (∀ j, t ≤ j → j < t + m → p j = true) → calmC p (t + m) = calmC p t
  | 0, _ => rfl
  | m + 1, h => by
    show (if p (t + m) then calmC p (t + m) else t + m + 1) = _
    rw [if_pos (h (t + m) (by omega) (by omega))]
    exact calmC_all m fun j a b => h j a (by omega)
def calmE (N D d a v n lo hi : Int) : Int :=
  if slB N D d then (if vS (lo, hi) then (if staB a v && decide (0 ≤ n ∧ n ≤ 16) then (if (calmC (inB N D d a v lo hi) (n.toNat + 1) : Int) ≤ n then 0 else 3) else 1) else 10) else 70
def calmN (N D d a v n lo hi : Int) : Int × Int := (if calmE N D d a v n lo hi = 0 then (calmC (inB N D d a v lo hi) (n.toNat + 1) : Int) else 0, calmE N D d a v n lo hi)
theorem calm_70 {N D d a v n lo hi : Int} (h : slB N D d = false) : calmN N D d a v n lo hi = (0, 70) := by unfold calmN calmE; rw [h]; rfl
theorem calm_10 {N D d a v n lo hi : Int} (h : slB N D d = true) (h2 : vS (lo, hi) = false) : calmN N D d a v n lo hi = (0, 10) := by unfold calmN calmE; rw [h, h2]; rfl
theorem calm_1 {N D d a v n lo hi : Int} (h : slB N D d = true) (h2 : vS (lo, hi) = true) (h3 : (staB a v && decide (0 ≤ n ∧ n ≤ 16)) = false) : calmN N D d a v n lo hi = (0, 1) := by unfold calmN calmE; rw [h, h2, h3]; rfl
theorem calm_ok {N D d a v lo hi : Int} {n : Nat} (h : slB N D d = true) (h2 : vS (lo, hi) = true) (h3 : staB a v = true) (h4 : n ≤ 16) :
    calmN N D d a v n lo hi = if calmC (inB N D d a v lo hi) (n + 1) ≤ n then ((calmC (inB N D d a v lo hi) (n + 1) : Int), 0) else (0, 3) := by
  unfold calmN calmE
  rw [h, h2, h3, show decide (0 ≤ (n : Int) ∧ (n : Int) ≤ 16) = true by simp; omega]
  simp only [Bool.true_and, if_true, Int.toNat_natCast]
  by_cases hc : calmC (inB N D d a v lo hi) (n + 1) ≤ n
  · rw [if_pos (by omega : (calmC (inB N D d a v lo hi) (n + 1) : Int) ≤ n), if_pos hc]
    rfl
  · rw [if_neg (by omega : ¬ (calmC (inB N D d a v lo hi) (n + 1) : Int) ≤ n), if_neg hc]
    rfl

/-! ### inside -/
set_option maxRecDepth 100000 in
theorem inside1_any (num den lo hi : Int) (A : Option Addr) (c B : Nat) (w : World) (hv : vS (lo, hi) = true) (hd : 1 ≤ den ∧ den ≤ 4294967296) (hB : B ≤ w.heap.size) (h : RS w B A [(lo, hi)]) :
    Calls Try.prog 60 #[.int .i64 num, .int .i64 den, .slice A 1 c] w fun e w' => e = .returned (.bool (decide (lo * den ≤ num) && decide (num ≤ hi * den))) ∧ Below w.heap.size w w' := by
  obtain ⟨hlh, hlo, hhi⟩ := vS_get hv
  obtain ⟨d1, d2⟩ := hd
  obtain ⟨p1, hp1⟩ : ∃ x, lo * den = x := ⟨_, rfl⟩
  obtain ⟨p2, hp2⟩ : ∃ x, hi * den = x := ⟨_, rfl⟩
  have b1 := mul_bd (a := den) (A := 4294967296) (u := lo) (M := 1000000) (by omega) d2 hlo (by omega) (by omega)
  have b2 := mul_bd (a := den) (A := 4294967296) (u := hi) (M := 1000000) (by omega) d2 (by omega) hhi (by omega)
  rw [show den * lo = p1 by rw [Int.mul_comm]; exact hp1] at b1
  rw [show den * hi = p2 by rw [Int.mul_comm]; exact hp2] at b2
  have i1 : IntKind.i64.wrap (lo * den) = p1 := by rw [hp1]; exact IntWalk.i64_in _ (by omega)
  have i2 : IntKind.i64.wrap (hi * den) = p2 := by rw [hp2]; exact IntWalk.i64_in _ (by omega)
  rw [hp1, hp2]
  obtain ⟨b, off, x, rfl, hb, hx, hc1, hc2⟩ := h.at_ (k := 0) (by simp)
  simp at hx
  subst hx
  simp only [Nat.zero_mul, Nat.add_zero] at hc1 hc2
  have hbw : b < w.heap.size := by omega
  have HB0 := Lib.hid ((Below.refl w.heap.size w).alloc (Nat.le_refl _) (.cells #[.int .i64 lo, .int .i64 hi] 27))
  have HWB := Lib.hid (show wB p1 p2 [num] = (decide (p1 ≤ num) && decide (num ≤ p2)) by unfold wB; simp)
  generalize (decide (p1 ≤ num) && decide (num ≤ p2)) = bv at *
  clear h hp1 hp2 b1 b2 hv d1 d2 hlh
  go_enter Try.func60, Try.ntmps60
  go_wp2
  go_loopw [11] (fun i wr => (i = .int .i64 0 ∧ wr = w) ∨ (i = .int .i64 1 ∧ bv = true ∧ Below w.heap.size w wr)) (fun i _ => (1 - intOf i).toNat)
  case atStart => exact .inl ⟨rfl, rfl⟩
  case round =>
    rcases hrel with ⟨rfl, rfl⟩ | ⟨rfl, hbv, hbw2⟩
    · cases bv with
      | false =>
        go_wp2_with (go_at_call 49; refine (within_any p1 p2 _ 1 _ _ [num] _ rfl (le_maxLen (by omega)) (RI.new1 (by simp))).mono ?_; rintro e w2 ⟨rfl, rfl⟩; rw [HWB.out])
        go_ret
        exact ⟨rfl, by go_grown⟩
      | true =>
        go_wp2_with (go_at_call 49; refine (within_any p1 p2 _ 1 _ _ [num] _ rfl (le_maxLen (by omega)) (RI.new1 (by simp))).mono ?_; rintro e w2 ⟨rfl, rfl⟩; rw [HWB.out])
        go_roundw
        case rel => exact .inr ⟨rfl, trivial, by go_grown⟩
        case measure => simp [intOf]
    · subst hbv
      have HBW := Lib.hid hbw2
      clear hbw2
      go_wp2
      go_ret
      exact ⟨rfl, HBW.out⟩

set_option maxRecDepth 100000 in
set_option maxHeartbeats 2000000 in
theorem calm_any (N D d a v n lo hi : Int) (w : World) :
    Calls Try.prog 20 #[.agg #[.int .i64 N, .int .i64 D, .int .i64 d], .agg #[.int .i64 a, .int .i64 v], .int .i64 n, .agg #[.int .i64 lo, .int .i64 hi]] w fun e w' => e = .returned (.tuple #[.int .i64 (calmN N D d a v n lo hi).1, .int .i64 (calmN N D d a v n lo hi).2]) ∧ Below w.heap.size w w' := by
  have HC := Lib.hid (fun W => slcheck_any N D d W)
  have HSP := Lib.hid (fun (W : World) (g : Nat) (hg : g < W.heap.size) (hr : RS W (g + 1) (some ⟨g, 0, none⟩) [(lo, hi)]) => checkSpans_any (some ⟨g, 0, none⟩) 1 1 (g + 1) [(lo, hi)] W rfl (le_maxLen (by omega)) hg hr)
  simp only [List.all_cons, List.all_nil, Bool.and_true] at HSP
  have HST := Lib.hid (fun W => isStart_any a v W)
  have hT0 : ((((w.alloc (.cells #[.int .i64 N, .int .i64 D, .int .i64 d] 23)).alloc (.cells #[.int .i64 a, .int .i64 v] 24)).alloc (.cells #[.int .i64 lo, .int .i64 hi] 27)).cell? ⟨w.heap.size, 0, none⟩ = some (.int .i64 N) ∧ (((w.alloc (.cells #[.int .i64 N, .int .i64 D, .int .i64 d] 23)).alloc (.cells #[.int .i64 a, .int .i64 v] 24)).alloc (.cells #[.int .i64 lo, .int .i64 hi] 27)).cell? ⟨w.heap.size, 1, none⟩ = some (.int .i64 D) ∧ (((w.alloc (.cells #[.int .i64 N, .int .i64 D, .int .i64 d] 23)).alloc (.cells #[.int .i64 a, .int .i64 v] 24)).alloc (.cells #[.int .i64 lo, .int .i64 hi] 27)).cell? ⟨w.heap.size, 2, none⟩ = some (.int .i64 d)) ∧ ((((w.alloc (.cells #[.int .i64 N, .int .i64 D, .int .i64 d] 23)).alloc (.cells #[.int .i64 a, .int .i64 v] 24)).alloc (.cells #[.int .i64 lo, .int .i64 hi] 27)).cell? ⟨w.heap.size + 1, 0, none⟩ = some (.int .i64 a) ∧ (((w.alloc (.cells #[.int .i64 N, .int .i64 D, .int .i64 d] 23)).alloc (.cells #[.int .i64 a, .int .i64 v] 24)).alloc (.cells #[.int .i64 lo, .int .i64 hi] 27)).cell? ⟨w.heap.size + 1, 1, none⟩ = some (.int .i64 v)) ∧ ((((w.alloc (.cells #[.int .i64 N, .int .i64 D, .int .i64 d] 23)).alloc (.cells #[.int .i64 a, .int .i64 v] 24)).alloc (.cells #[.int .i64 lo, .int .i64 hi] 27)).cell? ⟨w.heap.size + 1 + 1, 0, none⟩ = some (.int .i64 lo) ∧ (((w.alloc (.cells #[.int .i64 N, .int .i64 D, .int .i64 d] 23)).alloc (.cells #[.int .i64 a, .int .i64 v] 24)).alloc (.cells #[.int .i64 lo, .int .i64 hi] 27)).cell? ⟨w.heap.size + 1 + 1, 1, none⟩ = some (.int .i64 hi)) := by
    refine ⟨⟨?_, ?_, ?_⟩, ⟨?_, ?_⟩, ?_, ?_⟩ <;> go_simp
  have hb0 : Below w.heap.size w (((w.alloc (.cells #[.int .i64 N, .int .i64 D, .int .i64 d] 23)).alloc (.cells #[.int .i64 a, .int .i64 v] 24)).alloc (.cells #[.int .i64 lo, .int .i64 hi] 27)) := by go_grown
  obtain ⟨wA, hwA⟩ : ∃ x, (((w.alloc (.cells #[.int .i64 N, .int .i64 D, .int .i64 d] 23)).alloc (.cells #[.int .i64 a, .int .i64 v] 24)).alloc (.cells #[.int .i64 lo, .int .i64 hi] 27)) = x := ⟨_, rfl⟩
  rw [hwA] at hT0 hb0
  have HB0 := Lib.hid hb0
  have HT := Lib.hid hT0
  clear hT0 hb0
  have HWA := Lib.hid hwA
  clear hwA
  cases hsl : slB N D d with
  | false =>
    rw [slE_no hsl] at HC
    rw [calm_70 hsl]
    clear hsl
    go_enter Try.func20, Try.ntmps20
    go_upto_region 1 with fail
    rw [HWA.out]
    obtain ⟨⟨t0, t1, t2⟩, ⟨t3, t4⟩, t5, t6⟩ := HT.out
    go_wp2_with (go_at_call 15; refine Calls.mono (HC.out _) ?_; rintro e w3 ⟨rfl, hb3⟩; have HB3 := Lib.hid (HB0.out.trans (hb3.mono HB0.out.size)); clear hb3)
    go_ret2
    exact ⟨rfl, HB3.out⟩
  | true =>
    rw [slE_yes hsl] at HC
    cases hvs : vS (lo, hi) with
    | false =>
      rw [hvs] at HSP
      rw [calm_10 hsl hvs]
      clear hsl hvs
      go_enter Try.func20, Try.ntmps20
      go_upto_region 1 with fail
      rw [HWA.out]
      obtain ⟨⟨t0, t1, t2⟩, ⟨t3, t4⟩, t5, t6⟩ := HT.out
      go_wp2_with (first
        | (go_at_call 15; refine Calls.mono (HC.out _) ?_; rintro e w3 ⟨rfl, hb3⟩; have r5 := cell_keep hb3 t5; have r6 := cell_keep hb3 t6; have l5 := World.block_lt_of_cell? _ _ r5; have HB3 := Lib.hid (HB0.out.trans (hb3.mono HB0.out.size)); clear hb3 t0 t1 t2 t3 t4 t5 t6)
        | (go_at_call 59; refine Calls.mono (HSP.out _ _ (by simp) (RS.new1 (by simp))) ?_; rintro e w4 ⟨rfl, hb4⟩; have HB4 := Lib.hid ((HB3.out.alloc HB3.out.size _).trans (hb4.mono (by simp; have := HB3.out.size; omega))); clear hb4))
      go_ret2
      exact ⟨rfl, HB4.out⟩
    | true =>
      rw [hvs] at HSP
      cases hst : staB a v with
      | false =>
        rw [hst] at HST
        rw [calm_1 hsl hvs (by rw [hst]; rfl)]
        clear hsl hvs hst
        go_enter Try.func20, Try.ntmps20
        go_upto_region 1 with fail
        rw [HWA.out]
        obtain ⟨⟨t0, t1, t2⟩, ⟨t3, t4⟩, t5, t6⟩ := HT.out
        go_wp2_with (first
          | (go_at_call 15; refine Calls.mono (HC.out _) ?_; rintro e w3 ⟨rfl, hb3⟩; have r5 := cell_keep hb3 t5; have r6 := cell_keep hb3 t6; have r3 := cell_keep hb3 t3; have r4 := cell_keep hb3 t4; have l5 := World.block_lt_of_cell? _ _ r5; have l3 := World.block_lt_of_cell? _ _ r3; have HB3 := Lib.hid (HB0.out.trans (hb3.mono HB0.out.size)); clear hb3 t0 t1 t2 t3 t4 t5 t6)
          | (go_at_call 59; refine Calls.mono (HSP.out _ _ (by simp) (RS.new1 (by simp))) ?_; rintro e w4 ⟨rfl, hb4⟩; have s3 := keepA hb4 r3; have s4 := keepA hb4 r4; have l4 := World.block_lt_of_cell? _ _ s3; have HB4 := Lib.hid ((HB3.out.alloc HB3.out.size _).trans (hb4.mono (by simp; have := HB3.out.size; omega))); clear hb4 r3 r4 r5 r6)
          | (go_at_call 51; refine Calls.mono (HST.out _) ?_; rintro e w5 ⟨rfl, hb5⟩; have HB5 := Lib.hid (HB4.out.trans (hb5.mono HB4.out.size)); clear hb5))
        go_ret2
        exact ⟨rfl, HB5.out⟩
      | true =>
        rw [hst] at HST
        by_cases gn : 0 ≤ n ∧ n ≤ 16
        · obtain ⟨m, rfl⟩ : ∃ m : Nat, n = (m : Int) := ⟨n.toNat, by omega⟩
          have GN := Lib.hid (show wB 0 16 [(m : Int)] = true by rw [wB_one]; simp; omega)
          have hm : m ≤ 16 := by omega
          rw [calm_ok hsl hvs hst hm]
          obtain ⟨⟨da, db⟩, hd⟩ : ∃ r : Int × Int, (if calmC (inB N D d a v lo hi) (m + 1) ≤ m then ((calmC (inB N D d a v lo hi) (m + 1) : Int), (0 : Int)) else (0, 3)) = r := ⟨_, rfl⟩
          rw [hd]
          have HD := Lib.hid hd
          have HH := Lib.hid (fun W => hang_any N D d a v W)
          have HSW := Lib.hid (swB_all (N := N) (D := D) (d := d) (a := a) (v := v) (G := zG 16) hsl hst (zG_wB 16) (by rw [zG_len]; omega))
          obtain ⟨⟨d1, d2⟩, _, _⟩ := slB_get hsl
          have HSL := Lib.hid hsl
          have HVS := Lib.hid hvs
          clear hd hsl hvs hst gn
          go_enter Try.func20, Try.ntmps20
          go_upto_region 1 with fail
          rw [HWA.out]
          obtain ⟨⟨t0, t1, t2⟩, ⟨t3, t4⟩, t5, t6⟩ := HT.out
          go_upto_region 9 with (first
            | (go_at_call 15; refine Calls.mono (HC.out _) ?_; rintro e w3 ⟨rfl, hb3⟩; have r0 := cell_keep hb3 t0; have r1 := cell_keep hb3 t1; have r2 := cell_keep hb3 t2; have r5 := cell_keep hb3 t5; have r6 := cell_keep hb3 t6; have r3 := cell_keep hb3 t3; have r4 := cell_keep hb3 t4; have l5 := World.block_lt_of_cell? _ _ r5; have l3 := World.block_lt_of_cell? _ _ r3; have HB3 := Lib.hid (HB0.out.trans (hb3.mono HB0.out.size)); clear hb3 t0 t1 t2 t3 t4 t5 t6)
            | (go_at_call 59; refine Calls.mono (HSP.out _ _ (by simp) (RS.new1 (by simp))) ?_; rintro e w4 ⟨rfl, hb4⟩; have s0 := keepA hb4 r0; have s1 := keepA hb4 r1; have s2 := keepA hb4 r2; have s3 := keepA hb4 r3; have s4 := keepA hb4 r4; have s5 := keepA hb4 r5; have s6 := keepA hb4 r6; have l4 := World.block_lt_of_cell? _ _ s3; have HB4 := Lib.hid ((HB3.out.alloc HB3.out.size _).trans (hb4.mono (by simp; have := HB3.out.size; omega))); clear hb4 r0 r1 r2 r3 r4 r5 r6)
            | (go_at_call 51; refine Calls.mono (HST.out _) ?_; rintro e w5 ⟨rfl, hb5⟩; have r0 := cell_keep hb5 s0; have r1 := cell_keep hb5 s1; have r2 := cell_keep hb5 s2; have r3 := cell_keep hb5 s3; have r4 := cell_keep hb5 s4; have r5 := cell_keep hb5 s5; have r6 := cell_keep hb5 s6; have l6 : w.heap.size + 1 + 1 < w5.heap.size := World.block_lt_of_cell? _ _ r5; have l7 : w.heap.size + 1 < w5.heap.size := (by omega); have l8 : w.heap.size < w5.heap.size := (by omega); have HB5 := Lib.hid (HB4.out.trans (hb5.mono HB4.out.size)); clear hb5 s0 s1 s2 s3 s4 s5 s6)
            | (go_at_call 49; refine (within_any 0 16 _ 1 _ _ [(m : Int)] _ rfl (le_maxLen (by omega)) (RI.new1 (by simp))).mono ?_; rintro e w6 ⟨rfl, rfl⟩; rw [GN.out])
            | (go_at_call 52; refine Calls.mono (HH.out _) ?_; rintro e w7 ⟨rfl, hb7⟩; have q5 := keepA hb7 r5; have q6 := keepA hb7 r6; have l9 : w.heap.size + 1 + 1 < w7.heap.size := World.block_lt_of_cell? _ _ q5; have HB7 := Lib.hid ((HB5.out.alloc HB5.out.size _).trans (hb7.mono (by simp; have := HB5.out.size; omega))); clear hb7 r0 r1 r2 r3 r4 r5 r6))
          have hwl0 : WL (w7.alloc (.cells #[.int .i64 N, .int .i64 D, .int .i64 d, .int .i64 a, .int .i64 v, .int .i64 1] 89)) w7.heap.size N D d (swK N D d a v (zG 17) 0) := by show (w7.heap.push _)[w7.heap.size]? = _; simp [swK_zero]
          have HWL0 := Lib.hid hwl0
          have q5' := cell_keep ((Below.refl _ _).alloc (Nat.le_refl _) (.cells #[.int .i64 N, .int .i64 D, .int .i64 d, .int .i64 a, .int .i64 v, .int .i64 1] 89)) q5
          have q6' := cell_keep ((Below.refl _ _).alloc (Nat.le_refl _) (.cells #[.int .i64 N, .int .i64 D, .int .i64 d, .int .i64 a, .int .i64 v, .int .i64 1] 89)) q6
          have HQ := Lib.hid (And.intro q5' q6')
          have HB8 := Lib.hid (HB7.out.alloc HB7.out.size (.cells #[.int .i64 N, .int .i64 D, .int .i64 d, .int .i64 a, .int .i64 v, .int .i64 1] 89))
          have hgw := HB7.out.size
          clear hwl0 q5 q6 q5' q6' l6 l7 l8 HC HSP HST HT HWA HH HB0 HB3 HB4 HB5 HB7
          generalize hgg : w7.heap.size = g at *
          clear hgg
          generalize w7.alloc _ = w8 at *
          go_wp2
          go_loopw [12, 37] (fun c i wr => ∃ k : Nat, k ≤ m + 1 ∧ i = .int .i64 k ∧ c = .int .i64 (calmC (inB N D d a v lo hi) k) ∧ WL wr g N D d (swK N D d a v (zG 17) k) ∧ (wr.cell? ⟨w.heap.size + 1 + 1, 0, none⟩ = some (.int .i64 lo) ∧ wr.cell? ⟨w.heap.size + 1 + 1, 1, none⟩ = some (.int .i64 hi)) ∧ Below w.heap.size w wr) (fun _ i _ => m + 1 - (intOf i).toNat)
          case atStart => exact ⟨0, Nat.zero_le _, rfl, rfl, HWL0.out, HQ.out, HB8.out⟩
          case round =>
            obtain ⟨k, hk, rfl, rfl, hwl, ⟨hc5, hc6⟩, hbw⟩ := hrel
            by_cases hlt : k < m + 1
            · have hbd := HSW.out k (by rw [zG_len]; omega)
              rw [swK_z (m := 17) (by omega) (by omega)] at hbd
              have hsu := swK_succ (N := N) (D := D) (d := d) (a := a) (v := v) (zG_get (show k < 17 by omega))
              have hden := swK_den (N := N) (D := D) (d := d) (a := a) (v := v) (G := zG 17) (k := k) (by rw [zG_len]; omega)
              have hpw := powI_bd d1 d2 k
              have hpw2 := Int.le_trans (hpw.2 (by omega)) (powI_4 (show k ≤ 16 by omega))
              have hp1 := hpw.1
              rw [← hden] at hp1 hpw2
              have hcs : calmC (inB N D d a v lo hi) (k + 1) = if inB N D d a v lo hi k then calmC (inB N D d a v lo hi) k else k + 1 := rfl
              have hib : inB N D d a v lo hi k = (decide (lo * (swK N D d a v (zG 17) k).2.2 ≤ (swK N D d a v (zG 17) k).1) && decide ((swK N D d a v (zG 17) k).1 ≤ hi * (swK N D d a v (zG 17) k).2.2)) := rfl
              have hcl := calmC_le (inB N D d a v lo hi) k
              obtain ⟨⟨pa, pv, pe⟩, hp⟩ : ∃ p, swK N D d a v (zG 17) k = p := ⟨_, rfl⟩
              rw [hp] at hbd hsu hp1 hpw2 hwl hib
              dsimp only at hbd hp1 hpw2 hib
              have HIN := Lib.hid (fun (W : World) (g' : Nat) (hg' : g' < W.heap.size) (hr : RS W (g' + 1) (some ⟨g', 0, none⟩) [(lo, hi)]) => inside1_any pa pe lo hi (some ⟨g', 0, none⟩) 1 (g' + 1) W HVS.out ⟨hp1, hpw2⟩ hg' hr)
              rw [← hib] at HIN
              have HSWI := Lib.hid (fun (W : World) (hW : WL W g N D d (pa, pv, pe)) => swing_any g N D d pa pv pe 0 W HSL.out hbd.1 hbd.2 ⟨hp1, hpw2⟩ (by omega) hW)
              rw [← hsu] at HSWI
              have c3 := cellOf (o := 3) hwl rfl
              have c5 := cellOf (o := 5) hwl rfl
              have HWL := Lib.hid hwl
              have HCC := Lib.hid (And.intro hc5 hc6)
              have HBW := Lib.hid hbw
              have lg := hwl.lt
              have lq : w.heap.size + 1 + 1 < wr.heap.size := World.block_lt_of_cell? _ _ hc5
              have i7 : (k : Int) < (m : Int) + 1 := by omega
              have HCS := Lib.hid hcs
              obtain ⟨bv, hbv⟩ : ∃ b, inB N D d a v lo hi k = b := ⟨_, rfl⟩
              rw [hbv] at HIN
              have HBV := Lib.hid hbv
              have hne : g ≠ w.heap.size + 1 + 1 := by omega
              have HNE := Lib.hid hne
              obtain ⟨ck, hck⟩ : ∃ c, calmC (inB N D d a v lo hi) k = c := ⟨_, rfl⟩
              rw [hck] at hcl
              rw [hck]
              have HCK := Lib.hid hck
              clear hbd hsu hden hpw hpw2 hp1 hib hp hwl hbw hcs hbv hne hck hc5 hc6
              have d5 := HCC.out.1
              have d6 := HCC.out.2
              cases bv <;>
              · go_wp2_with (first
                  | (go_at_call 60; refine Calls.mono (HIN.out _ _ (by simp) (RS.new1 (by simp))) ?_; rintro e w10 ⟨rfl, hb10⟩; have HW10 := Lib.hid ((HWL.out.stay ((Below.refl _ _).alloc (Nat.le_refl _) _)).stay hb10); have HC10 := Lib.hid (And.intro (keepA hb10 HCC.out.1) (keepA hb10 HCC.out.2)); have HB10 := Lib.hid ((HBW.out.alloc HBW.out.size _).trans (hb10.mono (by simp; have := HBW.out.size; omega))); clear hb10 c3 c5 d5 d6)
                  | (go_at_call 53; refine Calls.mono (HSWI.out _ HW10.out) ?_; rintro e w11 ⟨rfl, hw11, hg11⟩; have HW11 := Lib.hid hw11; have HC11 := Lib.hid (And.intro (hg11.cell HC10.out.1 (fun e => HNE.out (by cases e; rfl))) (hg11.cell HC10.out.2 (fun e => HNE.out (by cases e; rfl)))); have HB11 := Lib.hid (HB10.out.grown hg11 HB10.out.size (fun q hq => (by cases hq; exact hgw))); clear hw11 hg11))
                go_roundw
                case rel => exact ⟨k + 1, by omega, by go_num, by rw [HCS.out, HBV.out]; first | exact congrArg _ (congrArg _ HCK.out.symm) | (simp), HW11.out, HC11.out, HB11.out⟩
                case measure => simp [intOf]; omega
            · obtain rfl : k = m + 1 := by omega
              have HBW := Lib.hid hbw
              clear hbw hwl hc5 hc6
              by_cases hcm : calmC (inB N D d a v lo hi) (m + 1) ≤ m
              · have HE := Lib.hid (show da = (calmC (inB N D d a v lo hi) (m + 1) : Int) ∧ db = 0 by have := HD.out; rw [if_pos hcm] at this; cases this; exact ⟨rfl, rfl⟩)
                generalize calmC (inB N D d a v lo hi) (m + 1) = cc at *
                go_wp2
                go_ret2
                exact ⟨by rw [HE.out.1, HE.out.2]; rfl, HBW.out⟩
              · have HE := Lib.hid (show da = 0 ∧ db = 3 by have := HD.out; rw [if_neg hcm] at this; cases this; exact ⟨rfl, rfl⟩)
                generalize calmC (inB N D d a v lo hi) (m + 1) = cc at *
                go_wp2
                go_ret2
                exact ⟨by rw [HE.out.1, HE.out.2]; rfl, HBW.out⟩
        · have GN := Lib.hid (show wB 0 16 [n] = false by rw [wB_one]; simpa using gn)
          rw [calm_1 hsl hvs (by rw [hst]; simpa using gn)]
          clear hsl hvs hst gn
          go_enter Try.func20, Try.ntmps20
          go_upto_region 1 with fail
          rw [HWA.out]
          obtain ⟨⟨t0, t1, t2⟩, ⟨t3, t4⟩, t5, t6⟩ := HT.out
          go_wp2_with (first
            | (go_at_call 15; refine Calls.mono (HC.out _) ?_; rintro e w3 ⟨rfl, hb3⟩; have r5 := cell_keep hb3 t5; have r6 := cell_keep hb3 t6; have r3 := cell_keep hb3 t3; have r4 := cell_keep hb3 t4; have l5 := World.block_lt_of_cell? _ _ r5; have l3 := World.block_lt_of_cell? _ _ r3; have HB3 := Lib.hid (HB0.out.trans (hb3.mono HB0.out.size)); clear hb3 t0 t1 t2 t3 t4 t5 t6)
            | (go_at_call 59; refine Calls.mono (HSP.out _ _ (by simp) (RS.new1 (by simp))) ?_; rintro e w4 ⟨rfl, hb4⟩; have s3 := keepA hb4 r3; have s4 := keepA hb4 r4; have l4 := World.block_lt_of_cell? _ _ s3; have HB4 := Lib.hid ((HB3.out.alloc HB3.out.size _).trans (hb4.mono (by simp; have := HB3.out.size; omega))); clear hb4 r3 r4 r5 r6)
            | (go_at_call 51; refine Calls.mono (HST.out _) ?_; rintro e w5 ⟨rfl, hb5⟩; have HB5 := Lib.hid (HB4.out.trans (hb5.mono HB4.out.size)); clear hb5)
            | (go_at_call 49; refine (within_any 0 16 _ 1 _ _ [n] _ rfl (le_maxLen (by omega)) (RI.new1 (by simp))).mono ?_; rintro e w6 ⟨rfl, rfl⟩; rw [GN.out]))
          go_ret2
          exact ⟨rfl, HB5.out.alloc HB5.out.size _⟩
end Go.Proofs.Ytnnmmojlgikdgaa

/- Calm of the reference. -/
namespace Go.Proofs.Ytnnmmojlgikdgaa
open Go.RowKit

theorem step_makeI {F : Fence} {k : Nat} {w : World} {o : Oper} {a : Act} {K : Act → World → Prop} {Q : Exit → Act → World → Prop} (l c : Operand) (hop : o.op = Op.makeSlice 25 l c)
    (n : Nat) (hl : a.eval l = .int .i64 (n : Int)) (hc : a.eval c = .int .i64 (n : Int)) (hn : n ≤ 1000000)
    (h : K (a.put o.dst (.slice (some ⟨w.heap.size, 0, none⟩) n n)) (w.alloc (.cells (madeCells #[Value.int .i64 0] n) 3))) : o.wpIn F k Try.prog a w K Q := by
  obtain ⟨i0, hi0, hz0, hz1, hz2⟩ := info_parts info_int
  have hrun := run_make (P := Try.prog) w 25 3 i0 (.int .i64 0) Try.underlying25 hi0 hz0 .i64 .i64 n n (by omega) (by omega) (by rw [hz2]; omega) (by omega)
  rw [hz1] at hrun
  simp only [Int.toNat_natCast, Nat.mul_one] at hrun
  unfold Oper.wpIn
  refine ⟨?_, ?_⟩
  · simp [Oper.about, hop]
  · rw [Oper.semAt_plain F _ _ (by rw [hop]; intro c hc'; cases hc')]
    simp only [execOp, hop, hl, hc, hrun, Result.andThen, Sem.run_bind, Sem.run_pure]
    exact h
theorem QI.made (W : World) (n : Nat) : QI (zG n) (.slice (some ⟨W.heap.size, 0, none⟩) n n) (W.alloc (.cells (madeCells #[Value.int .i64 0] n) 3)) := by
  refine ⟨_, n, by rw [zG_len], by rw [zG_len]; exact Nat.le_refl _, ?_⟩
  exact (RW.made W n).ri

def frsN (m k : Nat) : Int := if k = m + 1 then -1 else k
theorem frsN_lt {m k : Nat} (h : k ≤ m) : frsN m k = k := by unfold frsN; rw [if_neg (by omega)]
theorem frsN_top (m : Nat) : frsN m (m + 1) = -1 := by unfold frsN; rw [if_pos rfl]

set_option maxRecDepth 100000 in
set_option maxHeartbeats 2000000 in
theorem rcalm_any (N D d a v n lo hi : Int) (w : World) :
    Calls Try.prog 21 #[.agg #[.int .i64 N, .int .i64 D, .int .i64 d], .agg #[.int .i64 a, .int .i64 v], .int .i64 n, .agg #[.int .i64 lo, .int .i64 hi]] w fun e w' => e = .returned (.tuple #[.int .i64 (calmN N D d a v n lo hi).1, .int .i64 (calmN N D d a v n lo hi).2]) ∧ Below w.heap.size w w' := by
  have HC := Lib.hid (fun W => rslcheck_any N D d W)
  have HV := Lib.hid (fun W => rvalid_any lo hi W)
  rw [← vS_vI lo hi] at HV
  have HST := Lib.hid (fun W => started_any a v W)
  have hT0 : ((((w.alloc (.cells #[.int .i64 N, .int .i64 D, .int .i64 d] 23)).alloc (.cells #[.int .i64 a, .int .i64 v] 24)).alloc (.cells #[.int .i64 lo, .int .i64 hi] 27)).cell? ⟨w.heap.size, 0, none⟩ = some (.int .i64 N) ∧ (((w.alloc (.cells #[.int .i64 N, .int .i64 D, .int .i64 d] 23)).alloc (.cells #[.int .i64 a, .int .i64 v] 24)).alloc (.cells #[.int .i64 lo, .int .i64 hi] 27)).cell? ⟨w.heap.size, 1, none⟩ = some (.int .i64 D) ∧ (((w.alloc (.cells #[.int .i64 N, .int .i64 D, .int .i64 d] 23)).alloc (.cells #[.int .i64 a, .int .i64 v] 24)).alloc (.cells #[.int .i64 lo, .int .i64 hi] 27)).cell? ⟨w.heap.size, 2, none⟩ = some (.int .i64 d)) ∧ ((((w.alloc (.cells #[.int .i64 N, .int .i64 D, .int .i64 d] 23)).alloc (.cells #[.int .i64 a, .int .i64 v] 24)).alloc (.cells #[.int .i64 lo, .int .i64 hi] 27)).cell? ⟨w.heap.size + 1, 0, none⟩ = some (.int .i64 a) ∧ (((w.alloc (.cells #[.int .i64 N, .int .i64 D, .int .i64 d] 23)).alloc (.cells #[.int .i64 a, .int .i64 v] 24)).alloc (.cells #[.int .i64 lo, .int .i64 hi] 27)).cell? ⟨w.heap.size + 1, 1, none⟩ = some (.int .i64 v)) ∧ ((((w.alloc (.cells #[.int .i64 N, .int .i64 D, .int .i64 d] 23)).alloc (.cells #[.int .i64 a, .int .i64 v] 24)).alloc (.cells #[.int .i64 lo, .int .i64 hi] 27)).cell? ⟨w.heap.size + 1 + 1, 0, none⟩ = some (.int .i64 lo) ∧ (((w.alloc (.cells #[.int .i64 N, .int .i64 D, .int .i64 d] 23)).alloc (.cells #[.int .i64 a, .int .i64 v] 24)).alloc (.cells #[.int .i64 lo, .int .i64 hi] 27)).cell? ⟨w.heap.size + 1 + 1, 1, none⟩ = some (.int .i64 hi)) := by
    refine ⟨⟨?_, ?_, ?_⟩, ⟨?_, ?_⟩, ?_, ?_⟩ <;> go_simp
  have hb0 : Below w.heap.size w (((w.alloc (.cells #[.int .i64 N, .int .i64 D, .int .i64 d] 23)).alloc (.cells #[.int .i64 a, .int .i64 v] 24)).alloc (.cells #[.int .i64 lo, .int .i64 hi] 27)) := by go_grown
  obtain ⟨wA, hwA⟩ : ∃ x, (((w.alloc (.cells #[.int .i64 N, .int .i64 D, .int .i64 d] 23)).alloc (.cells #[.int .i64 a, .int .i64 v] 24)).alloc (.cells #[.int .i64 lo, .int .i64 hi] 27)) = x := ⟨_, rfl⟩
  rw [hwA] at hT0 hb0
  have HB0 := Lib.hid hb0
  have HT := Lib.hid hT0
  clear hT0 hb0
  have HWA := Lib.hid hwA
  clear hwA
  cases hsl : slB N D d with
  | false =>
    rw [slE_no hsl] at HC
    rw [calm_70 hsl]
    clear hsl
    go_enter Try.func21, Try.ntmps21
    go_upto_region 1 with fail
    rw [HWA.out]
    obtain ⟨⟨t0, t1, t2⟩, ⟨t3, t4⟩, t5, t6⟩ := HT.out
    go_wp2_with (go_at_call 16; refine Calls.mono (HC.out _) ?_; rintro e w3 ⟨rfl, hb3⟩; have HB3 := Lib.hid (HB0.out.trans (hb3.mono HB0.out.size)); clear hb3)
    go_ret2
    exact ⟨rfl, HB3.out⟩
  | true =>
    rw [slE_yes hsl] at HC
    cases hvs : vS (lo, hi) with
    | false =>
      rw [hvs] at HV
      rw [calm_10 hsl hvs]
      clear hsl hvs
      go_enter Try.func21, Try.ntmps21
      go_upto_region 1 with fail
      rw [HWA.out]
      obtain ⟨⟨t0, t1, t2⟩, ⟨t3, t4⟩, t5, t6⟩ := HT.out
      go_wp2_with (first
        | (go_at_call 16; refine Calls.mono (HC.out _) ?_; rintro e w3 ⟨rfl, hb3⟩; have r5 := cell_keep hb3 t5; have r6 := cell_keep hb3 t6; have l5 := World.block_lt_of_cell? _ _ r5; have HB3 := Lib.hid (HB0.out.trans (hb3.mono HB0.out.size)); clear hb3 t0 t1 t2 t3 t4 t5 t6)
        | (go_at_call 61; refine Calls.mono (HV.out _) ?_; rintro e w4 ⟨rfl, hb4⟩; have HB4 := Lib.hid (HB3.out.trans (hb4.mono HB3.out.size)); clear hb4))
      go_ret2
      exact ⟨rfl, HB4.out⟩
    | true =>
      rw [hvs] at HV
      cases hst : staB a v with
      | false =>
        rw [hst] at HST
        rw [calm_1 hsl hvs (by rw [hst]; rfl)]
        clear hsl hvs hst
        go_enter Try.func21, Try.ntmps21
        go_upto_region 1 with fail
        rw [HWA.out]
        obtain ⟨⟨t0, t1, t2⟩, ⟨t3, t4⟩, t5, t6⟩ := HT.out
        go_wp2_with (first
          | (go_at_call 16; refine Calls.mono (HC.out _) ?_; rintro e w3 ⟨rfl, hb3⟩; have r5 := cell_keep hb3 t5; have r6 := cell_keep hb3 t6; have r3 := cell_keep hb3 t3; have r4 := cell_keep hb3 t4; have l5 := World.block_lt_of_cell? _ _ r5; have l3 := World.block_lt_of_cell? _ _ r3; have HB3 := Lib.hid (HB0.out.trans (hb3.mono HB0.out.size)); clear hb3 t0 t1 t2 t3 t4 t5 t6)
          | (go_at_call 61; refine Calls.mono (HV.out _) ?_; rintro e w4 ⟨rfl, hb4⟩; have s3 := cell_keep hb4 r3; have s4 := cell_keep hb4 r4; have l4 := World.block_lt_of_cell? _ _ s3; have HB4 := Lib.hid (HB3.out.trans (hb4.mono HB3.out.size)); clear hb4 r3 r4 r5 r6)
          | (go_at_call 55; refine Calls.mono (HST.out _) ?_; rintro e w5 ⟨rfl, hb5⟩; have HB5 := Lib.hid (HB4.out.trans (hb5.mono HB4.out.size)); clear hb5))
        go_ret2
        exact ⟨rfl, HB5.out⟩
      | true =>
        rw [hst] at HST
        by_cases gn : 0 ≤ n ∧ n ≤ 16
        · obtain ⟨m, rfl⟩ : ∃ m : Nat, n = (m : Int) := ⟨n.toNat, by omega⟩
          have GN := Lib.hid (w7_yes gn.1 gn.2)
          have hm : m ≤ 16 := by omega
          rw [calm_ok hsl hvs hst hm]
          obtain ⟨⟨da, db⟩, hd⟩ : ∃ r : Int × Int, (if calmC (inB N D d a v lo hi) (m + 1) ≤ m then ((calmC (inB N D d a v lo hi) (m + 1) : Int), (0 : Int)) else (0, 3)) = r := ⟨_, rfl⟩
          rw [hd]
          have HD := Lib.hid hd
          have HSW := Lib.hid (swB_all (N := N) (D := D) (d := d) (a := a) (v := v) (G := zG m) hsl hst (zG_wB m) (by rw [zG_len]; omega))
          have HSU := Lib.hid (fun (A9 : Option Addr) (c9 : Nat) (W : World) (hr : RI W W.heap.size A9 (zG m)) => swung_any N D d a v A9 m c9 W.heap.size (zG m) W hsl (zG_len m) hm (zG_wB m) HSW.out (Nat.le_refl _) hr)
          obtain ⟨⟨d1, d2⟩, _, _⟩ := slB_get hsl
          obtain ⟨hlh, hlo, hhi⟩ := vS_get hvs
          clear hd hsl hvs hst gn
          go_enter Try.func21, Try.ntmps21
          go_upto_region 1 with fail
          rw [HWA.out]
          obtain ⟨⟨t0, t1, t2⟩, ⟨t3, t4⟩, t5, t6⟩ := HT.out
          go_upto_region 8 with (first
            | (go_at_call 16; refine Calls.mono (HC.out _) ?_; rintro e w3 ⟨rfl, hb3⟩; have r0 := cell_keep hb3 t0; have r1 := cell_keep hb3 t1; have r2 := cell_keep hb3 t2; have r5 := cell_keep hb3 t5; have r6 := cell_keep hb3 t6; have r3 := cell_keep hb3 t3; have r4 := cell_keep hb3 t4; have l5 := World.block_lt_of_cell? _ _ r5; have l3 := World.block_lt_of_cell? _ _ r3; have HB3 := Lib.hid (HB0.out.trans (hb3.mono HB0.out.size)); clear hb3 t0 t1 t2 t3 t4 t5 t6)
            | (go_at_call 61; refine Calls.mono (HV.out _) ?_; rintro e w4 ⟨rfl, hb4⟩; have s0 := cell_keep hb4 r0; have s1 := cell_keep hb4 r1; have s2 := cell_keep hb4 r2; have s3 := cell_keep hb4 r3; have s4 := cell_keep hb4 r4; have s5 := cell_keep hb4 r5; have s6 := cell_keep hb4 r6; have l4 := World.block_lt_of_cell? _ _ s3; have HB4 := Lib.hid (HB3.out.trans (hb4.mono HB3.out.size)); clear hb4 r0 r1 r2 r3 r4 r5 r6)
            | (go_at_call 55; refine Calls.mono (HST.out _) ?_; rintro e w5 ⟨rfl, hb5⟩; have r0 := cell_keep hb5 s0; have r1 := cell_keep hb5 s1; have r2 := cell_keep hb5 s2; have r3 := cell_keep hb5 s3; have r4 := cell_keep hb5 s4; have r5 := cell_keep hb5 s5; have r6 := cell_keep hb5 s6; have l6 : w.heap.size + 1 + 1 < w5.heap.size := World.block_lt_of_cell? _ _ r5; have l7 : w.heap.size + 1 < w5.heap.size := (by omega); have l8 : w.heap.size < w5.heap.size := (by omega); have HB5 := Lib.hid (HB4.out.trans (hb5.mono HB4.out.size)); clear hb5 s0 s1 s2 s3 s4 s5 s6)
            | (go_at_call 50; refine Calls.mono (GN.out _) ?_; rintro e w6 ⟨rfl, rfl⟩))
          have hml : m ≤ 1000000 := by omega
          clear HC HV HST HT HWA HB0 HB3 HB4
          obtain ⟨Q, hQ⟩ : ∃ q9 : Nat → Value → World → Prop, q9 = QG [some (.agg #[.int .i64 N, .int .i64 D, .int .i64 d]), some (.pointer (some ⟨w.heap.size + 1, 0, none⟩)), some (.int .i64 a), some (.pointer (some ⟨w.heap.size + 1, 1, none⟩)), some (.int .i64 v), some (.int .i64 ((m : Int))), none, none, none] (fun j0' v0' w0' => (j0' = 6 → QI (zG m) v0' w0') ∧ (j0' = 7 → QI (swList N D d a v (zG m) m) v0' w0') ∧ (j0' = 8 → QI (swList N D d a v (zG m) m) v0' w0')) := ⟨_, rfl⟩
          have hst : Stays Q := by rw [hQ]; exact QG.stays (fun j v W W' h hb => ⟨fun e => (h.1 e).stay hb, fun e => (h.2.1 e).stay hb, fun e => (h.2.2 e).stay hb⟩)
          have U6 := Lib.hid (show ∀ v0' w0', Q 6 v0' w0' ↔ QI (zG m) v0' w0' from fun v0' w0' => by rw [hQ]; exact ⟨fun h => h.1 rfl, fun h => ⟨fun _ => h, fun e => absurd e (by decide), fun e => absurd e (by decide)⟩⟩)
          have U7 := Lib.hid (show ∀ v0' w0', Q 7 v0' w0' ↔ QI (swList N D d a v (zG m) m) v0' w0' from fun v0' w0' => by rw [hQ]; exact ⟨fun h => h.2.1 rfl, fun h => ⟨fun e => absurd e (by decide), fun _ => h, fun e => absurd e (by decide)⟩⟩)
          have U8 := Lib.hid (show ∀ v0' w0', Q 8 v0' w0' ↔ QI (swList N D d a v (zG m) m) v0' w0' from fun v0' w0' => by rw [hQ]; exact ⟨fun h => h.2.2 rfl, fun h => ⟨fun e => absurd e (by decide), fun e => absurd e (by decide), fun _ => h⟩⟩)
          have HQ := Lib.hid hQ
          clear hQ
          refine wpIn_wide.1 (region_inv2 (n := 9) (by kernel_rfl) (RQ Q w5) (by kernel_rfl) rfl (RQ.start _ _ _) ?hstep ?hend)
          case hstep =>
            intro i' o ho val L b' x hF hR hpre hl
            match i', ho with
            | 0, ho =>
              simp at ho; subst ho; refine step_plain rfl ?_; have e4 := hF.was 4 (by kernel_rfl) rfl; have hgoal := hR.go hst HQ 0 rfl; have q0 := cell_keep hR.1 r0; have q1 := cell_keep hR.1 r1; have q2 := cell_keep hR.1 r2; clear hF hpre hl hR; go_simp; exact ⟨_, rfl, hgoal _ _ (Below.refl _ _) rfl⟩
            | 1, ho =>
              simp at ho; subst ho; refine step_plain rfl ?_; have e5 := hF.was 5 (by kernel_rfl) rfl; have hgoal := hR.go hst HQ 1 rfl; clear hF hpre hl hR; go_simp; exact ⟨_, rfl, hgoal _ _ (Below.refl _ _) rfl⟩
            | 2, ho =>
              simp at ho; subst ho; refine step_plain rfl ?_; have e32 := hF.gv hR.2 HQ 1 rfl (hpre ⟨1, .data⟩ (by simp) rfl) rfl; have hgoal := hR.go hst HQ 2 rfl; have q0 := cell_keep hR.1 r3; clear hF hpre hl hR; go_simp; exact ⟨_, rfl, hgoal _ _ (Below.refl _ _) rfl⟩
            | 3, ho =>
              simp at ho; subst ho; refine step_plain rfl ?_; have e5 := hF.was 5 (by kernel_rfl) rfl; have hgoal := hR.go hst HQ 3 rfl; clear hF hpre hl hR; go_simp; exact ⟨_, rfl, hgoal _ _ (Below.refl _ _) rfl⟩
            | 4, ho =>
              simp at ho; subst ho; refine step_plain rfl ?_; have e34 := hF.gv hR.2 HQ 3 rfl (hpre ⟨3, .data⟩ (by simp) rfl) rfl; have hgoal := hR.go hst HQ 4 rfl; have q0 := cell_keep hR.1 r4; clear hF hpre hl hR; go_simp; exact ⟨_, rfl, hgoal _ _ (Below.refl _ _) rfl⟩
            | 5, ho =>
              simp at ho; subst ho; refine step_plain rfl ?_; have e2 := hF.was 2 (by kernel_rfl) rfl; have hgoal := hR.go hst HQ 5 rfl; clear hF hpre hl hR; go_simp; exact ⟨_, rfl, hgoal _ _ (Below.refl _ _) rfl⟩
            | 6, ho =>
              simp at ho; subst ho; refine step_plain rfl ?_; have e36 := hF.gv hR.2 HQ 5 rfl (hpre ⟨5, .data⟩ (by simp) rfl) rfl
              have hgoal : ∀ v0' w0', Below x.heap.size x w0' → QI (zG m) v0' w0' → RQ Q w5 (upd val 6 v0') (L.setIfInBounds 6 true) w0' := fun v0' w0' hb hq => hR.step hst hb ((U6.out _ _).2 hq)
              have hM := Lib.hid hR.1
              clear hF hpre hl hR
              refine step_makeI (.tmp 36) (.tmp 36) rfl m (by simpa [Act.eval] using e36) (by simpa [Act.eval] using e36) hml ?_
              exact ⟨_, rfl, hgoal _ _ ((Below.refl _ _).alloc (Nat.le_refl _) _) (QI.made _ _)⟩
            | 7, ho =>
              simp at ho; subst ho; refine step_plain rfl ?_; have e31 := hF.gv hR.2 HQ 0 rfl (hpre ⟨0, .data⟩ (by simp) rfl) rfl; have e33 := hF.gv hR.2 HQ 2 rfl (hpre ⟨2, .data⟩ (by simp) rfl) rfl; have e35 := hF.gv hR.2 HQ 4 rfl (hpre ⟨4, .data⟩ (by simp) rfl) rfl; have e37 := hF.gave 6 rfl (hpre ⟨6, .data⟩ (by simp) rfl) rfl
              have v6 := (U6.out _ _).1 (hR.2 6 (hpre ⟨6, .data⟩ (by simp) rfl))
              have hgoal : ∀ v0' w0', Below x.heap.size x w0' → QI (swList N D d a v (zG m) m) v0' w0' → RQ Q w5 (upd val 7 v0') (L.setIfInBounds 7 true) w0' := fun v0' w0' hb hq => hR.step hst hb ((U7.out _ _).2 hq)
              have hM := Lib.hid hR.1
              clear hF hpre hl hR
              obtain ⟨A9, c9, h9, _, hr9⟩ := v6
              rw [zG_len] at h9
              rw [h9] at e37
              go_simp
              refine ⟨trivial, ?_⟩
              refine CallsIn.mono (callsIn_wide.2 (HSU.out A9 c9 _ hr9)) ?_
              rintro e w9 ⟨u9, rfl, hu9, hb9⟩
              exact ⟨_, rfl, hgoal _ _ hb9 hu9⟩
            | 8, ho =>
              simp at ho; subst ho; refine step_plain rfl ?_; have e38 := hF.gave 7 rfl (hpre ⟨7, .data⟩ (by simp) rfl) rfl
              have v7 := (U7.out _ _).1 (hR.2 7 (hpre ⟨7, .data⟩ (by simp) rfl))
              have hgoal : ∀ v0' w0', Below x.heap.size x w0' → QI (swList N D d a v (zG m) m) v0' w0' → RQ Q w5 (upd val 8 v0') (L.setIfInBounds 8 true) w0' := fun v0' w0' hb hq => hR.step hst hb ((U8.out _ _).2 hq)
              have hM := Lib.hid hR.1
              clear hF hpre hl hR; go_simp; exact ⟨_, rfl, hgoal _ _ (Below.refl _ _) v7⟩
            | i + 9, ho => simp at ho
          case hend =>
            intro val L b' x hF hall hR
            have e := hF.all (by kernel_rfl) hall
            have k8 := (U8.out _ _).1 (hR.2 8 (hall 8 (by decide)))
            have hB := Lib.hid hR.1
            clear hF hall hR hst HQ U6 U7 U8
            subst e
            simp [final, dstOf, List.range, List.range.loop]
            obtain ⟨A9, c9, h9, _, hr9⟩ := k8
            rw [swList_len] at h9
            rw [h9]
            have HR9 := Lib.hid hr9
            have HB6 := Lib.hid (HB5.out.trans (hB.out.mono HB5.out.size))
            have q2 := cell_keep hB.out r2; have q5 := cell_keep hB.out r5; have q6 := cell_keep hB.out r6
            have HQ := Lib.hid (And.intro q2 (And.intro q5 q6))
            clear r0 r1 r2 r3 r4 r5 r6 l3 l4 l5 l6 l7 l8 hr9 h9 q2 q5 q6 hB HB5 HSU
            go_wp2
            generalize val 0 = z0, val 1 = z1, val 2 = z2, val 3 = z3, val 4 = z4, val 5 = z5, val 6 = z6, val 7 = z7
            go_loopw [12, 13] (fun f t wr => ∃ k : Nat, k ≤ m + 1 ∧ t = .int .i64 ((k : Int) - 1) ∧ f = .int .i64 (frsN m k) ∧ (∀ j, k ≤ j → j < m + 1 → inB N D d a v lo hi j = true) ∧ Below x.heap.size x wr) (fun _ t _ => (intOf t + 1).toNat)
            case atStart => exact ⟨m + 1, Nat.le_refl _, by go_num, by rw [frsN_top], fun j h1 h2 => by omega, Below.refl _ _⟩
            case round =>
              obtain ⟨k, hk, rfl, rfl, hall, hbw⟩ := hrel
              have HALL := Lib.hid hall
              have HBW := Lib.hid hbw
              clear hall hbw
              cases k with
              | zero =>
                have HF := Lib.hid (frsN_lt (m := m) (k := 0) (by omega))
                have hcc : calmC (inB N D d a v lo hi) (m + 1) = 0 := by
                  have := calmC_all (p := inB N D d a v lo hi) (t := 0) (m + 1) (fun j h1 h2 => HALL.out j h1 (by omega))
                  rw [Nat.zero_add] at this
                  exact this
                have HE := Lib.hid (show da = 0 ∧ db = 0 by have := HD.out; rw [hcc, if_pos (by omega)] at this; cases this; exact ⟨rfl, rfl⟩)
                rw [HF.out]
                simp only [Int.natCast_zero]
                go_wp2
                go_ret2
                exact ⟨by rw [HE.out.1, HE.out.2]; rfl, HB6.out.trans (HBW.out.mono HB6.out.size)⟩
              | succ t =>
                rw [show (((t + 1 : Nat) : Int) - 1) = (t : Int) by omega]
                obtain ⟨b9, o9, x9, rfl, hb9, hx9, hc9⟩ := (HR9.out.below HBW.out).at_ (k := t) (by rw [swList_len]; omega)
                rw [swList_get (by omega)] at hx9
                cases hx9
                have c2 := cell_keep HBW.out HQ.out.1
                have c5 := cell_keep HBW.out HQ.out.2.1
                have c6 := cell_keep HBW.out HQ.out.2.2
                have hbd := HSW.out t (by rw [zG_len]; omega)
                have hden := swK_den (N := N) (D := D) (d := d) (a := a) (v := v) (G := zG m) (k := t) (by rw [zG_len]; omega)
                have hpw := powI_bd d1 d2 t
                have hpw2 := Int.le_trans (hpw.2 (by omega)) (powI_4 (show t ≤ 16 by omega))
                have hp1 := hpw.1
                have HPO := Lib.hid (fun W => power_any d t W d1 d2 (by omega))
                have hib : inB N D d a v lo hi t = (decide (lo * (swK N D d a v (zG 17) t).2.2 ≤ (swK N D d a v (zG 17) t).1) && decide ((swK N D d a v (zG 17) t).1 ≤ hi * (swK N D d a v (zG 17) t).2.2)) := rfl
                rw [← swK_z (n := m) (by omega) (by omega)] at hib
                rw [← hden] at hp1 hpw2 HPO
                obtain ⟨⟨pa, pv, pe⟩, hp⟩ : ∃ p, swK N D d a v (zG m) t = p := ⟨_, rfl⟩
                rw [hp] at hbd hp1 hpw2 hib hc9 HPO
                dsimp only at hbd hp1 hpw2 hib hc9 HPO
                obtain ⟨p1, hp1'⟩ : ∃ x, lo * pe = x := ⟨_, rfl⟩
                obtain ⟨p2, hp2'⟩ : ∃ x, hi * pe = x := ⟨_, rfl⟩
                have b1 := mul_bd (a := pe) (A := 4294967296) (u := lo) (M := 1000000) (by omega) hpw2 hlo (by omega) (by omega)
                have b2 := mul_bd (a := pe) (A := 4294967296) (u := hi) (M := 1000000) (by omega) hpw2 (by omega) hhi (by omega)
                rw [show pe * lo = p1 by rw [Int.mul_comm]; exact hp1'] at b1
                rw [show pe * hi = p2 by rw [Int.mul_comm]; exact hp2'] at b2
                have i1 : IntKind.i64.wrap (lo * pe) = p1 := by rw [hp1']; exact IntWalk.i64_in _ (by omega)
                have i2 : IntKind.i64.wrap (hi * pe) = p2 := by rw [hp2']; exact IntWalk.i64_in _ (by omega)
                rw [hp1', hp2'] at hib
                have i3 : (t : Int) < ((m + 1 : Nat) : Int) := by omega
                have i4 : (0 : Int) ≤ (t : Int) := by omega
                have i5 : t < m + 1 := by omega
                have i6 : b9 < wr.heap.size := World.block_lt_of_cell? _ _ hc9
                have i7 : w.heap.size < wr.heap.size := World.block_lt_of_cell? _ _ c2
                have i8 : w.heap.size + 1 + 1 < wr.heap.size := World.block_lt_of_cell? _ _ c5
                have hcs : inB N D d a v lo hi t = false → calmC (inB N D d a v lo hi) (m + 1) = t + 1 := fun hf => by
                  have h1 := calmC_all (p := inB N D d a v lo hi) (t := t + 1) (m - t) (fun j h1 h2 => HALL.out j h1 (by omega))
                  rw [show t + 1 + (m - t) = m + 1 by omega] at h1
                  rw [h1]
                  show (if inB N D d a v lo hi t then _ else t + 1) = _
                  rw [hf]
                  rfl
                have HCS := Lib.hid hcs
                have HIB := Lib.hid hib
                clear hcs hib hbd hden hpw hp hp1' hp2' b1 b2
                by_cases g : p1 ≤ pa ∧ pa ≤ p2
                · obtain ⟨g1, g2⟩ := g
                  have HI := Lib.hid (show inB N D d a v lo hi t = true by rw [HIB.out]; simp [g1, g2])
                  have j1 : decide (pa < p1) = false := decide_eq_false (by omega)
                  have j2 : decide (p2 < pa) = false := decide_eq_false (by omega)
                  have HF := Lib.hid (frsN_lt (m := m) (k := t) (by omega))
                  go_upto_region 14 with (go_at_call 58; refine Calls.mono (HPO.out _) ?_; rintro e w7 ⟨rfl, rfl⟩)
                  go_quiet (fail)
                  go_wp2
                  go_roundw
                  case rel => exact ⟨t, by omega, by go_num, by rw [HF.out], fun j h1 h2 => by
                    by_cases e : j = t
                    · rw [e]; exact HI.out
                    · exact HALL.out j (by omega) h2, below_drewN HBW.out _⟩
                  case measure => simp [intOf] <;> omega
                · have HI := Lib.hid (show inB N D d a v lo hi t = false by
                    rw [HIB.out]
                    simp only [Bool.and_eq_false_iff, decide_eq_false_iff_not]
                    omega)
                  have hcv := HCS.out HI.out
                  by_cases htm : t = m
                  · have HE := Lib.hid (show da = 0 ∧ db = 3 by have := HD.out; rw [hcv, if_neg (by omega)] at this; cases this; exact ⟨rfl, rfl⟩)
                    rw [show frsN m (t + 1) = -1 by rw [htm]; exact frsN_top m]
                    clear htm hcv
                    by_cases g1 : pa < p1
                    · have j1 : decide (pa < p1) = true := by simp [g1]
                      clear g
                      go_upto_region 14 with (go_at_call 58; refine Calls.mono (HPO.out _) ?_; rintro e w7 ⟨rfl, rfl⟩)
                      go_quiet (fail)
                      go_wp2
                      go_ret2
                      exact ⟨by rw [HE.out.1, HE.out.2]; rfl, HB6.out.trans ((below_drewN HBW.out _).mono HB6.out.size)⟩
                    · have g2 : p2 < pa := by omega
                      have j1 : decide (pa < p1) = false := decide_eq_false (by omega)
                      have j2 : decide (p2 < pa) = true := by simp [g2]
                      clear g
                      go_upto_region 14 with (go_at_call 58; refine Calls.mono (HPO.out _) ?_; rintro e w7 ⟨rfl, rfl⟩)
                      go_quiet (fail)
                      go_wp2
                      go_ret2
                      exact ⟨by rw [HE.out.1, HE.out.2]; rfl, HB6.out.trans ((below_drewN HBW.out _).mono HB6.out.size)⟩
                  · have HE := Lib.hid (show da = ((t + 1 : Nat) : Int) ∧ db = 0 by have := HD.out; rw [hcv, if_pos (by omega)] at this; cases this; exact ⟨rfl, rfl⟩)
                    rw [frsN_lt (show t + 1 ≤ m by omega)]
                    have hnn : ¬ (((t + 1 : Nat) : Int) < 0) := by omega
                    generalize ((t + 1 : Nat) : Int) = t1 at *
                    clear htm hcv
                    by_cases g1 : pa < p1
                    · have j1 : decide (pa < p1) = true := by simp [g1]
                      clear g
                      go_upto_region 14 with (go_at_call 58; refine Calls.mono (HPO.out _) ?_; rintro e w7 ⟨rfl, rfl⟩)
                      go_quiet (fail)
                      go_wp2
                      go_ret2
                      exact ⟨by rw [HE.out.1, HE.out.2]; rfl, HB6.out.trans ((below_drewN HBW.out _).mono HB6.out.size)⟩
                    · have g2 : p2 < pa := by omega
                      have j1 : decide (pa < p1) = false := decide_eq_false (by omega)
                      have j2 : decide (p2 < pa) = true := by simp [g2]
                      clear g
                      go_upto_region 14 with (go_at_call 58; refine Calls.mono (HPO.out _) ?_; rintro e w7 ⟨rfl, rfl⟩)
                      go_quiet (fail)
                      go_wp2
                      go_ret2
                      exact ⟨by rw [HE.out.1, HE.out.2]; rfl, HB6.out.trans ((below_drewN HBW.out _).mono HB6.out.size)⟩
        · have GN := Lib.hid (w7_no gn)
          rw [calm_1 hsl hvs (by rw [hst]; simpa using gn)]
          clear hsl hvs hst gn
          go_enter Try.func21, Try.ntmps21
          go_upto_region 1 with fail
          rw [HWA.out]
          obtain ⟨⟨t0, t1, t2⟩, ⟨t3, t4⟩, t5, t6⟩ := HT.out
          go_wp2_with (first
            | (go_at_call 16; refine Calls.mono (HC.out _) ?_; rintro e w3 ⟨rfl, hb3⟩; have r5 := cell_keep hb3 t5; have r6 := cell_keep hb3 t6; have r3 := cell_keep hb3 t3; have r4 := cell_keep hb3 t4; have l5 := World.block_lt_of_cell? _ _ r5; have l3 := World.block_lt_of_cell? _ _ r3; have HB3 := Lib.hid (HB0.out.trans (hb3.mono HB0.out.size)); clear hb3 t0 t1 t2 t3 t4 t5 t6)
            | (go_at_call 61; refine Calls.mono (HV.out _) ?_; rintro e w4 ⟨rfl, hb4⟩; have s3 := cell_keep hb4 r3; have s4 := cell_keep hb4 r4; have l4 := World.block_lt_of_cell? _ _ s3; have HB4 := Lib.hid (HB3.out.trans (hb4.mono HB3.out.size)); clear hb4 r3 r4 r5 r6)
            | (go_at_call 55; refine Calls.mono (HST.out _) ?_; rintro e w5 ⟨rfl, hb5⟩; have HB5 := Lib.hid (HB4.out.trans (hb5.mono HB4.out.size)); clear hb5)
            | (go_at_call 50; refine Calls.mono (GN.out _) ?_; rintro e w6 ⟨rfl, rfl⟩))
          go_ret2
          exact ⟨rfl, HB5.out⟩
end Go.Proofs.Ytnnmmojlgikdgaa

/- A drawn region with an append of one number to a list of the call's own, and reads of other blocks in any order with it. -/
namespace Go.Proofs.Ytnnmmojlgikdgaa
open Go.RowKit

/-- A slice of one number, in memory. -/
def OneI (y : Int) (v : Value) (W : World) : Prop := ∃ g, v = .slice (some ⟨g, 0, none⟩) 1 1 ∧ W.cell? ⟨g, 0, none⟩ = some (.int .i64 y)
theorem OneI.stay {y : Int} {v : Value} {W W' : World} (h : OneI y v W) (hb : Below W.heap.size W W') : OneI y v W' := by
  obtain ⟨g, e, h1⟩ := h
  exact ⟨g, e, cell_keep hb h1⟩
theorem OneI.new {y : Int} {W : World} {T : TypeId} {m : Nat × Nat} : OneI y (.slice (some ⟨W.heap.size, 0, none⟩) 1 1) (W.alloc (.cells #[.int .i64 y] T m)) :=
  ⟨_, rfl, by rw [cell_newest]; rfl⟩
theorem step_pushI {F : Fence} {n : Nat} {w : World} {o : Oper} {a : Act} {K : Act → World → Prop} {Q : Exit → Act → World → Prop} (s x : Operand)
    (hop : o.op = .call { callee := .builtin .append, args := #[s, x], argTypes := #[25, 25] }) (base : Nat) (v : Value) (xs : List Int) (hs : a.eval s = v) (hown : OI base v xs w)
    (vx : Value) (y : Int) (hx : a.eval x = vx) (hy : OneI y vx w) (hlen : xs.length ≤ 1000000) (hbase : base ≤ w.heap.size)
    (h : ∀ v' w', OI base v' (xs ++ [y]) w' → w.grownBy w' v.ownBlock → K (a.put o.dst v') w') : o.wpIn F n Try.prog a w K Q := by
  obtain ⟨g, rfl, h1⟩ := hy
  exact step_push s x hop base v xs hs hown g y hx h1 hlen hbase h

def RA (Q E : Nat → Value → World → Prop) (W0 : World) (s t : Nat) (u : Value) (P : Value → World → Prop) (val : Nat → Value) (L : Array Bool) (W : World) : Prop :=
  (∀ j, L.getD j false = true → j ≠ s → j ≠ t → Q j (val j) W) ∧
  (L.getD s false = false → Below W0.heap.size W0 W ∧ ∀ j, L.getD j false = true → E j (val j) W) ∧
  (L.getD s false = true → P (val s) W ∧ (L.getD t false = true → val t = val s) ∧ ∃ y, Below W0.heap.size W0 y ∧ y.grownBy W u.ownBlock)
section
variable {Q E : Nat → Value → World → Prop} {W0 W W' : World} {s t i : Nat} {u v : Value} {P : Value → World → Prop} {val : Nat → Value} {L : Array Bool}
theorem World.grownBy.same {w : World} {r : Option Nat} : w.grownBy w r := ⟨rfl, rfl, rfl, Nat.le_refl _, fun _ _ _ => rfl⟩
theorem RA.start (Q E : Nat → Value → World → Prop) (W0 : World) (s t : Nat) (u : Value) (P : Value → World → Prop) (n : Nat) : RA Q E W0 s t u P (fun _ => undef) (Array.replicate n false) W0.drew :=
  ⟨fun j h => (by rw [getD_replicate_no] at h; cases h), fun _ => ⟨(Below.refl _ _).drew, fun j h => (by rw [getD_replicate_no] at h; cases h)⟩, fun h => (by rw [getD_replicate_no] at h; cases h)⟩
theorem RA.vals (h : RA Q E W0 s t u P val L W) (hQ : Still Q) (hq : Q i v W') : ∀ j, (L.setIfInBounds i true).getD j false = true → j ≠ s → j ≠ t → Q j (upd val i v j) W' := fun j hj h1 h2 => by
  by_cases e : j = i
  · subst e; rw [upd_same]; exact hq
  · rw [upd_other e]
    rw [getD_set_other (fun h => e h.symm)] at hj
    exact hQ _ _ _ _ (h.1 j hj h1 h2)
/-- An operation ahead of the append. -/
theorem RA.step (h : RA Q E W0 s t u P val L W) (hQ : Still Q) (hE : Stays E) (hN : L.getD s false = false) (hb : Below W.heap.size W W') (hq : Q i v W') (he : E i v W') (hs : i ≠ s) : RA Q E W0 s t u P (upd val i v) (L.setIfInBounds i true) W' := by
  refine ⟨h.vals hQ hq, fun _ => ⟨(h.2.1 hN).1.trans (hb.mono (h.2.1 hN).1.size), fun j hj => ?_⟩, fun h2 => (by rw [getD_set_other hs, hN] at h2; cases h2)⟩
  by_cases e : j = i
  · subst e; rw [upd_same]; exact he
  · rw [upd_other e]
    rw [getD_set_other (fun h => e h.symm)] at hj
    exact hE _ _ _ _ ((h.2.1 hN).2 j hj) hb
/-- An operation that reads. -/
theorem RA.read (h : RA Q E W0 s t u P val L W) (hQ : Still Q) (_hE : Stays E) (hq : Q i v W) (he : E i v W) (hs : i ≠ s) (ht : i ≠ t) : RA Q E W0 s t u P (upd val i v) (L.setIfInBounds i true) W := by
  refine ⟨h.vals hQ hq, fun h2 => ?_, fun h2 => ?_⟩
  · rw [getD_set_other hs] at h2
    refine ⟨(h.2.1 h2).1, fun j hj => ?_⟩
    by_cases e : j = i
    · subst e; rw [upd_same]; exact he
    · rw [upd_other e]
      rw [getD_set_other (fun h => e h.symm)] at hj
      exact (h.2.1 h2).2 j hj
  · rw [getD_set_other hs] at h2
    obtain ⟨a, b, c⟩ := h.2.2 h2
    refine ⟨by rw [upd_other (fun e => hs e.symm)]; exact a, fun h3 => ?_, c⟩
    rw [getD_set_other ht] at h3
    rw [upd_other (fun e => ht e.symm), upd_other (fun e => hs e.symm)]
    exact b h3
theorem RA.push (h : RA Q E W0 s t u P val L W) (hQ : Still Q) (hls : s < L.size) (hN : L.getD s false = false) (hT : L.getD t false = false) (hst : s ≠ t) (hp : P v W') (hg : W.grownBy W' u.ownBlock) : RA Q E W0 s t u P (upd val s v) (L.setIfInBounds s true) W' := by
  refine ⟨fun j hj h1 h2 => ?_, fun h2 => (by rw [getD_set_eq hls] at h2; cases h2), fun _ => ⟨by rw [upd_same]; exact hp, fun h3 => (by rw [getD_set_other hst, hT] at h3; cases h3), W, (h.2.1 hN).1, hg⟩⟩
  rw [upd_other h1]
  rw [getD_set_other (fun h => h1 h.symm)] at hj
  exact hQ _ _ _ _ (h.1 j hj h1 h2)
theorem RA.assign (h : RA Q E W0 s t u P val L W) (hS : L.getD s false = true) (hst : s ≠ t) : RA Q E W0 s t u P (upd val t (val s)) (L.setIfInBounds t true) W := by
  refine ⟨fun j hj h1 h2 => ?_, fun h2 => (by rw [getD_set_other hst.symm, hS] at h2; cases h2), fun _ => ?_⟩
  · rw [upd_other h2]
    rw [getD_set_other (fun h => h2 h.symm)] at hj
    exact h.1 j hj h1 h2
  · obtain ⟨a, b, c⟩ := h.2.2 hS
    exact ⟨by rw [upd_other hst]; exact a, fun _ => by rw [upd_same, upd_other hst], c⟩
theorem RA.blk {b : Nat} {o : Obj} (h : RA Q E W0 s t u P val L W) (hb : W0.heap[b]? = some o) (hne : some b ≠ u.ownBlock) : W.heap[b]? = some o := by
  cases hs : L.getD s false with
  | false => exact ((h.2.1 hs).1.block b (lt_of_block hb)).trans hb
  | true =>
    obtain ⟨_, _, y, hy, hg⟩ := h.2.2 hs
    have h1 := (hy.block b (lt_of_block hb)).trans hb
    exact (hg.block b (lt_of_block h1) hne).trans h1
theorem RA.cell {b o : Nat} {x : Value} (h : RA Q E W0 s t u P val L W) (hb : W0.cell? ⟨b, o, none⟩ = some x) (hne : some b ≠ u.ownBlock) : W.cell? ⟨b, o, none⟩ = some x := by
  cases hs : L.getD s false with
  | false => exact cell_keep (h.2.1 hs).1 hb
  | true =>
    obtain ⟨_, _, y, hy, hg⟩ := h.2.2 hs
    have h1 := cell_keep hy hb
    exact (World.cell?_of_block (hg.block b (World.block_lt_of_cell? _ _ h1) hne)).trans h1
variable {vals : List (Option Value)} {ex : Nat → Value → World → Prop}
theorem RA.go (h : RA Q E W0 s t u P val L W) (hQ : Still Q) (hE : Stays E) (hN : L.getD s false = false) (HQ : Hid (Q = QG vals ex)) (i : Nat) {x : Value} (hx : vals[i]? = some (some x)) (he : ∀ v W, E i v W) (hs : i ≠ s) : ∀ v W', Below W.heap.size W W' → v = x → RA Q E W0 s t u P (upd val i v) (L.setIfInBounds i true) W' :=
  fun v W' hb e => h.step hQ hE hN hb (QG.put HQ hx e) (he v W') hs
theorem RA.goR (h : RA Q E W0 s t u P val L W) (hQ : Still Q) (hE : Stays E) (HQ : Hid (Q = QG vals ex)) (i : Nat) {x : Value} (hx : vals[i]? = some (some x)) (he : ∀ v W, E i v W) (hs : i ≠ s) (ht : i ≠ t) : ∀ v, v = x → RA Q E W0 s t u P (upd val i v) (L.setIfInBounds i true) W :=
  fun v e => h.read hQ hE (QG.put HQ hx e) (he v W) hs ht
end
theorem Fr.gvs {Q : Nat → Value → World → Prop} {vals : List (Option Value)} {ex : Nat → Value → World → Prop} {ops : Array Oper} {T : Array Value} {val : Nat → Value} {L : Array Bool} {a : Act} {W : World} {s' t' : Nat} (h : Fr ops T val L a) (hR : ∀ j, L.getD j false = true → j ≠ s' → j ≠ t' → Q j (val j) W) (HQ : Hid (Q = QG vals ex)) (i : Nat) (h1 : i ≠ s') (h2 : i ≠ t') {s : Tmp} {x : Value} (hi : dstOf ops i = some s) (hl : L.getD i false = true) (hx : vals[i]? = some (some x)) : a.tmps[s]?.getD undef = x :=
  h.gave i hi hl (QG.val HQ hx (hR i hl h1 h2))
end Go.Proofs.Ytnnmmojlgikdgaa

/- All blocks but one are kept. -/
namespace Go.Proofs.Ytnnmmojlgikdgaa
open Go.RowKit

def Kept (g : Nat) (W W' : World) : Prop := Below g W W' ∧ ∀ b, b < W.heap.size → b ≠ g → W'.heap[b]? = W.heap[b]?
section
variable {g : Nat} {W W1 W2 : World}
theorem Kept.refl (g : Nat) (W : World) : Kept g W W := ⟨Below.refl _ _, fun _ _ _ => rfl⟩
theorem Kept.of (h : Below W.heap.size W W1) (hg : g ≤ W.heap.size) : Kept g W W1 := ⟨h.mono hg, fun b hb _ => h.block b hb⟩
theorem Kept.trans (h : Kept g W W1) (h2 : Kept g W1 W2) : Kept g W W2 :=
  ⟨h.1.trans h2.1, fun b hb hn => (h2.2 b (Nat.lt_of_lt_of_le hb h.1.size) hn).trans (h.2 b hb hn)⟩
theorem Kept.setCell (h : Kept g W W1) (o : Nat) (v : Value) : Kept g W (W1.setCell ⟨g, o, none⟩ v) :=
  ⟨h.1.setCell (Nat.le_refl _) v, fun b hb hn => by
    rw [← h.2 b hb hn]
    exact Below.heap_setCell _ _ _ _ hn⟩
theorem Kept.cell (h : Kept g W W1) {b o : Nat} {v : Value} (hc : W.cell? ⟨b, o, none⟩ = some v) (hn : b ≠ g) : W1.cell? ⟨b, o, none⟩ = some v := by
  have hl : b < W.heap.size := World.block_lt_of_cell? W _ hc
  unfold World.cell? at hc ⊢
  rw [h.2 b hl hn]
  exact hc
theorem Kept.low (h : Kept g W W1) {B : Nat} (hB : B ≤ g) : Below B W W1 := h.1.mono hB
theorem Kept.ht {B : Nat} {AX AY AV : Option Addr} {nx ny nv : Nat} {X Y : List Int} {V : List (List Int)} (h : Kept g W W1) (hB : B ≤ g) (ht : HT W B AX AY AV nx ny nv X Y V) : HT W1 B AX AY AV nx ny nv X Y V :=
  ⟨ht.hx, ht.hy, ht.hv, ht.mx, ht.my, ht.mv, ht.mr, ht.tb.below (h.low hB), by have := h.1.size; have := ht.hB; omega⟩
end
end Go.Proofs.Ytnnmmojlgikdgaa

/- A drawn region with one store into a box that was there, anywhere among its operations; all other blocks stay. -/
namespace Go.Proofs.Ytnnmmojlgikdgaa
open Go.RowKit

def RK (Q : Nat → Value → World → Prop) (W0 : World) (s q : Nat) (o1 : Obj) (val : Nat → Value) (L : Array Bool) (W : World) : Prop :=
  Kept q W0 W ∧ (∀ j, L.getD j false = true → Q j (val j) W) ∧ (L.getD s false = true → W.heap[q]? = some o1) ∧ (L.getD s false = false → W.heap[q]? = W0.heap[q]?)
section
variable {Q : Nat → Value → World → Prop} {W0 W W' : World} {s q i : Nat} {o1 : Obj} {v : Value} {val : Nat → Value} {L : Array Bool}
theorem RK.start (Q : Nat → Value → World → Prop) (W0 : World) (s q : Nat) (o1 : Obj) (n : Nat) : RK Q W0 s q o1 (fun _ => undef) (Array.replicate n false) W0.drew :=
  ⟨⟨(Below.refl _ _).drew, fun _ _ _ => rfl⟩, fun j h => (by rw [getD_replicate_no] at h; cases h), fun h => (by rw [getD_replicate_no] at h; cases h), fun _ => rfl⟩
theorem RK.vals (h : RK Q W0 s q o1 val L W) (hQ : Still Q) (hq : Q i v W') : ∀ j, (L.setIfInBounds i true).getD j false = true → Q j (upd val i v j) W' := fun j hj => by
  by_cases e : j = i
  · subst e; rw [upd_same]; exact hq
  · rw [upd_other e]
    rw [getD_set_other (fun h => e h.symm)] at hj
    exact hQ _ _ _ _ (h.2.1 j hj)
theorem RK.step (h : RK Q W0 s q o1 val L W) (hQ : Still Q) (hq0 : q < W0.heap.size) (hb : Below W.heap.size W W') (hq : Q i v W') (hs : i ≠ s) : RK Q W0 s q o1 (upd val i v) (L.setIfInBounds i true) W' := by
  have hlt : q < W.heap.size := Nat.lt_of_lt_of_le hq0 h.1.1.size
  refine ⟨h.1.trans (Kept.of hb (Nat.le_of_lt hlt)), h.vals hQ hq, fun hl => ?_, fun hl => ?_⟩
  · rw [getD_set_other hs] at hl
    exact (hb.block q hlt).trans (h.2.2.1 hl)
  · rw [getD_set_other hs] at hl
    exact (hb.block q hlt).trans (h.2.2.2 hl)
theorem RK.store (h : RK Q W0 s q o1 val L W) (hQ : Still Q) (hls : s < L.size) (hk : Kept q W W') (hc : W'.heap[q]? = some o1) (hq : Q s v W') : RK Q W0 s q o1 (upd val s v) (L.setIfInBounds s true) W' :=
  ⟨h.1.trans hk, h.vals hQ hq, fun _ => hc, fun hl => (by rw [getD_set_eq hls] at hl; cases hl)⟩
end
section
variable {Q : Nat → Value → World → Prop} {vals : List (Option Value)} {ex : Nat → Value → World → Prop} {W0 W : World} {s q : Nat} {o1 : Obj} {val : Nat → Value} {L : Array Bool}
theorem RK.go (h : RK Q W0 s q o1 val L W) (hQ : Still Q) (hq0 : q < W0.heap.size) (HQ : Hid (Q = QG vals ex)) (i : Nat) {x : Value} (hx : vals[i]? = some (some x)) (hs : i ≠ s) : ∀ v W', Below W.heap.size W W' → v = x → RK Q W0 s q o1 (upd val i v) (L.setIfInBounds i true) W' :=
  fun _ _ hb e => h.step hQ hq0 hb (QG.put HQ hx e) hs
theorem RK.goT (h : RK Q W0 s q o1 val L W) (hQ : Still Q) (hq0 : q < W0.heap.size) {i : Nat} (hn : ∀ v W, Q i v W) (hs : i ≠ s) : ∀ v W', Below W.heap.size W W' → True → RK Q W0 s q o1 (upd val i v) (L.setIfInBounds i true) W' :=
  fun v W' hb _ => h.step hQ hq0 hb (hn v W') hs
end
end Go.Proofs.Ytnnmmojlgikdgaa

/- Blocks that are new, and old ones. -/
namespace Go.Proofs.Ytnnmmojlgikdgaa
open Go.RowKit

theorem blk_new (W : World) (o : Obj) (b : Nat) (h : W.heap.size = b) : (W.alloc o).heap[b]? = some o := by
  subst h
  show (W.heap.push _)[W.heap.size]? = _
  simp
theorem blk_old {W : World} {b : Nat} {x : Obj} (o : Obj) (h : W.heap[b]? = some x) : (W.alloc o).heap[b]? = some x := by
  have hl : b < W.heap.size := by
    rw [Array.getElem?_eq_some_iff] at h
    exact h.1
  exact (Below.heap_alloc _ _ _ hl).trans h
end Go.Proofs.Ytnnmmojlgikdgaa

/- Plain mathematics: a table's values on a box lie between those at its corners; the first greatest corner is the greatest. -/
import Derived.Test.YtjdahphnmeaolaaGmath
import Derived.Test.YtjdahphnmeaolaaRwst
import Derived.Test.YtjdahphnmeaolaaRgst
namespace Go.Proofs.Ytjdahphnmeaolaa

/-- The value on an axis of what is f at its knots. -/
def axF (X : List Int) (f : Nat → Int) (x : Int) : Int := (gz X (partN X x + 1) - x) * f (partN X x) + (x - gz X (partN X x)) * f (partN X x + 1)
theorem pos_le {s u : Int} (hs : 1 ≤ s) : s * u ≤ 0 ↔ u ≤ 0 := by
  constructor
  · intro h
    rcases ilt 0 u with h' | h'
    · have := Int.mul_pos (show 0 < s by omega) h'
      omega
    · exact h'
  · intro h
    exact Int.mul_nonpos_of_nonneg_of_nonpos (by omega) h

theorem axF_seg {X : List Int} {f : Nat → Int} {x : Int} {m : Nat} (ha : axB X = true) (hm : m + 1 < X.length) (h0 : gz X m ≤ x) (h1 : x ≤ gz X (m + 1)) :
    axF X f x ≤ 0 ↔ (gz X (m + 1) - x) * f m + (x - gz X m) * f (m + 1) ≤ 0 := by
  obtain ⟨a, b, c, d⟩ := axB_get ha
  have lo := knot_on ha (i := m) (by omega)
  have hi := knot_on ha (i := m + 1) hm
  have hx : On X x := ⟨by have := lo.1; omega, by have := hi.2; omega⟩
  have s := seg_of ha hx.1 hx.2
  unfold axF
  generalize hp : partN X x = p at *
  have sl := s.lt
  have s1 := s.lo
  have s2 := s.hi
  have s3 := s.d1
  have hd := stN_get d (m := m) (by omega)
  have hd1 : 1 ≤ gz X (m + 1) - gz X m := hd.1
  rcases Nat.lt_trichotomy p m with hlt | rfl | hlt
  · have hpm : p + 1 = m := by
      rcases Nat.lt_or_ge (p + 1) m with h | h
      · have := st_mono d h (by omega)
        omega
      · omega
    subst hpm
    have ex : x = gz X (p + 1) := by omega
    rw [ex, Int.sub_self, Int.zero_mul, Int.zero_mul, Int.zero_add, Int.add_zero, pos_le (by omega), pos_le (by omega)]
  · exact Iff.rfl
  · have hpm : p = m + 1 := by
      rcases Nat.lt_or_ge (m + 1) p with h | h
      · have := st_mono d h (by omega)
        omega
      · omega
    subst hpm
    have ex : x = gz X (m + 1) := by omega
    rw [ex, Int.sub_self, Int.zero_mul, Int.zero_mul, Int.zero_add, Int.add_zero, pos_le (by omega), pos_le (by omega)]

/-- The ends beside a number, in one part. -/
theorem ends_beside {X : List Int} {x1 x2 x : Int} (ha : axB X = true) (o1 : On X x1) (o2 : On X x2) (h1 : x1 ≤ x) (h2 : x ≤ x2) :
    ∃ (m : Nat) (a b : Int), m + 1 < X.length ∧ a ∈ endsL X x1 x2 ∧ b ∈ endsL X x1 x2 ∧ gz X m ≤ a ∧ a ≤ x ∧ x ≤ b ∧ b ≤ gz X (m + 1) := by
  have hx : On X x := ⟨by have := o1.1; omega, by have := o2.2; omega⟩
  have s := seg_of ha hx.1 hx.2
  have hl := s.lt
  have hlo := s.lo
  have hhi := s.hi
  generalize partN X x = m at *
  have mem : ∀ n, n < X.length → x1 < gz X n → gz X n < x2 → gz X n ∈ endsL X x1 x2 := fun n hn h3 h4 => by
    unfold endsL
    simp only [List.mem_cons, List.mem_append, List.mem_filter, Bool.and_eq_true, decide_eq_true_eq]
    refine .inr (.inl ⟨?_, h3, h4⟩)
    unfold gz
    rw [List.getElem?_eq_getElem hn]
    exact List.getElem_mem hn
  have m1 : x1 ∈ endsL X x1 x2 := by unfold endsL; simp
  have m2 : x2 ∈ endsL X x1 x2 := by
    unfold endsL
    by_cases h : x1 < x2
    · simp [h]
    · simp; omega
  obtain ⟨a, a1, a2, a3⟩ : ∃ a, a ∈ endsL X x1 x2 ∧ gz X m ≤ a ∧ a ≤ x := by
    by_cases h : gz X m ≤ x1
    · exact ⟨x1, m1, h, h1⟩
    · by_cases h' : gz X m < x2
      · exact ⟨gz X m, mem m (by omega) (by omega) h', Int.le_refl _, hlo⟩
      · exact ⟨x2, m2, by omega, by omega⟩
  obtain ⟨b, b1, b2, b3⟩ : ∃ b, b ∈ endsL X x1 x2 ∧ x ≤ b ∧ b ≤ gz X (m + 1) := by
    by_cases h : x2 ≤ gz X (m + 1)
    · exact ⟨x2, m2, h2, h⟩
    · by_cases h' : x1 < gz X (m + 1)
      · exact ⟨gz X (m + 1), mem (m + 1) hl h' (by omega), hhi, Int.le_refl _⟩
      · exact ⟨x1, m1, by omega, by omega⟩
  exact ⟨m, a, b, hl, a1, b1, a2, a3, b2, b3⟩

theorem axF_ends {X : List Int} {f : Nat → Int} {x1 x2 x : Int} (ha : axB X = true) (o1 : On X x1) (o2 : On X x2) (h1 : x1 ≤ x) (h2 : x ≤ x2) (hE : ∀ e ∈ endsL X x1 x2, axF X f e ≤ 0) : axF X f x ≤ 0 := by
  obtain ⟨m, a, b, hl, ha1, hb1, h3, h4, h5, h6⟩ := ends_beside ha o1 o2 h1 h2
  have ea := (axF_seg (f := f) ha hl h3 (by omega)).1 (hE a ha1)
  have eb := (axF_seg (f := f) ha hl (by omega) h6).1 (hE b hb1)
  refine (axF_seg ha hl (by omega) (by omega)).2 ?_
  by_cases e : a = b
  · have : x = a := by omega
    rw [this]
    exact ea
  · -- affine: (b - a) G x = (b - x) G a + (x - a) G b
    have k1 := Int.mul_nonpos_of_nonneg_of_nonpos (show 0 ≤ b - x by omega) ea
    have k2 := Int.mul_nonpos_of_nonneg_of_nonpos (show 0 ≤ x - a by omega) eb
    have hk : (b - a) * ((gz X (m + 1) - x) * f m + (x - gz X m) * f (m + 1)) = (b - x) * ((gz X (m + 1) - a) * f m + (a - gz X m) * f (m + 1)) + (x - a) * ((gz X (m + 1) - b) * f m + (b - gz X m) * f (m + 1)) := by grind
    exact (pos_le (show 1 ≤ b - a by omega)).1 (by rw [hk]; omega)

/-- What is so at the corners is so at each point. -/
theorem all_points {X Y : List Int} {V : List (List Int)} {x1 x2 y1 y2 x y s M : Int} (hct : ctB X Y V = true) (ox1 : On X x1) (ox2 : On X x2) (oy1 : On Y y1) (oy2 : On Y y2) (hx1 : x1 ≤ x) (hx2 : x ≤ x2) (hy1 : y1 ≤ y) (hy2 : y ≤ y2)
    (hE : ∀ a ∈ endsL X x1 x2, ∀ b ∈ endsL Y y1 y2, s * (atN X Y V a b - M * atD X Y a b) ≤ 0) : s * (atN X Y V x y - M * atD X Y x y) ≤ 0 := by
  obtain ⟨ha, hb, _, _⟩ := ctB_get hct
  have eX : ∀ a b, s * (atN X Y V a b - M * atD X Y a b) = axF X (fun p => s * unP Y V p M b) a := fun a b => by
    unfold axF atN atD unP
    grind
  have eY : ∀ a b, s * (atN X Y V a b - M * atD X Y a b) = axF Y (fun k => s * ((gz X (partN X a + 1) - a) * (gz (gr V (partN X a)) k - M) + (a - gz X (partN X a)) * (gz (gr V (partN X a + 1)) k - M))) b := fun a b => by
    unfold axF atN atD kNum kDen
    grind
  rw [eX]
  refine axF_ends ha ox1 ox2 hx1 hx2 fun a ha' => ?_
  rw [← eX, eY]
  refine axF_ends hb oy1 oy2 hy1 hy2 fun b hb' => ?_
  rw [← eY]
  exact hE a ha' b hb'

theorem fl_ge {N D m : Int} (h : 1 ≤ D) : m ≤ fl N D ↔ m * D ≤ N := by unfold fl; exact Int.le_ediv_iff_mul_le (by omega)

theorem bnd_fold (l : List Cn) (s : Int × Int) : ((l.foldl bndStep s).1 ≤ s.1 ∧ s.2 ≤ (l.foldl bndStep s).2) ∧ ∀ c ∈ l, (l.foldl bndStep s).1 ≤ fl c.1 c.2.1 ∧ cl c.1 c.2.1 ≤ (l.foldl bndStep s).2 := by
  induction l generalizing s with
  | nil => simp
  | cons x l ih =>
    obtain ⟨⟨h1, h2⟩, h3⟩ := ih (bndStep s x)
    have e1 : (bndStep s x).1 = min s.1 (fl x.1 x.2.1) := rfl
    have e2 : (bndStep s x).2 = max s.2 (cl x.1 x.2.1) := rfl
    rw [List.foldl_cons]
    generalize bndStep s x = s' at *
    generalize l.foldl bndStep s' = r at *
    refine ⟨⟨by omega, by omega⟩, fun c hc => ?_⟩
    rcases List.mem_cons.1 hc with rfl | hc
    · exact ⟨by omega, by omega⟩
    · exact h3 c hc
theorem bnd_least (l : List Cn) (s : Int × Int) (m M : Int) (h1 : m ≤ s.1) (h2 : s.2 ≤ M) (h : ∀ c ∈ l, m ≤ fl c.1 c.2.1 ∧ cl c.1 c.2.1 ≤ M) : m ≤ (l.foldl bndStep s).1 ∧ (l.foldl bndStep s).2 ≤ M := by
  induction l generalizing s with
  | nil => exact ⟨h1, h2⟩
  | cons x l ih =>
    have hx := h x (by simp)
    exact ih (bndStep s x) (by simp only [bndStep]; omega) (by simp only [bndStep]; omega) (fun c hc => h c (by simp [hc]))
theorem corner_mem {X Y : List Int} {V : List (List Int)} {EX EY : List Int} {a b : Int} (ha : a ∈ EX) (hb : b ∈ EY) : cnOf X Y V a b ∈ cornersL X Y V EX EY := by
  unfold cornersL
  exact List.mem_flatMap.2 ⟨a, ha, List.mem_map.2 ⟨b, hb, rfl⟩⟩
theorem corner_of {X Y : List Int} {V : List (List Int)} {EX EY : List Int} {c : Cn} (h : c ∈ cornersL X Y V EX EY) : ∃ a b, a ∈ EX ∧ b ∈ EY ∧ c = cnOf X Y V a b := by
  unfold cornersL at h
  obtain ⟨a, ha, h⟩ := List.mem_flatMap.1 h
  obtain ⟨b, hb, rfl⟩ := List.mem_map.1 h
  exact ⟨a, b, ha, hb, rfl⟩

/-- At each point of a box the value lies within the bound. -/
theorem inside {X Y : List Int} {V : List (List Int)} {x1 x2 y1 y2 x y : Int} (hct : ctB X Y V = true) (ox1 : On X x1) (ox2 : On X x2) (oy1 : On Y y1) (oy2 : On Y y2) (hx1 : x1 ≤ x) (hx2 : x ≤ x2) (hy1 : y1 ≤ y) (hy2 : y ≤ y2) :
    (bndL (cornersL X Y V (endsL X x1 x2) (endsL Y y1 y2))).1 ≤ fl (atN X Y V x y) (atD X Y x y) ∧ cl (atN X Y V x y) (atD X Y x y) ≤ (bndL (cornersL X Y V (endsL X x1 x2) (endsL Y y1 y2))).2 := by
  obtain ⟨ha, hb, _, _⟩ := ctB_get hct
  have hx : On X x := ⟨by have := ox1.1; omega, by have := ox2.2; omega⟩
  have hy : On Y y := ⟨by have := oy1.1; omega, by have := oy2.2; omega⟩
  have hd := (atD_bd ha hb hx hy).1
  have eo := endsL_on ox1 ox2
  have fo := endsL_on oy1 oy2
  obtain ⟨_, hall⟩ := bnd_fold (cornersL X Y V (endsL X x1 x2) (endsL Y y1 y2)) (1000000, -1000000)
  have hB : bndL (cornersL X Y V (endsL X x1 x2) (endsL Y y1 y2)) = (cornersL X Y V (endsL X x1 x2) (endsL Y y1 y2)).foldl bndStep (1000000, -1000000) := rfl
  rw [← hB] at hall
  generalize bndL (cornersL X Y V (endsL X x1 x2) (endsL Y y1 y2)) = B at *
  constructor
  · rw [fl_ge hd]
    have := all_points (s := -1) (M := B.1) hct ox1 ox2 oy1 oy2 hx1 hx2 hy1 hy2 (fun a ha' b hb' => by
      have h1 := (hall _ (corner_mem (V := V) ha' hb')).1
      simp only [cnOf] at h1
      have := (fl_ge (atD_bd ha hb (eo a ha') (fo b hb')).1).1 h1
      omega)
    omega
  · rw [cl_le hd]
    have := all_points (s := 1) (M := B.2) hct ox1 ox2 oy1 oy2 hx1 hx2 hy1 hy2 (fun a ha' b hb' => by
      have h1 := (hall _ (corner_mem (V := V) ha' hb')).2
      simp only [cnOf] at h1
      have := (cl_le (atD_bd ha hb (eo a ha') (fo b hb')).1).1 h1
      omega)
    omega

/-- On a part of a box the bound is not wider. -/
theorem part_in {X Y : List Int} {V : List (List Int)} {x1 x2 y1 y2 a1 a2 b1 b2 : Int} (hct : ctB X Y V = true) (ox1 : On X x1) (ox2 : On X x2) (oy1 : On Y y1) (oy2 : On Y y2) (h1 : x1 ≤ a1) (h2 : a1 ≤ a2) (h3 : a2 ≤ x2) (h4 : y1 ≤ b1) (h5 : b1 ≤ b2) (h6 : b2 ≤ y2) :
    (bndL (cornersL X Y V (endsL X x1 x2) (endsL Y y1 y2))).1 ≤ (bndL (cornersL X Y V (endsL X a1 a2) (endsL Y b1 b2))).1 ∧ (bndL (cornersL X Y V (endsL X a1 a2) (endsL Y b1 b2))).2 ≤ (bndL (cornersL X Y V (endsL X x1 x2) (endsL Y y1 y2))).2 := by
  have rng : ∀ {Z : List Int} {lo hi n : Int}, lo ≤ hi → n ∈ endsL Z lo hi → lo ≤ n ∧ n ≤ hi := fun {Z lo hi n} hlh h => by
    unfold endsL at h
    simp only [List.mem_cons, List.mem_append, List.mem_filter, Bool.and_eq_true, decide_eq_true_eq] at h
    rcases h with rfl | ⟨_, h, h'⟩ | h
    · exact ⟨Int.le_refl _, hlh⟩
    · omega
    · split at h
      · simp at h; omega
      · simp at h
  obtain ⟨⟨k1, k2⟩, _⟩ := bnd_fold (cornersL X Y V (endsL X x1 x2) (endsL Y y1 y2)) (1000000, -1000000)
  refine bnd_least _ _ _ _ k1 k2 fun c hc => ?_
  obtain ⟨a, b, ha, hb, rfl⟩ := corner_of hc
  have ra := rng h2 ha
  have rb := rng h5 hb
  exact inside hct ox1 ox2 oy1 oy2 (by omega) (by omega) (by omega) (by omega)

theorem ltF_cl {n d m f : Int} (hd : 1 ≤ d) (hf : 1 ≤ f) : (ltF n d m f = true → cl n d ≤ cl m f) ∧ (ltF n d m f = false → cl m f ≤ cl n d) := by
  obtain ⟨r1, r2⟩ := fl_rem (n := n) hd
  obtain ⟨s1, s2⟩ := fl_rem (n := m) hf
  have key : ∀ {p u d q v f : Int}, 1 ≤ d → 1 ≤ f → 0 ≤ u → u < d → 0 ≤ v → v < f → (p < q ∨ (p = q ∧ u * f ≤ v * d)) → cl (p * d + u) d ≤ cl (q * f + v) f := by
    intro p u d q v f hd hf hu hu' hv hv' h
    have c1 := (cl_le (N := q * f + v) (lim := cl (q * f + v) f) hf).1 (Int.le_refl _)
    rw [cl_le hd]
    generalize cl (q * f + v) f = M at *
    -- q f + v ≤ M f
    have hqM : q ≤ M := by
      have h1 : q * f ≤ M * f := by omega
      exact Int.le_of_mul_le_mul_right h1 (by omega)
    rcases h with h | ⟨rfl, h⟩
    · have h1 : (p + 1) * d ≤ M * d := Int.mul_le_mul_of_nonneg_right (by omega) (by omega)
      have e : (p + 1) * d = p * d + d := by grind
      omega
    · rcases ilt p M with h1 | h1
      · have h2 : (p + 1) * d ≤ M * d := Int.mul_le_mul_of_nonneg_right (by omega) (by omega)
        have e : (p + 1) * d = p * d + d := by grind
        omega
      · obtain rfl : p = M := by omega
        have hv0 : v = 0 := by omega
        rw [hv0, Int.zero_mul] at h
        have hu0 : u = 0 := by
          rcases ilt 0 u with h2 | h2
          · have := Int.mul_pos h2 (show 0 < f by omega)
            omega
          · omega
        omega
  have en : n = fl n d * d + (n - fl n d * d) := by omega
  have em : m = fl m f * f + (m - fl m f * f) := by omega
  unfold ltF
  constructor
  · intro h
    rw [en, em]
    refine key hd hf (by omega) (by omega) (by omega) (by omega) ?_
    split at h
    · rename_i e
      simp at h
      exact .inr ⟨e, by omega⟩
    · simp at h
      exact .inl h
  · intro h
    rw [em, en]
    refine key hf hd (by omega) (by omega) (by omega) (by omega) ?_
    split at h
    · rename_i e
      simp at h
      exact .inr ⟨e.symm, by omega⟩
    · rename_i e
      simp at h
      exact .inl (by omega)

theorem wst_fold (l : List Cn) (s : Cn) (hs : Gd s.1 s.2.1) (hl : ∀ c ∈ l, Good c) : (wstR s l = s ∨ wstR s l ∈ l) ∧ cl s.1 s.2.1 ≤ cl (wstR s l).1 (wstR s l).2.1 ∧ ∀ c ∈ l, cl c.1 c.2.1 ≤ cl (wstR s l).1 (wstR s l).2.1 := by
  induction l generalizing s with
  | nil => exact ⟨.inl rfl, Int.le_refl _, by simp⟩
  | cons x l ih =>
    have hx := hl x (by simp)
    have hg := wst_good hs hx
    obtain ⟨h1, h2, h3⟩ := ih (wstStep s x) hg (fun c hc => hl c (by simp [hc]))
    have e : wstR s (x :: l) = wstR (wstStep s x) l := rfl
    rw [e]
    have hk := ltF_cl (n := s.1) (d := s.2.1) (m := x.1) (f := x.2.1) hs.d1 hx.1
    have hmax : cl s.1 s.2.1 ≤ cl (wstStep s x).1 (wstStep s x).2.1 ∧ cl x.1 x.2.1 ≤ cl (wstStep s x).1 (wstStep s x).2.1 ∧ (wstStep s x = s ∨ wstStep s x = x) := by
      unfold wstStep
      cases h : ltF s.1 s.2.1 x.1 x.2.1 with
      | true => exact ⟨hk.1 h, Int.le_refl _, .inr rfl⟩
      | false => exact ⟨Int.le_refl _, hk.2 h, .inl rfl⟩
    obtain ⟨m1, m2, m3⟩ := hmax
    refine ⟨?_, by omega, fun c hc => ?_⟩
    · rcases h1 with h1 | h1
      · rw [h1]
        rcases m3 with m3 | m3
        · exact .inl m3
        · exact .inr (by rw [m3]; simp)
      · exact .inr (by simp [h1])
    · rcases List.mem_cons.1 hc with rfl | hc
      · omega
      · exact h3 c hc

/-- The worst corner is one of the box, and has the upper end of the bound. -/
theorem worst_top {X Y : List Int} {V : List (List Int)} {x1 x2 y1 y2 : Int} (hct : ctB X Y V = true) (ox1 : On X x1) (ox2 : On X x2) (oy1 : On Y y1) (oy2 : On Y y2) (hx : x1 ≤ x2) (hy : y1 ≤ y2) :
    ∃ u v, (wstL (cornersL X Y V (endsL X x1 x2) (endsL Y y1 y2))).2.2.1 = u ∧ (wstL (cornersL X Y V (endsL X x1 x2) (endsL Y y1 y2))).2.2.2 = v ∧ (x1 ≤ u ∧ u ≤ x2) ∧ (y1 ≤ v ∧ v ≤ y2) ∧ cl (atN X Y V u v) (atD X Y u v) = (bndL (cornersL X Y V (endsL X x1 x2) (endsL Y y1 y2))).2 := by
  have rng : ∀ {Z : List Int} {lo hi n : Int}, lo ≤ hi → n ∈ endsL Z lo hi → lo ≤ n ∧ n ≤ hi := fun {Z lo hi n} hlh h => by
    unfold endsL at h
    simp only [List.mem_cons, List.mem_append, List.mem_filter, Bool.and_eq_true, decide_eq_true_eq] at h
    rcases h with rfl | ⟨_, h, h'⟩ | h
    · exact ⟨Int.le_refl _, hlh⟩
    · omega
    · split at h
      · simp at h; omega
      · simp at h
  have eo := endsL_on ox1 ox2
  have fo := endsL_on oy1 oy2
  have hgood : ∀ c ∈ cornersL X Y V (endsL X x1 x2) (endsL Y y1 y2), Good c := fun c hc => by
    obtain ⟨a, b, ha, hb, rfl⟩ := corner_of hc
    exact good_of hct (eo a ha) (fo b hb)
  have h0 := cornersL_zero (X := X) (Y := Y) (V := V) (endsL_zero X x1 x2) (endsL_zero Y y1 y2)
  have hg0 := good_of (V := V) hct ox1 oy1
  have hm0 : cnOf X Y V x1 y1 ∈ cornersL X Y V (endsL X x1 x2) (endsL Y y1 y2) := List.mem_of_getElem? h0
  obtain ⟨h1, _, h3⟩ := wst_fold _ (cnOf X Y V x1 y1) hg0.gd hgood
  rw [wstL_wstR h0 hg0] at h1 h3
  have hmem : wstL (cornersL X Y V (endsL X x1 x2) (endsL Y y1 y2)) ∈ cornersL X Y V (endsL X x1 x2) (endsL Y y1 y2) := by
    rcases h1 with h1 | h1
    · rw [h1]; exact hm0
    · exact h1
  obtain ⟨⟨k1, k2⟩, k3⟩ := bnd_fold (cornersL X Y V (endsL X x1 x2) (endsL Y y1 y2)) (1000000, -1000000)
  have hw := k3 _ hmem
  have hl := bnd_least (cornersL X Y V (endsL X x1 x2) (endsL Y y1 y2)) (1000000, -1000000) (-1000001) (cl (wstL (cornersL X Y V (endsL X x1 x2) (endsL Y y1 y2))).1 (wstL (cornersL X Y V (endsL X x1 x2) (endsL Y y1 y2))).2.1) (by decide)
    (by have := (cl_bd hct ox1 oy1).1; have := h3 _ hm0; simp only [cnOf] at this ⊢; omega) (fun c hc => ⟨by
      obtain ⟨a, b, ha, hb, rfl⟩ := corner_of hc
      exact (hgood _ (corner_mem ha hb)).gd.fl.1, h3 c hc⟩)
  obtain ⟨u, v, hu, hv, e⟩ := corner_of hmem
  have eb : bndL (cornersL X Y V (endsL X x1 x2) (endsL Y y1 y2)) = (cornersL X Y V (endsL X x1 x2) (endsL Y y1 y2)).foldl bndStep (1000000, -1000000) := rfl
  rw [← eb] at hw hl
  refine ⟨u, v, by rw [e]; rfl, by rw [e]; rfl, rng hx hu, rng hy hv, ?_⟩
  rw [e] at hw hl
  simp only [cnOf] at hw hl
  omega

end Go.Proofs.Ytjdahphnmeaolaa

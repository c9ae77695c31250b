/- Plain mathematics: the greatest number at which a table is at most a limit, by parts and by looking at each. -/
import Derived.Test.YtjdahphnmeaolaaGst
import Derived.Test.YtjdahphnmeaolaaRbound
import Derived.Test.YtjdahphnmeaolaaKnot
namespace Go.Proofs.Ytjdahphnmeaolaa

theorem ilt (a b : Int) : a < b ∨ b ≤ a := by omega

/-- The line from p at 0 to q at size is not above 0 at d. -/
theorem naS_iff {size p q d : Int} (hs : 1 ≤ size) (h0 : 0 ≤ d) (h1 : d ≤ size) : ((naS size p q).1 ≤ d ∧ d ≤ (naS size p q).2) ↔ (size - d) * p + d * q ≤ 0 := by
  have e : (size - d) * p + d * q = size * p + d * (q - p) := by grind
  rw [e]
  unfold naS
  split
  · rename_i h
    have hf : d ≤ fl (-size * p) (q - p) ↔ d * (q - p) ≤ -size * p := by unfold fl; exact Int.le_ediv_iff_mul_le (by omega)
    have e2 : -size * p = -(size * p) := by grind
    simp only
    constructor
    · intro ⟨_, h2⟩
      have := hf.1 (by omega)
      omega
    · intro h2
      have := hf.2 (by omega)
      omega
  · split
    · rename_i h1 h2
      have hf : cl (size * p) (p - q) ≤ d ↔ size * p ≤ d * (p - q) := by
        unfold cl
        have := Int.le_ediv_iff_mul_le (a := -d) (b := -(size * p)) (c := p - q) (by omega)
        have e3 : -d * (p - q) = -(d * (p - q)) := by grind
        rw [e3] at this
        constructor
        · intro h
          have := this.1 (by omega)
          omega
        · intro h
          have := this.2 (by omega)
          omega
      have e2 : d * (q - p) = -(d * (p - q)) := by grind
      simp only
      constructor
      · intro ⟨h3, _⟩
        have := hf.1 (by omega)
        omega
      · intro h3
        have := hf.2 (by omega)
        omega
    · rename_i h2 h3
      obtain rfl : p = q := by omega
      have e2 : d * (p - p) = 0 := by rw [Int.sub_self, Int.mul_zero]
      rw [e2]
      split
      · rename_i h4
        have : size * p ≤ 0 := Int.mul_nonpos_of_nonneg_of_nonpos (by omega) h4
        simp only
        omega
      · rename_i h4
        have : 0 < size * p := Int.mul_pos (by omega) (by omega)
        simp only
        omega

theorem unL_iff {size : Int} {Y : List Int} {V : List (List Int)} {i : Nat} {lim d : Int} (l : List Int) : ((unL size Y V i lim l).1 ≤ d ∧ d ≤ (unL size Y V i lim l).2) ↔
    (0 ≤ d ∧ d ≤ size) ∧ ∀ k ∈ l, (naS size (unP Y V i lim k) (unP Y V (i + 1) lim k)).1 ≤ d ∧ d ≤ (naS size (unP Y V i lim k) (unP Y V (i + 1) lim k)).2 := by
  have key : ∀ (l : List Int) (s : Int × Int), ((l.foldl (unStep size Y V i lim) s).1 ≤ d ∧ d ≤ (l.foldl (unStep size Y V i lim) s).2) ↔ (s.1 ≤ d ∧ d ≤ s.2) ∧ ∀ k ∈ l, (naS size (unP Y V i lim k) (unP Y V (i + 1) lim k)).1 ≤ d ∧ d ≤ (naS size (unP Y V i lim k) (unP Y V (i + 1) lim k)).2 := by
    intro l
    induction l with
    | nil => intro s; simp
    | cons x l ih =>
      intro s
      rw [List.foldl_cons, ih]
      simp only [unStep, List.mem_cons, forall_eq_or_imp]
      constructor
      · rintro ⟨⟨h1, h2⟩, h3⟩
        exact ⟨⟨by omega, by omega⟩, ⟨by omega, by omega⟩, h3⟩
      · rintro ⟨⟨h1, h2⟩, ⟨h3, h4⟩, h5⟩
        exact ⟨⟨by omega, by omega⟩, h5⟩
  exact key l (0, size)

/-- At most a limit at a point. -/
def Le (X Y : List Int) (V : List (List Int)) (lim x y : Int) : Prop := atN X Y V x y ≤ lim * atD X Y x y

theorem le_mul_pos {a b c : Int} (hc : 1 ≤ c) : c * a ≤ b * c ↔ a ≤ b := by
  rw [Int.mul_comm b c]
  exact Int.mul_le_mul_left (by omega)

/-- A point of a part, whether or not it is the part that is taken. -/
theorem le_seg {X Y : List Int} {V : List (List Int)} {lim x y : Int} {m : Nat} (ha : axB X = true) (hb : axB Y = true) (hy : On Y y) (hm : m + 1 < X.length) (h0 : gz X m ≤ x) (h1 : x ≤ gz X (m + 1)) :
    Le X Y V lim x y ↔ (gz X (m + 1) - x) * (unP Y V m lim y) + (x - gz X m) * (unP Y V (m + 1) lim y) ≤ 0 := by
  obtain ⟨a, b, c, d⟩ := axB_get ha
  have lo := knot_on ha (i := m) (by omega)
  have hi := knot_on ha (i := m + 1) hm
  have hx : On X x := ⟨by have := lo.1; omega, by have := hi.2; omega⟩
  have s := seg_of ha hx.1 hx.2
  have kd := kDen_bd hb hy
  have key : ∀ p : Nat, p + 1 < X.length → gz X p ≤ x → x ≤ gz X (p + 1) → (((gz X (p + 1) - x) * kNum Y V p y + (x - gz X p) * kNum Y V (p + 1) y ≤ lim * ((gz X (p + 1) - gz X p) * kDen Y y)) ↔ (gz X (p + 1) - x) * (unP Y V p lim y) + (x - gz X p) * (unP Y V (p + 1) lim y) ≤ 0) := by
    intro p _ _ _
    unfold unP
    have e : (gz X (p + 1) - x) * (kNum Y V p y - lim * kDen Y y) + (x - gz X p) * (kNum Y V (p + 1) y - lim * kDen Y y) = (gz X (p + 1) - x) * kNum Y V p y + (x - gz X p) * kNum Y V (p + 1) y - lim * ((gz X (p + 1) - gz X p) * kDen Y y) := by grind
    rw [e]
    omega
  unfold Le atN atD
  generalize hp : partN X x = p at s
  have sl := s.lt
  have s1 := s.lo
  have s2 := s.hi
  have s3 := s.d1
  rw [key p sl s1 s2]
  have hd := stN_get d (m := m) (by omega)
  have hd1 : 1 ≤ gz X (m + 1) - gz X m := hd.1
  rcases Nat.lt_trichotomy p m with hlt | rfl | hlt
  · have hle : gz X (p + 1) ≤ gz X m := by
      rcases Nat.lt_or_ge (p + 1) m with h | h
      · exact Int.le_of_lt (st_mono d h (by omega))
      · obtain rfl : p + 1 = m := by omega
        exact Int.le_refl _
    have hpm : p + 1 = m := by
      rcases Nat.lt_or_ge (p + 1) m with h | h
      · have := st_mono d h (by omega)
        omega
      · omega
    subst hpm
    have ex : x = gz X (p + 1) := by omega
    subst ex
    rw [Int.sub_self, Int.zero_mul, Int.zero_mul, Int.zero_add, Int.add_zero]
    constructor
    · intro h
      have : unP Y V (p + 1) lim y ≤ 0 := by
        rcases ilt 0 (unP Y V (p + 1) lim y) with h' | h'
        · have := Int.mul_pos (show 0 < gz X (p + 1) - gz X p by omega) h'
          omega
        · exact h'
      exact Int.mul_nonpos_of_nonneg_of_nonpos (by omega) this
    · intro h
      have : unP Y V (p + 1) lim y ≤ 0 := by
        rcases ilt 0 (unP Y V (p + 1) lim y) with h' | h'
        · have := Int.mul_pos (show 0 < gz X (p + 1 + 1) - gz X (p + 1) by omega) h'
          omega
        · exact h'
      exact Int.mul_nonpos_of_nonneg_of_nonpos (by omega) this
  · exact Iff.rfl
  · have hpm : p = m + 1 := by
      rcases Nat.lt_or_ge (m + 1) p with h | h
      · have := st_mono d h (by omega)
        omega
      · omega
    subst hpm
    have ex : x = gz X (m + 1) := by omega
    subst ex
    rw [Int.sub_self, Int.zero_mul, Int.zero_mul, Int.zero_add, Int.add_zero]
    constructor
    · intro h
      have : unP Y V (m + 1) lim y ≤ 0 := by
        rcases ilt 0 (unP Y V (m + 1) lim y) with h' | h'
        · have := Int.mul_pos (show 0 < gz X (m + 1 + 1) - gz X (m + 1) by omega) h'
          omega
        · exact h'
      exact Int.mul_nonpos_of_nonneg_of_nonpos (by omega) this
    · intro h
      have : unP Y V (m + 1) lim y ≤ 0 := by
        rcases ilt 0 (unP Y V (m + 1) lim y) with h' | h'
        · have := Int.mul_pos (show 0 < gz X (m + 1) - gz X m by omega) h'
          omega
        · exact h'
      exact Int.mul_nonpos_of_nonneg_of_nonpos (by omega) this

/-- At most a limit for all of y: as the table's parts say it. -/
def AllLe (X Y : List Int) (V : List (List Int)) (y1 y2 lim x : Int) : Prop := ∀ y ∈ endsL Y y1 y2, Le X Y V lim x y

theorem grSpan_iff {X Y : List Int} {V : List (List Int)} {y1 y2 lim x : Int} {m : Nat} (ha : axB X = true) (hb : axB Y = true) (h1 : On Y y1) (h2 : On Y y2) (hm : m + 1 < X.length) (h3 : gz X m ≤ x) (h4 : x ≤ gz X (m + 1)) :
    ((grSpan X Y V y1 y2 lim m).1 ≤ x - gz X m ∧ x - gz X m ≤ (grSpan X Y V y1 y2 lim m).2) ↔ AllLe X Y V y1 y2 lim x := by
  obtain ⟨_, _, _, d⟩ := axB_get ha
  have hd := (stN_get d (m := m) (by omega)).1
  have hd1 : 1 ≤ gz X (m + 1) - gz X m := hd
  have ho := endsL_on h1 h2
  unfold grSpan
  rw [unL_iff]
  unfold AllLe
  constructor
  · rintro ⟨_, h⟩ y hy
    rw [le_seg ha hb (ho y hy) hm h3 h4]
    have := (naS_iff hd1 (by omega) (by omega)).1 (h y hy)
    have e : gz X (m + 1) - gz X m - (x - gz X m) = gz X (m + 1) - x := by omega
    rw [e] at this
    exact this
  · intro h
    refine ⟨⟨by omega, by omega⟩, fun y hy => ?_⟩
    have h' := (le_seg ha hb (ho y hy) hm h3 h4).1 (h y hy)
    refine (naS_iff hd1 (by omega) (by omega)).2 ?_
    have e : gz X (m + 1) - gz X m - (x - gz X m) = gz X (m + 1) - x := by omega
    rw [e]
    exact h'

/-- The answer, by its meaning. -/
def IsG (lo hi : Int) (P : Int → Prop) (r : Int × Int) : Prop :=
  (r.2 = 0 ∧ lo ≤ r.1 ∧ r.1 ≤ hi ∧ P r.1 ∧ ∀ x, r.1 < x → x ≤ hi → ¬ P x) ∨ (r = (0, 3) ∧ ∀ x, lo ≤ x → x ≤ hi → ¬ P x)
theorem IsG.unique {lo hi : Int} {P : Int → Prop} {r s : Int × Int} (h : IsG lo hi P r) (k : IsG lo hi P s) : r = s := by
  rcases h with ⟨h1, h2, h3, h4, h5⟩ | ⟨h1, h2⟩ <;> rcases k with ⟨k1, k2, k3, k4, k5⟩ | ⟨k1, k2⟩
  · obtain ⟨a, b⟩ := r
    obtain ⟨c, d⟩ := s
    simp only at *
    subst h1 k1
    rcases Int.lt_trichotomy a c with h | h | h
    · exact absurd k4 (h5 c h k3)
    · rw [h]
    · exact absurd h4 (k5 a h h3)
  · exact absurd h4 (k2 _ h2 h3)
  · exact absurd k4 (h2 _ k2 k3)
  · rw [h1, k1]
theorem IsG.iff {lo hi : Int} {P Q : Int → Prop} {r : Int × Int} (h : IsG lo hi P r) (hpq : ∀ x, lo ≤ x → x ≤ hi → (P x ↔ Q x)) : IsG lo hi Q r := by
  rcases h with ⟨h1, h2, h3, h4, h5⟩ | ⟨h1, h2⟩
  · exact .inl ⟨h1, h2, h3, (hpq _ h2 h3).1 h4, fun x hx hx' hq => h5 x hx hx' ((hpq x (by omega) hx').2 hq)⟩
  · exact .inr ⟨h1, fun x hx hx' hq => h2 x hx hx' ((hpq x hx hx').2 hq)⟩
theorem IsG.mono {lo hi : Int} {P Q : Int → Prop} {r s : Int × Int} (h : IsG lo hi P r) (k : IsG lo hi Q s) (hpq : ∀ x, lo ≤ x → x ≤ hi → P x → Q x) (h0 : r.2 = 0) : s.2 = 0 ∧ r.1 ≤ s.1 := by
  rcases h with ⟨h1, h2, h3, h4, h5⟩ | ⟨h1, h2⟩
  · rcases k with ⟨k1, k2, k3, k4, k5⟩ | ⟨k1, k2⟩
    · refine ⟨k1, ?_⟩
      rcases ilt s.1 r.1 with h | h
      · exact absurd (hpq _ h2 h3 h4) (k5 _ h h3)
      · exact h
    · exact absurd (hpq _ h2 h3 h4) (k2 _ h2 h3)
  · rw [h1] at h0
    cases h0

theorem grGo_is {X Y : List Int} {V : List (List Int)} {y1 y2 lim : Int} (ha : axB X = true) (hb : axB Y = true) (h1 : On Y y1) (h2 : On Y y2) :
    ∀ m, m + 1 < X.length + 1 → (m = 0 → X.length ≠ 0) → (m = 0 ∨ IsG (gz X 0) (gz X m) (AllLe X Y V y1 y2 lim) (grGo X Y V y1 y2 lim m)) := by
  obtain ⟨_, _, _, d⟩ := axB_get ha
  intro m
  induction m with
  | zero => intro _ _; exact .inl rfl
  | succ m ih =>
    intro hm _
    right
    have hm' : m + 1 < X.length + 1 - 1 ∨ m + 1 = X.length := by omega
    by_cases hml : m + 1 < X.length
    · have hd := (stN_get d (m := m) (by omega)).1
      have hd1 : 1 ≤ gz X (m + 1) - gz X m := hd
      have hx0 : gz X 0 ≤ gz X m := by
        by_cases h0 : m = 0
        · rw [h0]; exact Int.le_refl _
        · exact Int.le_of_lt (st_mono d (by omega) (by omega))
      have hbd := unL_bd (gz X (m + 1) - gz X m) Y V m lim (endsL Y y1 y2)
      have hspan : grSpan X Y V y1 y2 lim m = unL (gz X (m + 1) - gz X m) Y V m lim (endsL Y y1 y2) := rfl
      rw [← hspan] at hbd
      unfold grGo
      split
      · rename_i hle
        refine .inl ⟨rfl, by simp only; omega, by simp only; omega, ?_, ?_⟩
        · simp only
          exact (grSpan_iff ha hb h1 h2 hml (by omega) (by omega)).1 ⟨by omega, by omega⟩
        · simp only
          intro x hx hx' hp
          have := (grSpan_iff ha hb h1 h2 hml (by omega) hx').2 hp
          omega
      · rename_i hle
        have hno : ∀ x, gz X m ≤ x → x ≤ gz X (m + 1) → ¬ AllLe X Y V y1 y2 lim x := fun x hx hx' hp => by
          have := (grSpan_iff ha hb h1 h2 hml hx hx').2 hp
          omega
        rcases ih (by omega) (by omega) with h0 | h
        · subst h0
          exact .inr ⟨rfl, fun x hx hx' => hno x hx hx'⟩
        · rcases h with ⟨k1, k2, k3, k4, k5⟩ | ⟨k1, k2⟩
          · refine .inl ⟨k1, k2, by omega, k4, fun x hx hx' => ?_⟩
            by_cases h : x ≤ gz X m
            · exact k5 x hx h
            · exact hno x (by omega) hx'
          · refine .inr ⟨k1, fun x hx hx' => ?_⟩
            by_cases h : x ≤ gz X m
            · exact k2 x hx h
            · exact hno x (by omega) hx'
    · exfalso
      omega

end Go.Proofs.Ytjdahphnmeaolaa

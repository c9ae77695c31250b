/- Contracts of the functions that the statement reaches: Gmath, Bnd2, Cmp, Rwst, Rgst, Imath, HP, JMath, Add. -/
import Derived.Test.YthhokiigdgpmcaaM2
import Derived.Test.YthhokiigdgpmcaaM4
import Derived.Test.YthhokiigdgpmcaaM1
import Derived.Test.YthhokiigdgpmcaaM3

/- Plain mathematics: the greatest number at which a table is at most a limit, by parts and by looking at each. -/
namespace Go.Proofs.Ythhokiigdgpmcaa

theorem ilt (a b : Int) : a < b ∨ b ≤ a := by omega

/-- The line from p at 0 to q at size is not above 0 at d. -/
theorem naS_iff {size p q d : Int} (hs : 1 ≤ size) (h0 : 0 ≤ d) (h1 : d ≤ size) : ((naS size p q).1 ≤ d ∧ d ≤ (naS size p q).2) ↔ (size - d) * p + d * q ≤ 0 := by
  have e : (size - d) * p + d * q = size * p + d * (q - p) := by grind
  rw [e]
  unfold naS
  split
  · rename_i h
    have hf : d ≤ fl (-size * p) (q - p) ↔ d * (q - p) ≤ -size * p := by unfold fl; exact Int.le_ediv_iff_mul_le (by omega)
    have e2 : -size * p = -(size * p) := by grind
    simp only
    constructor
    · intro ⟨_, h2⟩
      have := hf.1 (by omega)
      omega
    · intro h2
      have := hf.2 (by omega)
      omega
  · split
    · rename_i h1 h2
      have hf : cl (size * p) (p - q) ≤ d ↔ size * p ≤ d * (p - q) := by
        unfold cl
        have := Int.le_ediv_iff_mul_le (a := -d) (b := -(size * p)) (c := p - q) (by omega)
        have e3 : -d * (p - q) = -(d * (p - q)) := by grind
        rw [e3] at this
        constructor
        · intro h
          have := this.1 (by omega)
          omega
        · intro h
          have := this.2 (by omega)
          omega
      have e2 : d * (q - p) = -(d * (p - q)) := by grind
      simp only
      constructor
      · intro ⟨h3, _⟩
        have := hf.1 (by omega)
        omega
      · intro h3
        have := hf.2 (by omega)
        omega
    · rename_i h2 h3
      obtain rfl : p = q := by omega
      have e2 : d * (p - p) = 0 := by rw [Int.sub_self, Int.mul_zero]
      rw [e2]
      split
      · rename_i h4
        have : size * p ≤ 0 := Int.mul_nonpos_of_nonneg_of_nonpos (by omega) h4
        simp only
        omega
      · rename_i h4
        have : 0 < size * p := Int.mul_pos (by omega) (by omega)
        simp only
        omega

theorem unL_iff {size : Int} {Y : List Int} {V : List (List Int)} {i : Nat} {lim d : Int} (l : List Int) : ((unL size Y V i lim l).1 ≤ d ∧ d ≤ (unL size Y V i lim l).2) ↔
    (0 ≤ d ∧ d ≤ size) ∧ ∀ k ∈ l, (naS size (unP Y V i lim k) (unP Y V (i + 1) lim k)).1 ≤ d ∧ d ≤ (naS size (unP Y V i lim k) (unP Y V (i + 1) lim k)).2 := by
  have key : ∀ (l : List Int) (s : Int × Int), ((l.foldl (unStep size Y V i lim) s).1 ≤ d ∧ d ≤ (l.foldl (unStep size Y V i lim) s).2) ↔ (s.1 ≤ d ∧ d ≤ s.2) ∧ ∀ k ∈ l, (naS size (unP Y V i lim k) (unP Y V (i + 1) lim k)).1 ≤ d ∧ d ≤ (naS size (unP Y V i lim k) (unP Y V (i + 1) lim k)).2 := by
    intro l
    induction l with
    | nil => intro s; simp
    | cons x l ih =>
      intro s
      rw [List.foldl_cons, ih]
      simp only [unStep, List.mem_cons, forall_eq_or_imp]
      constructor
      · rintro ⟨⟨h1, h2⟩, h3⟩
        exact ⟨⟨by omega, by omega⟩, ⟨by omega, by omega⟩, h3⟩
      · rintro ⟨⟨h1, h2⟩, ⟨h3, h4⟩, h5⟩
        exact ⟨⟨by omega, by omega⟩, h5⟩
  exact key l (0, size)

/-- At most a limit at a point. -/
def Le (X Y : List Int) (V : List (List Int)) (lim x y : Int) : Prop := atN X Y V x y ≤ lim * atD X Y x y

theorem le_mul_pos {a b c : Int} (hc : 1 ≤ c) : c * a ≤ b * c ↔ a ≤ b := by
  rw [Int.mul_comm b c]
  exact Int.mul_le_mul_left (by omega)

/-- A point of a part, whether or not it is the part that is taken. -/
theorem le_seg {X Y : List Int} {V : List (List Int)} {lim x y : Int} {m : Nat} (ha : axB X = true) (hb : axB Y = true) (hy : On Y y) (hm : m + 1 < X.length) (h0 : gz X m ≤ x) (h1 : x ≤ gz X (m + 1)) :
    Le X Y V lim x y ↔ (gz X (m + 1) - x) * (unP Y V m lim y) + (x - gz X m) * (unP Y V (m + 1) lim y) ≤ 0 := by
  obtain ⟨a, b, c, d⟩ := axB_get ha
  have lo := knot_on ha (i := m) (by omega)
  have hi := knot_on ha (i := m + 1) hm
  have hx : On X x := ⟨by have := lo.1; omega, by have := hi.2; omega⟩
  have s := seg_of ha hx.1 hx.2
  have kd := kDen_bd hb hy
  have key : ∀ p : Nat, p + 1 < X.length → gz X p ≤ x → x ≤ gz X (p + 1) → (((gz X (p + 1) - x) * kNum Y V p y + (x - gz X p) * kNum Y V (p + 1) y ≤ lim * ((gz X (p + 1) - gz X p) * kDen Y y)) ↔ (gz X (p + 1) - x) * (unP Y V p lim y) + (x - gz X p) * (unP Y V (p + 1) lim y) ≤ 0) := by
    intro p _ _ _
    unfold unP
    have e : (gz X (p + 1) - x) * (kNum Y V p y - lim * kDen Y y) + (x - gz X p) * (kNum Y V (p + 1) y - lim * kDen Y y) = (gz X (p + 1) - x) * kNum Y V p y + (x - gz X p) * kNum Y V (p + 1) y - lim * ((gz X (p + 1) - gz X p) * kDen Y y) := by grind
    rw [e]
    omega
  unfold Le atN atD
  generalize hp : partN X x = p at s
  have sl := s.lt
  have s1 := s.lo
  have s2 := s.hi
  have s3 := s.d1
  rw [key p sl s1 s2]
  have hd := stN_get d (m := m) (by omega)
  have hd1 : 1 ≤ gz X (m + 1) - gz X m := hd.1
  rcases Nat.lt_trichotomy p m with hlt | rfl | hlt
  · have hle : gz X (p + 1) ≤ gz X m := by
      rcases Nat.lt_or_ge (p + 1) m with h | h
      · exact Int.le_of_lt (st_mono d h (by omega))
      · obtain rfl : p + 1 = m := by omega
        exact Int.le_refl _
    have hpm : p + 1 = m := by
      rcases Nat.lt_or_ge (p + 1) m with h | h
      · have := st_mono d h (by omega)
        omega
      · omega
    subst hpm
    have ex : x = gz X (p + 1) := by omega
    subst ex
    rw [Int.sub_self, Int.zero_mul, Int.zero_mul, Int.zero_add, Int.add_zero]
    constructor
    · intro h
      have : unP Y V (p + 1) lim y ≤ 0 := by
        rcases ilt 0 (unP Y V (p + 1) lim y) with h' | h'
        · have := Int.mul_pos (show 0 < gz X (p + 1) - gz X p by omega) h'
          omega
        · exact h'
      exact Int.mul_nonpos_of_nonneg_of_nonpos (by omega) this
    · intro h
      have : unP Y V (p + 1) lim y ≤ 0 := by
        rcases ilt 0 (unP Y V (p + 1) lim y) with h' | h'
        · have := Int.mul_pos (show 0 < gz X (p + 1 + 1) - gz X (p + 1) by omega) h'
          omega
        · exact h'
      exact Int.mul_nonpos_of_nonneg_of_nonpos (by omega) this
  · exact Iff.rfl
  · have hpm : p = m + 1 := by
      rcases Nat.lt_or_ge (m + 1) p with h | h
      · have := st_mono d h (by omega)
        omega
      · omega
    subst hpm
    have ex : x = gz X (m + 1) := by omega
    subst ex
    rw [Int.sub_self, Int.zero_mul, Int.zero_mul, Int.zero_add, Int.add_zero]
    constructor
    · intro h
      have : unP Y V (m + 1) lim y ≤ 0 := by
        rcases ilt 0 (unP Y V (m + 1) lim y) with h' | h'
        · have := Int.mul_pos (show 0 < gz X (m + 1 + 1) - gz X (m + 1) by omega) h'
          omega
        · exact h'
      exact Int.mul_nonpos_of_nonneg_of_nonpos (by omega) this
    · intro h
      have : unP Y V (m + 1) lim y ≤ 0 := by
        rcases ilt 0 (unP Y V (m + 1) lim y) with h' | h'
        · have := Int.mul_pos (show 0 < gz X (m + 1) - gz X m by omega) h'
          omega
        · exact h'
      exact Int.mul_nonpos_of_nonneg_of_nonpos (by omega) this

/-- At most a limit for all of y: as the table's parts say it. -/
def AllLe (X Y : List Int) (V : List (List Int)) (y1 y2 lim x : Int) : Prop := ∀ y ∈ endsL Y y1 y2, Le X Y V lim x y

theorem grSpan_iff {X Y : List Int} {V : List (List Int)} {y1 y2 lim x : Int} {m : Nat} (ha : axB X = true) (hb : axB Y = true) (h1 : On Y y1) (h2 : On Y y2) (hm : m + 1 < X.length) (h3 : gz X m ≤ x) (h4 : x ≤ gz X (m + 1)) :
    ((grSpan X Y V y1 y2 lim m).1 ≤ x - gz X m ∧ x - gz X m ≤ (grSpan X Y V y1 y2 lim m).2) ↔ AllLe X Y V y1 y2 lim x := by
  obtain ⟨_, _, _, d⟩ := axB_get ha
  have hd := (stN_get d (m := m) (by omega)).1
  have hd1 : 1 ≤ gz X (m + 1) - gz X m := hd
  have ho := endsL_on h1 h2
  unfold grSpan
  rw [unL_iff]
  unfold AllLe
  constructor
  · rintro ⟨_, h⟩ y hy
    rw [le_seg ha hb (ho y hy) hm h3 h4]
    have := (naS_iff hd1 (by omega) (by omega)).1 (h y hy)
    have e : gz X (m + 1) - gz X m - (x - gz X m) = gz X (m + 1) - x := by omega
    rw [e] at this
    exact this
  · intro h
    refine ⟨⟨by omega, by omega⟩, fun y hy => ?_⟩
    have h' := (le_seg ha hb (ho y hy) hm h3 h4).1 (h y hy)
    refine (naS_iff hd1 (by omega) (by omega)).2 ?_
    have e : gz X (m + 1) - gz X m - (x - gz X m) = gz X (m + 1) - x := by omega
    rw [e]
    exact h'

/-- The answer, by its meaning. -/
def IsG (lo hi : Int) (P : Int → Prop) (r : Int × Int) : Prop :=
  (r.2 = 0 ∧ lo ≤ r.1 ∧ r.1 ≤ hi ∧ P r.1 ∧ ∀ x, r.1 < x → x ≤ hi → ¬ P x) ∨ (r = (0, 3) ∧ ∀ x, lo ≤ x → x ≤ hi → ¬ P x)
theorem IsG.unique {lo hi : Int} {P : Int → Prop} {r s : Int × Int} (h : IsG lo hi P r) (k : IsG lo hi P s) : r = s := by
  rcases h with ⟨h1, h2, h3, h4, h5⟩ | ⟨h1, h2⟩ <;> rcases k with ⟨k1, k2, k3, k4, k5⟩ | ⟨k1, k2⟩
  · obtain ⟨a, b⟩ := r
    obtain ⟨c, d⟩ := s
    simp only at *
    subst h1 k1
    rcases Int.lt_trichotomy a c with h | h | h
    · exact absurd k4 (h5 c h k3)
    · rw [h]
    · exact absurd h4 (k5 a h h3)
  · exact absurd h4 (k2 _ h2 h3)
  · exact absurd k4 (h2 _ k2 k3)
  · rw [h1, k1]
theorem IsG.iff {lo hi : Int} {P Q : Int → Prop} {r : Int × Int} (h : IsG lo hi P r) (hpq : ∀ x, lo ≤ x → x ≤ hi → (P x ↔ Q x)) : IsG lo hi Q r := by
  rcases h with ⟨h1, h2, h3, h4, h5⟩ | ⟨h1, h2⟩
  · exact .inl ⟨h1, h2, h3, (hpq _ h2 h3).1 h4, fun x hx hx' hq => h5 x hx hx' ((hpq x (by omega) hx').2 hq)⟩
  · exact .inr ⟨h1, fun x hx hx' hq => h2 x hx hx' ((hpq x hx hx').2 hq)⟩
theorem IsG.mono {lo hi : Int} {P Q : Int → Prop} {r s : Int × Int} (h : IsG lo hi P r) (k : IsG lo hi Q s) (hpq : ∀ x, lo ≤ x → x ≤ hi → P x → Q x) (h0 : r.2 = 0) : s.2 = 0 ∧ r.1 ≤ s.1 := by
  rcases h with ⟨h1, h2, h3, h4, h5⟩ | ⟨h1, h2⟩
  · rcases k with ⟨k1, k2, k3, k4, k5⟩ | ⟨k1, k2⟩
    · refine ⟨k1, ?_⟩
      rcases ilt s.1 r.1 with h | h
      · exact absurd (hpq _ h2 h3 h4) (k5 _ h h3)
      · exact h
    · exact absurd (hpq _ h2 h3 h4) (k2 _ h2 h3)
  · rw [h1] at h0
    cases h0

theorem grGo_is {X Y : List Int} {V : List (List Int)} {y1 y2 lim : Int} (ha : axB X = true) (hb : axB Y = true) (h1 : On Y y1) (h2 : On Y y2) :
    ∀ m, m + 1 < X.length + 1 → (m = 0 → X.length ≠ 0) → (m = 0 ∨ IsG (gz X 0) (gz X m) (AllLe X Y V y1 y2 lim) (grGo X Y V y1 y2 lim m)) := by
  obtain ⟨_, _, _, d⟩ := axB_get ha
  intro m
  induction m with
  | zero => intro _ _; exact .inl rfl
  | succ m ih =>
    intro hm _
    right
    have hm' : m + 1 < X.length + 1 - 1 ∨ m + 1 = X.length := by omega
    by_cases hml : m + 1 < X.length
    · have hd := (stN_get d (m := m) (by omega)).1
      have hd1 : 1 ≤ gz X (m + 1) - gz X m := hd
      have hx0 : gz X 0 ≤ gz X m := by
        by_cases h0 : m = 0
        · rw [h0]; exact Int.le_refl _
        · exact Int.le_of_lt (st_mono d (by omega) (by omega))
      have hbd := unL_bd (gz X (m + 1) - gz X m) Y V m lim (endsL Y y1 y2)
      have hspan : grSpan X Y V y1 y2 lim m = unL (gz X (m + 1) - gz X m) Y V m lim (endsL Y y1 y2) := rfl
      rw [← hspan] at hbd
      unfold grGo
      split
      · rename_i hle
        refine .inl ⟨rfl, by simp only; omega, by simp only; omega, ?_, ?_⟩
        · simp only
          exact (grSpan_iff ha hb h1 h2 hml (by omega) (by omega)).1 ⟨by omega, by omega⟩
        · simp only
          intro x hx hx' hp
          have := (grSpan_iff ha hb h1 h2 hml (by omega) hx').2 hp
          omega
      · rename_i hle
        have hno : ∀ x, gz X m ≤ x → x ≤ gz X (m + 1) → ¬ AllLe X Y V y1 y2 lim x := fun x hx hx' hp => by
          have := (grSpan_iff ha hb h1 h2 hml hx hx').2 hp
          omega
        rcases ih (by omega) (by omega) with h0 | h
        · subst h0
          exact .inr ⟨rfl, fun x hx hx' => hno x hx hx'⟩
        · rcases h with ⟨k1, k2, k3, k4, k5⟩ | ⟨k1, k2⟩
          · refine .inl ⟨k1, k2, by omega, k4, fun x hx hx' => ?_⟩
            by_cases h : x ≤ gz X m
            · exact k5 x hx h
            · exact hno x (by omega) hx'
          · refine .inr ⟨k1, fun x hx hx' => ?_⟩
            by_cases h : x ≤ gz X m
            · exact k2 x hx h
            · exact hno x (by omega) hx'
    · exfalso
      omega

end Go.Proofs.Ythhokiigdgpmcaa

/- Bound of both sides, with its errors; CheckBound. -/
namespace Go.Proofs.Ythhokiigdgpmcaa
open Go.RowKit

/-- Three arguments' boxes: a table and two spans. -/
structure S3 (w W : World) (AX : Option Addr) (nx cx : Nat) (AY : Option Addr) (ny cy : Nat) (AV : Option Addr) (nv cv : Nat) (x1 x2 y1 y2 : Int) : Prop where
  t0 : W.cell? ⟨w.heap.size, 0, none⟩ = some (.slice AX nx cx)
  t1 : W.cell? ⟨w.heap.size, 1, none⟩ = some (.slice AY ny cy)
  t2 : W.cell? ⟨w.heap.size, 2, none⟩ = some (.slice AV nv cv)
  a0 : W.cell? ⟨w.heap.size + 1, 0, none⟩ = some (.int .i64 x1)
  a1 : W.cell? ⟨w.heap.size + 1, 1, none⟩ = some (.int .i64 x2)
  b0 : W.cell? ⟨w.heap.size + 1 + 1, 0, none⟩ = some (.int .i64 y1)
  b1 : W.cell? ⟨w.heap.size + 1 + 1, 1, none⟩ = some (.int .i64 y2)
  l : w.heap.size + 1 + 1 < W.heap.size
  b : Below w.heap.size w W
theorem S3.next {w W W' : World} {AX AY AV : Option Addr} {nx cx ny cy nv cv : Nat} {x1 x2 y1 y2 : Int} (h : S3 w W AX nx cx AY ny cy AV nv cv x1 x2 y1 y2) (hb : Below W.heap.size W W') : S3 w W' AX nx cx AY ny cy AV nv cv x1 x2 y1 y2 :=
  ⟨cell_keep hb h.t0, cell_keep hb h.t1, cell_keep hb h.t2, cell_keep hb h.a0, cell_keep hb h.a1, cell_keep hb h.b0, cell_keep hb h.b1, Nat.lt_of_lt_of_le h.l hb.size, h.b.trans (hb.mono h.b.size)⟩
theorem S3.start (w : World) (AX AY AV : Option Addr) (nx cx ny cy nv cv : Nat) (x1 x2 y1 y2 : Int) (T T' T'' : TypeId) :
    S3 w (((w.alloc (.cells #[.slice AX nx cx, .slice AY ny cy, .slice AV nv cv] T)).alloc (.cells #[.int .i64 x1, .int .i64 x2] T')).alloc (.cells #[.int .i64 y1, .int .i64 y2] T'')) AX nx cx AY ny cy AV nv cv x1 x2 y1 y2 :=
  ⟨by go_simp, by go_simp, by go_simp, by go_simp, by go_simp, by go_simp, by go_simp, by simp, by go_grown⟩
/-- The result's box behind them. -/
structure R2 (w W : World) : Prop where
  r0 : W.cell? ⟨w.heap.size + 1 + 1 + 1, 0, none⟩ = some (.int .i64 0)
  r1 : W.cell? ⟨w.heap.size + 1 + 1 + 1, 1, none⟩ = some (.int .i64 0)
  z0 : W.frozen? ⟨w.heap.size + 1 + 1 + 1, 0, none⟩ = false
  z1 : W.frozen? ⟨w.heap.size + 1 + 1 + 1, 1, none⟩ = false
theorem R2.next {w W W' : World} (h : R2 w W) (hb : Below W.heap.size W W') : R2 w W' :=
  ⟨cell_keep hb h.r0, cell_keep hb h.r1, (cell_frozen hb h.r0).trans h.z0, (cell_frozen hb h.r1).trans h.z1⟩
theorem R2.start (w : World) (o1 o2 o3 : Obj) (T : TypeId) : R2 w ((((w.alloc o1).alloc o2).alloc o3).alloc (.cells #[.int .i64 0, .int .i64 0] T)) :=
  ⟨by go_simp, by go_simp, by go_simp, by go_simp⟩
theorem R2.res {w W : World} (h : R2 w W) (hb : Below w.heap.size w W) :
    (∀ v, (W.setCell ⟨w.heap.size + 1 + 1 + 1, 0, none⟩ v).cell? ⟨w.heap.size + 1 + 1 + 1, 0, none⟩ = some v) ∧ (∀ v u, ((W.setCell ⟨w.heap.size + 1 + 1 + 1, 0, none⟩ v).setCell ⟨w.heap.size + 1 + 1 + 1, 1, none⟩ u).cell? ⟨w.heap.size + 1 + 1 + 1, 1, none⟩ = some u) ∧
    ∀ v u, Below w.heap.size w ((W.setCell ⟨w.heap.size + 1 + 1 + 1, 0, none⟩ v).setCell ⟨w.heap.size + 1 + 1 + 1, 1, none⟩ u) :=
  ⟨fun v => World.cell?_setCell_same' _ _ _ (by rw [h.r0]; rfl), fun v u => World.cell?_setCell_same' _ _ _ (by rw [World.cell?_setCell_other _ _ _ _ (by simp), h.r1]; rfl),
    fun v u => (hb.setCell (by simp; omega) _).setCell (by simp; omega) _⟩

theorem btB_onB {X : List Int} {a b : Int} (h : vI a b = true) : btB X a b = onB X [a, b] := by
  unfold vI at h
  unfold btB onB wB gz
  simp at h
  rw [Bool.eq_iff_iff]
  simp
  omega

def bndS (X Y : List Int) (V : List (List Int)) (x1 x2 y1 y2 : Int) : (Int × Int) × Int :=
  if cbE X Y V x1 x2 y1 y2 = 0 then (bndL (cornersL X Y V (endsL X x1 x2) (endsL Y y1 y2)), 0) else ((0, 0), cbE X Y V x1 x2 y1 y2)

set_option maxRecDepth 100000 in
set_option maxHeartbeats 1000000 in
theorem bound_any (AX AY AV : Option Addr) (nx cx ny cy nv cv B : Nat) (X Y : List Int) (V : List (List Int)) (x1 x2 y1 y2 : Int) (w : World) (hx : X.length = nx) (hy : Y.length = ny) (hv : V.length = nv) (hnx : nx ≤ maxLen) (hny : ny ≤ maxLen) (hnv : nv ≤ maxLen) (hnr : ∀ r ∈ V, r.length ≤ maxLen)
    (hB : B ≤ w.heap.size) (h : TB w B AX AY AV X Y V) :
    Calls Try.prog 25 #[.agg #[.slice AX nx cx, .slice AY ny cy, .slice AV nv cv], .agg #[.int .i64 x1, .int .i64 x2], .agg #[.int .i64 y1, .int .i64 y2]] w fun e w' =>
      e = .returned (.tuple #[.agg #[.int .i64 (bndS X Y V x1 x2 y1 y2).1.1, .int .i64 (bndS X Y V x1 x2 y1 y2).1.2], .int .i64 (bndS X Y V x1 x2 y1 y2).2]) ∧ Below w.heap.size w w' := by
  by_cases hc : cbE X Y V x1 x2 y1 y2 = 0
  · have := bound_ok AX AY AV nx cx ny cy nv cv B X Y V x1 x2 y1 y2 w hx hy hv hnx hny hnv hnr hB h hc
    unfold bndS
    rw [if_pos hc]
    exact this
  · subst hx hy hv
    rw [show bndS X Y V x1 x2 y1 y2 = ((0, 0), cbE X Y V x1 x2 y1 y2) by unfold bndS; rw [if_neg hc]]
    have HCB := Lib.hid (fun (W : World) (hW : Below w.heap.size w W) => checkBox_any AX AY AV _ cx _ cy _ cv B X Y V x1 x2 y1 y2 W rfl rfl rfl hnx hny hnv hnr (by have := hW.size; omega) (h.below (hW.mono hB)))
    have S0 := R2.start w (.cells #[.slice AX X.length cx, .slice AY Y.length cy, .slice AV V.length cv] 25) (.cells #[.int .i64 x1, .int .i64 x2] 34) (.cells #[.int .i64 y1, .int .i64 y2] 34) 34
    have HS0 := Lib.hid S0
    clear h S0
    generalize cbE X Y V x1 x2 y1 y2 = c at *
    have hc' : (c != 0) = true := by rw [bne_iff_ne]; exact hc
    clear hc
    go_enter Try.func25, Try.ntmps25
    go_wp2_with (go_at_call 71; refine Calls.mono (HCB.out _ (by go_grown)) ?_; rintro e w1 ⟨rfl, hb1⟩; have R1 := HS0.out.next hb1; have HBW := Lib.hid (show Below w.heap.size w w1 from Below.trans (by go_grown) (hb1.mono (by simp <;> omega))); have HR1 := Lib.hid R1; obtain ⟨r0, r1, z0, z1⟩ := R1; have l1 : w.heap.size + 1 + 1 + 1 < w1.heap.size := World.block_lt_of_cell? _ _ r0; clear hb1)
    obtain ⟨y1, y2, y3⟩ := HR1.out.res HBW.out
    refine bodyPost_ret (v := .tuple #[.agg #[.int .i64 0, .int .i64 0], .int .i64 c]) (by simp [results, Try.results25, go_sem, y1, y2]) rfl ?_
    exact ⟨rfl, y3 _ _⟩

set_option maxRecDepth 100000 in
set_option maxHeartbeats 1000000 in
theorem checkBound_any (AX AY AV : Option Addr) (nx cx ny cy nv cv B : Nat) (X Y : List Int) (V : List (List Int)) (x1 x2 y1 y2 : Int) (w : World) (hx : X.length = nx) (hy : Y.length = ny) (hv : V.length = nv) (hnx : nx ≤ maxLen) (hny : ny ≤ maxLen) (hnv : nv ≤ maxLen) (hnr : ∀ r ∈ V, r.length ≤ maxLen)
    (hB : B ≤ w.heap.size) (h : TB w B AX AY AV X Y V) :
    Calls Try.prog 128 #[.agg #[.slice AX nx cx, .slice AY ny cy, .slice AV nv cv], .agg #[.int .i64 x1, .int .i64 x2], .agg #[.int .i64 y1, .int .i64 y2]] w fun e w' => e = .returned (.int .i64 (cbE X Y V x1 x2 y1 y2)) ∧ Below w.heap.size w w' := by
  subst hx hy hv
  have HT := Lib.hid h
  have HCT := Lib.hid (fun (W : World) (hW : Below w.heap.size w W) => rct_any AX AY AV _ cx _ cy _ cv B X Y V W rfl rfl rfl hnx hny hnv hnr (by have := hW.size; omega) (h.below (hW.mono hB)))
  have S0 := S3.start w AX AY AV X.length cx Y.length cy V.length cv x1 x2 y1 y2 25 34 34
  have HS0 := Lib.hid S0
  clear h S0
  cases hct : ctB X Y V with
  | false =>
    rw [show cbE X Y V x1 x2 y1 y2 = 11 by unfold cbE; rw [hct]; rfl]
    have HE := Lib.hid (ctE_no hct)
    clear hct
    go_enter Try.func128, Try.ntmps128
    go_wp2_with (go_at_call 109; refine Calls.mono (HCT.out _ (by go_grown)) ?_; rintro e w1 ⟨rfl, hb1⟩; rw [HE.out]; have HB1 := Lib.hid (show Below w.heap.size w w1 from Below.trans (by go_grown) (hb1.mono (by simp <;> omega))); clear hb1)
    go_ret
    exact ⟨rfl, HB1.out⟩
  | true =>
  obtain ⟨ha, hb, hlv, _⟩ := ctB_get hct
  obtain ⟨l1, l2, _, _⟩ := axB_get ha
  obtain ⟨l3, l4, _, _⟩ := axB_get hb
  have HE := Lib.hid (ctE_yes hct)
  cases hv : (vI x1 x2 && vI y1 y2) with
  | false =>
    rw [show cbE X Y V x1 x2 y1 y2 = 10 by unfold cbE; rw [hct]; simp only [List.all_cons, List.all_nil, Bool.and_true, vS_vI, hv]; rfl]
    have HV := Lib.hid (show twoE x1 x2 y1 y2 = 10 by unfold twoE; rw [hv]; rfl)
    clear hct hv ha hb hlv
    go_enter Try.func128, Try.ntmps128
    go_wp2_with (first
      | (go_at_call 109; refine Calls.mono (HCT.out _ (by go_grown)) ?_; rintro e w1 ⟨rfl, hb1⟩; rw [HE.out]; have S1 := HS0.out.next hb1; have HS1 := Lib.hid S1; obtain ⟨t0, t1, t2, a0, a1, b0, b1, l9, _⟩ := S1; clear hb1)
      | (go_at_call 130; refine Calls.mono (two_any x1 x2 y1 y2 _) ?_; rintro e w2 ⟨rfl, hb2⟩; rw [HV.out]))
    go_ret
    exact ⟨rfl, HS1.out.b.trans (hb2.mono HS1.out.b.size)⟩
  | true =>
  have hvx : vI x1 x2 = true := by simp at hv; exact hv.1
  have hvy : vI y1 y2 = true := by simp at hv; exact hv.2
  have HV := Lib.hid (show twoE x1 x2 y1 y2 = 0 by unfold twoE; rw [hv]; rfl)
  have HBX := Lib.hid (fun (W : World) (hW : Below w.heap.size w W) => between_any AX _ cx B X x1 x2 W rfl (by omega) (by omega) (by have := hW.size; omega) (HT.out.x.below (hW.mono hB)))
  have HBY := Lib.hid (fun (W : World) (hW : Below w.heap.size w W) => between_any AY _ cy B Y y1 y2 W rfl (by omega) (by omega) (by have := hW.size; omega) (HT.out.y.below (hW.mono hB)))
  cases hX : onB X [x1, x2] with
  | false =>
    rw [show cbE X Y V x1 x2 y1 y2 = 1 by unfold cbE; rw [hct]; simp only [List.all_cons, List.all_nil, Bool.and_true, vS_vI, hv, hX]; rfl]
    have HX := Lib.hid (show btB X x1 x2 = false by rw [btB_onB hvx]; exact hX)
    clear hct hv ha hb hlv hX hvx hvy
    go_enter Try.func128, Try.ntmps128
    go_wp2_with (first
      | (go_at_call 109; refine Calls.mono (HCT.out _ (by go_grown)) ?_; rintro e w1 ⟨rfl, hb1⟩; rw [HE.out]; have S1 := HS0.out.next hb1; have HS1 := Lib.hid S1; obtain ⟨t0, t1, t2, a0, a1, b0, b1, l9, _⟩ := S1; clear hb1)
      | (go_at_call 130; refine Calls.mono (two_any x1 x2 y1 y2 _) ?_; rintro e w2 ⟨rfl, hb2⟩; rw [HV.out]; have S2 := HS1.out.next hb2; have HS2 := Lib.hid S2; obtain ⟨m0, m1, m2, c0, c1, d0, d1, k9, _⟩ := S2; clear hb2 t0 t1 t2 a0 a1 b0 b1 l9)
      | (go_at_call_of 99 (Value.slice AX X.length cx); refine Calls.mono (HBX.out _ HS2.out.b) ?_; rintro e w3 ⟨rfl, hb3⟩; rw [HX.out]))
    go_ret
    exact ⟨rfl, HS2.out.b.trans (hb3.mono HS2.out.b.size)⟩
  | true =>
  have HX := Lib.hid (show btB X x1 x2 = true by rw [btB_onB hvx]; exact hX)
  cases hY : onB Y [y1, y2] with
  | false =>
    rw [show cbE X Y V x1 x2 y1 y2 = 1 by unfold cbE; rw [hct]; simp only [List.all_cons, List.all_nil, Bool.and_true, vS_vI, hv, hX, hY]; rfl]
    have HY := Lib.hid (show btB Y y1 y2 = false by rw [btB_onB hvy]; exact hY)
    clear hct hv ha hb hlv hX hY hvx hvy
    go_enter Try.func128, Try.ntmps128
    go_wp2_with (first
      | (go_at_call 109; refine Calls.mono (HCT.out _ (by go_grown)) ?_; rintro e w1 ⟨rfl, hb1⟩; rw [HE.out]; have S1 := HS0.out.next hb1; have HS1 := Lib.hid S1; obtain ⟨t0, t1, t2, a0, a1, b0, b1, l9, _⟩ := S1; clear hb1)
      | (go_at_call 130; refine Calls.mono (two_any x1 x2 y1 y2 _) ?_; rintro e w2 ⟨rfl, hb2⟩; rw [HV.out]; have S2 := HS1.out.next hb2; have HS2 := Lib.hid S2; obtain ⟨m0, m1, m2, c0, c1, d0, d1, k9, _⟩ := S2; clear hb2 t0 t1 t2 a0 a1 b0 b1 l9)
      | (go_at_call_of 99 (Value.slice AX X.length cx); refine Calls.mono (HBX.out _ HS2.out.b) ?_; rintro e w3 ⟨rfl, hb3⟩; rw [HX.out]; have S3' := HS2.out.next hb3; have HS3 := Lib.hid S3'; obtain ⟨n0, n1, n2, c2, c3, d2, d3, j9, _⟩ := S3'; clear hb3 m0 m1 m2 c0 c1 d0 d1 k9)
      | (go_at_call_of 99 (Value.slice AY Y.length cy); refine Calls.mono (HBY.out _ HS3.out.b) ?_; rintro e w4 ⟨rfl, hb4⟩; rw [HY.out]))
    go_ret
    exact ⟨rfl, HS3.out.b.trans (hb4.mono HS3.out.b.size)⟩
  | true =>
    rw [show cbE X Y V x1 x2 y1 y2 = 0 by unfold cbE; rw [hct]; simp only [List.all_cons, List.all_nil, Bool.and_true, vS_vI, hv, hX, hY]; rfl]
    have HY := Lib.hid (show btB Y y1 y2 = true by rw [btB_onB hvy]; exact hY)
    clear hct hv ha hb hlv hX hY hvx hvy
    go_enter Try.func128, Try.ntmps128
    go_wp2_with (first
      | (go_at_call 109; refine Calls.mono (HCT.out _ (by go_grown)) ?_; rintro e w1 ⟨rfl, hb1⟩; rw [HE.out]; have S1 := HS0.out.next hb1; have HS1 := Lib.hid S1; obtain ⟨t0, t1, t2, a0, a1, b0, b1, l9, _⟩ := S1; clear hb1)
      | (go_at_call 130; refine Calls.mono (two_any x1 x2 y1 y2 _) ?_; rintro e w2 ⟨rfl, hb2⟩; rw [HV.out]; have S2 := HS1.out.next hb2; have HS2 := Lib.hid S2; obtain ⟨m0, m1, m2, c0, c1, d0, d1, k9, _⟩ := S2; clear hb2 t0 t1 t2 a0 a1 b0 b1 l9)
      | (go_at_call_of 99 (Value.slice AX X.length cx); refine Calls.mono (HBX.out _ HS2.out.b) ?_; rintro e w3 ⟨rfl, hb3⟩; rw [HX.out]; have S3' := HS2.out.next hb3; have HS3 := Lib.hid S3'; obtain ⟨n0, n1, n2, c2, c3, d2, d3, j9, _⟩ := S3'; clear hb3 m0 m1 m2 c0 c1 d0 d1 k9)
      | (go_at_call_of 99 (Value.slice AY Y.length cy); refine Calls.mono (HBY.out _ HS3.out.b) ?_; rintro e w4 ⟨rfl, hb4⟩; rw [HY.out]))
    go_ret
    exact ⟨rfl, HS3.out.b.trans (hb4.mono HS3.out.b.size)⟩

set_option maxRecDepth 100000 in
set_option maxHeartbeats 1000000 in
theorem rBound_any (AX AY AV : Option Addr) (nx cx ny cy nv cv B : Nat) (X Y : List Int) (V : List (List Int)) (x1 x2 y1 y2 : Int) (w : World) (hx : X.length = nx) (hy : Y.length = ny) (hv : V.length = nv) (hnx : nx ≤ maxLen) (hny : ny ≤ maxLen) (hnv : nv ≤ maxLen) (hnr : ∀ r ∈ V, r.length ≤ maxLen)
    (hB : B ≤ w.heap.size) (h : TB w B AX AY AV X Y V) :
    Calls Try.prog 111 #[.agg #[.slice AX nx cx, .slice AY ny cy, .slice AV nv cv], .agg #[.int .i64 x1, .int .i64 x2], .agg #[.int .i64 y1, .int .i64 y2]] w fun e w' =>
      e = .returned (.tuple #[.agg #[.int .i64 (bndS X Y V x1 x2 y1 y2).1.1, .int .i64 (bndS X Y V x1 x2 y1 y2).1.2], .int .i64 (bndS X Y V x1 x2 y1 y2).2]) ∧ Below w.heap.size w w' := by
  subst hx hy hv
  have HT := Lib.hid h
  have HCB := Lib.hid (fun (W : World) (hW : Below w.heap.size w W) => checkBound_any AX AY AV _ cx _ cy _ cv B X Y V x1 x2 y1 y2 W rfl rfl rfl hnx hny hnv hnr (by have := hW.size; omega) (h.below (hW.mono hB)))
  have S0 := (S3.start w AX AY AV X.length cx Y.length cy V.length cv x1 x2 y1 y2 25 34 34).next ((Below.refl _ _).alloc (Nat.le_refl _) (.cells #[.int .i64 0, .int .i64 0] 34))
  have R0 := R2.start w (.cells #[.slice AX X.length cx, .slice AY Y.length cy, .slice AV V.length cv] 25) (.cells #[.int .i64 x1, .int .i64 x2] 34) (.cells #[.int .i64 y1, .int .i64 y2] 34) 34
  have HS0 := Lib.hid S0
  have HR0 := Lib.hid R0
  clear h S0 R0
  by_cases hc : cbE X Y V x1 x2 y1 y2 = 0
  · obtain ⟨hct, _, _, ox1, ox2, oy1, oy2⟩ := cbE_ok hc
    have HBD := Lib.hid (fun (W : World) (hW : Below w.heap.size w W) => rbound_any AX AY AV _ cx _ cy _ cv B X Y V x1 x2 y1 y2 W rfl rfl rfl (by have := hW.size; omega) (HT.out.below (hW.mono hB)) hct ox1 ox2 oy1 oy2)
    rw [show bndS X Y V x1 x2 y1 y2 = (bndL (cornersL X Y V (endsL X x1 x2) (endsL Y y1 y2)), 0) by unfold bndS; rw [if_pos hc]]
    have HC := Lib.hid hc
    clear hc hct ox1 ox2 oy1 oy2
    generalize bndL (cornersL X Y V (endsL X x1 x2) (endsL Y y1 y2)) = bl at *
    go_enter Try.func111, Try.ntmps111
    go_wp2_with (first
      | (go_at_call 128; refine Calls.mono (HCB.out _ (by go_grown)) ?_; rintro e w1 ⟨rfl, hb1⟩; rw [HC.out]; have S1 := HS0.out.next hb1; have R1 := HR0.out.next hb1; have HS1 := Lib.hid S1; have HR1 := Lib.hid R1; obtain ⟨t0, t1, t2, a0, a1, b0, b1, l9, _⟩ := S1; clear hb1 R1)
      | (go_at_call 129; refine Calls.mono (HBD.out _ HS1.out.b) ?_; rintro e w2 ⟨rfl, hb2⟩; have HB2 := Lib.hid (HS1.out.b.trans (hb2.mono HS1.out.b.size)); have R2' := HR1.out.next hb2; have HR2 := Lib.hid R2'; obtain ⟨r0, r1, z0, z1⟩ := R2'; have l8 : w.heap.size + 1 + 1 + 1 < w2.heap.size := World.block_lt_of_cell? _ _ r0; clear hb2 t0 t1 t2 a0 a1 b0 b1 l9))
    obtain ⟨y1, y2, y3⟩ := HR2.out.res HB2.out
    refine bodyPost_ret (v := .tuple #[.agg #[.int .i64 bl.1, .int .i64 bl.2], .int .i64 0]) (by simp [results, Try.results111, go_sem, y1, y2]) rfl ?_
    exact ⟨rfl, y3 _ _⟩
  · rw [show bndS X Y V x1 x2 y1 y2 = ((0, 0), cbE X Y V x1 x2 y1 y2) by unfold bndS; rw [if_neg hc]]
    generalize cbE X Y V x1 x2 y1 y2 = c at *
    have hc' : (c != 0) = true := by rw [bne_iff_ne]; exact hc
    clear hc
    go_enter Try.func111, Try.ntmps111
    go_wp2_with (go_at_call 128; refine Calls.mono (HCB.out _ (by go_grown)) ?_; rintro e w1 ⟨rfl, hb1⟩; have S1 := HS0.out.next hb1; have R1 := HR0.out.next hb1; have HS1 := Lib.hid S1; have HR1 := Lib.hid R1; obtain ⟨r0, r1, z0, z1⟩ := R1; have l8 : w.heap.size + 1 + 1 + 1 < w1.heap.size := World.block_lt_of_cell? _ _ r0; clear hb1 S1)
    obtain ⟨y1, y2, y3⟩ := HR1.out.res HS1.out.b
    refine bodyPost_ret (v := .tuple #[.agg #[.int .i64 0, .int .i64 0], .int .i64 c]) (by simp [results, Try.results111, go_sem, y1, y2]) rfl ?_
    exact ⟨rfl, y3 _ _⟩

end Go.Proofs.Ythhokiigdgpmcaa

/- Comparing fractions, of both sides. -/
namespace Go.Proofs.Ythhokiigdgpmcaa
open Go.RowKit

/-- n / d is less than m / f. -/
def ltF (n d m f : Int) : Bool := if fl n d = fl m f then decide ((n - fl n d * d) * f < (m - fl m f * f) * d) else decide (fl n d < fl m f)
structure Gd (n d : Int) : Prop where
  d1 : 1 ≤ d
  d2 : d ≤ 100000000
  n1 : -1000001 * d ≤ n
  n2 : n ≤ 1000000 * d
theorem fl_rem {n d : Int} (h : 1 ≤ d) : 0 ≤ n - fl n d * d ∧ n - fl n d * d < d := by
  unfold fl
  have h1 := Int.mul_ediv_add_emod n d
  have h2 := Int.emod_nonneg n (show d ≠ 0 by omega)
  have h3 := Int.emod_lt_of_pos n (show 0 < d by omega)
  have e : n / d * d = d * (n / d) := Int.mul_comm _ _
  omega
theorem Gd.fl {n d : Int} (h : Gd n d) : -1000001 ≤ fl n d ∧ fl n d ≤ 1000000 ∧ -100000200000000 ≤ fl n d * d ∧ fl n d * d ≤ 100000000000000 := by
  obtain ⟨d1, d2, n1, n2⟩ := h
  have h1 : -1000001 ≤ Go.Proofs.Ythhokiigdgpmcaa.fl n d := by unfold Go.Proofs.Ythhokiigdgpmcaa.fl; exact (Int.le_ediv_iff_mul_le (by omega)).2 n1
  have h2 : Go.Proofs.Ythhokiigdgpmcaa.fl n d ≤ 1000000 := by unfold Go.Proofs.Ythhokiigdgpmcaa.fl; exact Int.ediv_le_of_le_mul (by omega) n2
  have hr := fl_rem (n := n) d1
  exact ⟨h1, h2, by omega, by omega⟩

def cmpJ (a b : Int) : Int := if a < b then -1 else if b < a then 1 else 0
theorem cmpI_pos (a b : Int) : decide (0 < cmpJ a b) = decide (b < a) := by
  unfold cmpJ
  split
  · simp; omega
  · split
    · simp; omega
    · simp; omega

def QCm (n : Int) (d : Int) (m : Int) (f : Int) (j : Nat) (v : Value) (_ : World) : Prop :=
  match j with
  | 0 => v = .agg #[.int .i64 n, .int .i64 d]
  | 1 => v = .int .i64 (fl n d)
  | 2 => v = .agg #[.int .i64 m, .int .i64 f]
  | 3 => v = .int .i64 (fl m f)
  | 4 => v = .int .i64 (fl n d)
  | 5 => v = .int .i64 (fl m f)
  | _ => True
theorem QCm_stays (n : Int) (d : Int) (m : Int) (f : Int) : Stays (QCm n d m f) := fun j v W W' h _ => by
  unfold QCm at h ⊢
  split at h <;> exact h

end Go.Proofs.Ythhokiigdgpmcaa

/- The reference's Worst. -/
namespace Go.Proofs.Ythhokiigdgpmcaa
open Go.RowKit

def wstStep (s c : Cn) : Cn := if ltF s.1 s.2.1 c.1 c.2.1 then c else s
/-- The first greatest of corners. -/
def wstL (l : List Cn) : Cn := l.foldl wstStep (-1000001, 1, 0, 0)
def wstR (c : Cn) (l : List Cn) : Cn := l.foldl wstStep c
theorem wstR_snoc (c : Cn) (l : List Cn) (x : Cn) : wstR c (l ++ [x]) = wstStep (wstR c l) x := by simp [wstR]
theorem wstL_snoc (l : List Cn) (x : Cn) : wstL (l ++ [x]) = wstStep (wstL l) x := by simp [wstL]
theorem Good.gd {c : Cn} (h : Good c) : Gd c.1 c.2.1 := by
  obtain ⟨a, b, c, d⟩ := h
  exact ⟨a, b, by omega, by omega⟩
theorem wst_good {s c : Cn} (h : Gd s.1 s.2.1) (k : Good c) : Gd (wstStep s c).1 (wstStep s c).2.1 := by
  unfold wstStep
  split
  · exact k.gd
  · exact h
theorem ltF_self (n d : Int) : ltF n d n d = false := by unfold ltF; simp
theorem ltF_first {c : Cn} (h : Good c) : ltF (-1000001) 1 c.1 c.2.1 = true := by
  obtain ⟨a, b, c1, d⟩ := h
  have h1 : fl (-1000001) 1 = -1000001 := by decide
  have h2 : -1000000 ≤ fl c.1 c.2.1 := by unfold fl; exact (Int.le_ediv_iff_mul_le (by omega)).2 (by omega)
  unfold ltF
  rw [h1, if_neg (by omega)]
  simp
  omega
theorem wstL_wstR {l : List Cn} {c : Cn} (hl : l[0]? = some c) (h : Good c) : wstR c l = wstL l := by
  match l, hl with
  | x :: l, hl =>
    simp at hl
    subst hl
    unfold wstR wstL
    simp only [List.foldl_cons]
    congr 1
    unfold wstStep
    rw [ltF_self, ltF_first h]
    simp
def wstS (X Y : List Int) (V : List (List Int)) (x1 x2 y1 y2 : Int) : Int × Int × Int :=
  if cbE X Y V x1 x2 y1 y2 = 0 then ((wstL (cornersL X Y V (endsL X x1 x2) (endsL Y y1 y2))).2.2.1, (wstL (cornersL X Y V (endsL X x1 x2) (endsL Y y1 y2))).2.2.2, 0) else (0, 0, cbE X Y V x1 x2 y1 y2)

def QW1 (g : Nat) (AX : Option Addr) (nx : Nat) (cx : Nat) (AY : Option Addr) (ny : Nat) (cy : Nat) (x1 : Int) (x2 : Int) (y1 : Int) (y2 : Int) (EX : List Int) (EY : List Int) (j : Nat) (v : Value) (W : World) : Prop :=
  match j with
  | 0 => v = .pointer (some ⟨g, 0, none⟩)
  | 1 => v = .slice AX nx cx
  | 2 => v = .agg #[.int .i64 x1, .int .i64 x2]
  | 3 => GI EX v W
  | 4 => v = .pointer (some ⟨g, 1, none⟩)
  | 5 => v = .slice AY ny cy
  | 6 => v = .agg #[.int .i64 y1, .int .i64 y2]
  | 7 => GI EY v W
  | 8 => GI EX v W
  | 9 => GI EY v W
  | _ => True
theorem QW1_stays (g : Nat) (AX : Option Addr) (nx : Nat) (cx : Nat) (AY : Option Addr) (ny : Nat) (cy : Nat) (x1 : Int) (x2 : Int) (y1 : Int) (y2 : Int) (EX : List Int) (EY : List Int) : Stays (QW1 g AX nx cx AY ny cy x1 x2 y1 y2 EX EY) := fun j v W W' h hb => by
  unfold QW1 at h ⊢
  split at h <;> first | exact h | exact h.stay hb
def QW3 (_g : Nat) (AX : Option Addr) (nx : Nat) (cx : Nat) (AY : Option Addr) (ny : Nat) (cy : Nat) (AV : Option Addr) (nv : Nat) (cv : Nat) (gx : Nat) (lx : Nat) (ccx : Nat) (gy : Nat) (ly : Nat) (ccy : Nat) (i : Nat) (k : Nat) (a : Int) (b : Int) (N : Int) (D : Int) (j : Nat) (v : Value) (_ : World) : Prop :=
  match j with
  | 0 => v = .agg #[.slice AX nx cx, .slice AY ny cy, .slice AV nv cv]
  | 1 => v = .slice (some ⟨gx, 0, none⟩) lx ccx
  | 2 => v = .int .i64 (i : Nat)
  | 3 => v = .pointer (some ⟨gx, i, none⟩)
  | 4 => v = .int .i64 a
  | 5 => v = .slice (some ⟨gy, 0, none⟩) ly ccy
  | 6 => v = .int .i64 (k : Nat)
  | 7 => v = .pointer (some ⟨gy, k, none⟩)
  | 8 => v = .int .i64 b
  | 9 => v = .tuple #[.int .i64 N, .int .i64 D]
  | 10 => v = .tuple #[.int .i64 N, .int .i64 D]
  | 11 => v = .int .i64 N
  | 12 => v = .int .i64 D
  | 13 => v = .int .i64 N
  | 14 => v = .int .i64 D
  | _ => True
theorem QW3_stays (g : Nat) (AX : Option Addr) (nx : Nat) (cx : Nat) (AY : Option Addr) (ny : Nat) (cy : Nat) (AV : Option Addr) (nv : Nat) (cv : Nat) (gx : Nat) (lx : Nat) (ccx : Nat) (gy : Nat) (ly : Nat) (ccy : Nat) (i : Nat) (k : Nat) (a : Int) (b : Int) (N : Int) (D : Int) : Stays (QW3 g AX nx cx AY ny cy AV nv cv gx lx ccx gy ly ccy i k a b N D) := fun j v W W' h _ => by
  unfold QW3 at h ⊢
  split at h <;> exact h

end Go.Proofs.Ythhokiigdgpmcaa

/- The reference's Greatest. -/
namespace Go.Proofs.Ythhokiigdgpmcaa
open Go.RowKit

theorem vI_le {a b : Int} (h : vI a b = true) : a ≤ b := by
  unfold vI at h
  simp at h
  omega
theorem endsL_point (X : List Int) (x : Int) : endsL X x x = [x] := by
  unfold endsL
  have : (X.filter fun n => decide (x < n) && decide (n < x)) = [] := by
    rw [List.filter_eq_nil_iff]
    intro a _
    simp
    omega
  rw [this]
  simp
theorem cl_le {N D lim : Int} (h : 1 ≤ D) : cl N D ≤ lim ↔ N ≤ lim * D := by
  unfold cl
  have := Int.le_ediv_iff_mul_le (a := -lim) (b := -N) (c := D) (by omega)
  have e : -lim * D = -(lim * D) := by grind
  rw [e] at this
  constructor
  · intro h
    have := this.1 (by omega)
    omega
  · intro h
    have := this.2 (by omega)
    omega
theorem bnd_map {X Y : List Int} {V : List (List Int)} {x lim : Int} (l : List Int) (s : Int × Int) : ((l.map (cnOf X Y V x)).foldl bndStep s).2 ≤ lim ↔ s.2 ≤ lim ∧ ∀ y ∈ l, cl (atN X Y V x y) (atD X Y x y) ≤ lim := by
  induction l generalizing s with
  | nil => simp
  | cons a l ih =>
    rw [List.map_cons, List.foldl_cons, ih]
    simp only [bndStep, cnOf, List.mem_cons, forall_eq_or_imp, Int.max_le]
    exact and_assoc
/-- The upper end of the bound at one x. -/
def bndX (X Y : List Int) (V : List (List Int)) (y1 y2 x : Int) : Int := (bndL (cornersL X Y V (endsL X x x) (endsL Y y1 y2))).2

theorem cl_bd {X Y : List Int} {V : List (List Int)} {x y : Int} (h : ctB X Y V = true) (hx : On X x) (hy : On Y y) : -1000000 ≤ cl (atN X Y V x y) (atD X Y x y) ∧ cl (atN X Y V x y) (atD X Y x y) ≤ 1000000 := by
  obtain ⟨g1, g2, g3, g4⟩ := good_of (V := V) h hx hy
  simp only [cnOf] at g1 g2 g3 g4
  constructor
  · have : (-(atN X Y V x y)) / atD X Y x y ≤ 1000000 := Int.ediv_le_of_le_mul (by omega) (by omega)
    unfold cl
    omega
  · exact (cl_le g1).2 (by omega)

theorem bndX_iff {X Y : List Int} {V : List (List Int)} {y1 y2 x lim : Int} (h : ctB X Y V = true) (hx : On X x) (h1 : On Y y1) (h2 : On Y y2) : bndX X Y V y1 y2 x ≤ lim ↔ AllLe X Y V y1 y2 lim x := by
  obtain ⟨ha, hb, _, _⟩ := ctB_get h
  have ho := endsL_on h1 h2
  unfold bndX
  rw [endsL_point]
  unfold bndL cornersL
  simp only [List.flatMap_cons, List.flatMap_nil, List.append_nil]
  rw [bnd_map]
  unfold AllLe Le
  constructor
  · rintro ⟨_, h3⟩ y hy
    exact (cl_le (atD_bd ha hb hx (ho y hy)).1).1 (h3 y hy)
  · intro h3
    refine ⟨?_, fun y hy => (cl_le (atD_bd ha hb hx (ho y hy)).1).2 (h3 y hy)⟩
    have hm : y1 ∈ endsL Y y1 y2 := by unfold endsL; simp
    have := (cl_le (atD_bd ha hb hx h1).1).2 (h3 y1 hm)
    have := (cl_bd h hx h1).1
    simp only
    omega
theorem clamp_iff {X Y : List Int} {V : List (List Int)} {y1 y2 x lim : Int} (h : ctB X Y V = true) (hx : On X x) (h1 : On Y y1) (h2 : On Y y2) : AllLe X Y V y1 y2 (min (max lim (-1000001)) 1000000) x ↔ AllLe X Y V y1 y2 lim x := by
  obtain ⟨ha, hb, _, _⟩ := ctB_get h
  have ho := endsL_on h1 h2
  unfold AllLe Le
  constructor
  · intro h3 y hy
    have hd := (atD_bd ha hb hx (ho y hy)).1
    have := (cl_le hd).2 (h3 y hy)
    have := cl_bd h hx (ho y hy)
    exact (cl_le hd).1 (by omega)
  · intro h3 y hy
    have hd := (atD_bd ha hb hx (ho y hy)).1
    have := (cl_le hd).2 (h3 y hy)
    have := cl_bd h hx (ho y hy)
    exact (cl_le hd).1 (by omega)

theorem on_of {X : List Int} {x : Int} (h0 : gz X 0 ≤ x) (h1 : x ≤ gz X (X.length - 1)) : On X x := ⟨h0, h1⟩
theorem grS_is {X Y : List Int} {V : List (List Int)} {y1 y2 lim : Int} (h : ctB X Y V = true) (hv : vI y1 y2 = true) (h1 : On Y y1) (h2 : On Y y2) : IsG (gz X 0) (gz X (X.length - 1)) (fun x => bndX X Y V y1 y2 x ≤ lim) (grS X Y V y1 y2 lim) := by
  obtain ⟨ha, hb, _, _⟩ := ctB_get h
  obtain ⟨l1, l2, _, _⟩ := axB_get ha
  have ev : [(y1, y2)].all vS = true := by simp only [List.all_cons, List.all_nil, Bool.and_true, vS_vI]; exact hv
  have eo : onB Y [y1, y2] = true := by
    have a := h1.1; have b := h1.2; have c := h2.1; have d := h2.2
    unfold gz at a b c d
    unfold onB wB
    simp
    omega
  have e : grS X Y V y1 y2 lim = grGo X Y V y1 y2 (min (max lim (-1000001)) 1000000) (X.length - 1) := by unfold grS; rw [h, ev, eo]; rfl
  rw [e]
  rcases grGo_is (V := V) (lim := min (max lim (-1000001)) 1000000) ha hb h1 h2 (X.length - 1) (by omega) (by omega) with h0 | hg
  · omega
  · refine hg.iff fun x hx hx' => ?_
    rw [clamp_iff h (on_of hx hx') h1 h2, bndX_iff h (on_of hx hx') h1 h2]

theorem run_field_high (a b : Int) (W : World) : (Instr.field 34 (.agg #[.int .i64 a, .int .i64 b]) 1).run Try.prog W = .ok (.int .i64 b) W := by
  simp [Instr.field, go_sem, asAgg]

end Go.Proofs.Ythhokiigdgpmcaa

/- Plain mathematics: a table's values on a box lie between those at its corners; the first greatest corner is the greatest. -/
namespace Go.Proofs.Ythhokiigdgpmcaa

/-- The value on an axis of what is f at its knots. -/
def axF (X : List Int) (f : Nat → Int) (x : Int) : Int := (gz X (partN X x + 1) - x) * f (partN X x) + (x - gz X (partN X x)) * f (partN X x + 1)
theorem pos_le {s u : Int} (hs : 1 ≤ s) : s * u ≤ 0 ↔ u ≤ 0 := by
  constructor
  · intro h
    rcases ilt 0 u with h' | h'
    · have := Int.mul_pos (show 0 < s by omega) h'
      omega
    · exact h'
  · intro h
    exact Int.mul_nonpos_of_nonneg_of_nonpos (by omega) h

theorem axF_seg {X : List Int} {f : Nat → Int} {x : Int} {m : Nat} (ha : axB X = true) (hm : m + 1 < X.length) (h0 : gz X m ≤ x) (h1 : x ≤ gz X (m + 1)) :
    axF X f x ≤ 0 ↔ (gz X (m + 1) - x) * f m + (x - gz X m) * f (m + 1) ≤ 0 := by
  obtain ⟨a, b, c, d⟩ := axB_get ha
  have lo := knot_on ha (i := m) (by omega)
  have hi := knot_on ha (i := m + 1) hm
  have hx : On X x := ⟨by have := lo.1; omega, by have := hi.2; omega⟩
  have s := seg_of ha hx.1 hx.2
  unfold axF
  generalize hp : partN X x = p at *
  have sl := s.lt
  have s1 := s.lo
  have s2 := s.hi
  have s3 := s.d1
  have hd := stN_get d (m := m) (by omega)
  have hd1 : 1 ≤ gz X (m + 1) - gz X m := hd.1
  rcases Nat.lt_trichotomy p m with hlt | rfl | hlt
  · have hpm : p + 1 = m := by
      rcases Nat.lt_or_ge (p + 1) m with h | h
      · have := st_mono d h (by omega)
        omega
      · omega
    subst hpm
    have ex : x = gz X (p + 1) := by omega
    rw [ex, Int.sub_self, Int.zero_mul, Int.zero_mul, Int.zero_add, Int.add_zero, pos_le (by omega), pos_le (by omega)]
  · exact Iff.rfl
  · have hpm : p = m + 1 := by
      rcases Nat.lt_or_ge (m + 1) p with h | h
      · have := st_mono d h (by omega)
        omega
      · omega
    subst hpm
    have ex : x = gz X (m + 1) := by omega
    rw [ex, Int.sub_self, Int.zero_mul, Int.zero_mul, Int.zero_add, Int.add_zero, pos_le (by omega), pos_le (by omega)]

/-- The ends beside a number, in one part. -/
theorem ends_beside {X : List Int} {x1 x2 x : Int} (ha : axB X = true) (o1 : On X x1) (o2 : On X x2) (h1 : x1 ≤ x) (h2 : x ≤ x2) :
    ∃ (m : Nat) (a b : Int), m + 1 < X.length ∧ a ∈ endsL X x1 x2 ∧ b ∈ endsL X x1 x2 ∧ gz X m ≤ a ∧ a ≤ x ∧ x ≤ b ∧ b ≤ gz X (m + 1) := by
  have hx : On X x := ⟨by have := o1.1; omega, by have := o2.2; omega⟩
  have s := seg_of ha hx.1 hx.2
  have hl := s.lt
  have hlo := s.lo
  have hhi := s.hi
  generalize partN X x = m at *
  have mem : ∀ n, n < X.length → x1 < gz X n → gz X n < x2 → gz X n ∈ endsL X x1 x2 := fun n hn h3 h4 => by
    unfold endsL
    simp only [List.mem_cons, List.mem_append, List.mem_filter, Bool.and_eq_true, decide_eq_true_eq]
    refine .inr (.inl ⟨?_, h3, h4⟩)
    unfold gz
    rw [List.getElem?_eq_getElem hn]
    exact List.getElem_mem hn
  have m1 : x1 ∈ endsL X x1 x2 := by unfold endsL; simp
  have m2 : x2 ∈ endsL X x1 x2 := by
    unfold endsL
    by_cases h : x1 < x2
    · simp [h]
    · simp; omega
  obtain ⟨a, a1, a2, a3⟩ : ∃ a, a ∈ endsL X x1 x2 ∧ gz X m ≤ a ∧ a ≤ x := by
    by_cases h : gz X m ≤ x1
    · exact ⟨x1, m1, h, h1⟩
    · by_cases h' : gz X m < x2
      · exact ⟨gz X m, mem m (by omega) (by omega) h', Int.le_refl _, hlo⟩
      · exact ⟨x2, m2, by omega, by omega⟩
  obtain ⟨b, b1, b2, b3⟩ : ∃ b, b ∈ endsL X x1 x2 ∧ x ≤ b ∧ b ≤ gz X (m + 1) := by
    by_cases h : x2 ≤ gz X (m + 1)
    · exact ⟨x2, m2, h2, h⟩
    · by_cases h' : x1 < gz X (m + 1)
      · exact ⟨gz X (m + 1), mem (m + 1) hl h' (by omega), hhi, Int.le_refl _⟩
      · exact ⟨x1, m1, by omega, by omega⟩
  exact ⟨m, a, b, hl, a1, b1, a2, a3, b2, b3⟩

theorem axF_ends {X : List Int} {f : Nat → Int} {x1 x2 x : Int} (ha : axB X = true) (o1 : On X x1) (o2 : On X x2) (h1 : x1 ≤ x) (h2 : x ≤ x2) (hE : ∀ e ∈ endsL X x1 x2, axF X f e ≤ 0) : axF X f x ≤ 0 := by
  obtain ⟨m, a, b, hl, ha1, hb1, h3, h4, h5, h6⟩ := ends_beside ha o1 o2 h1 h2
  have ea := (axF_seg (f := f) ha hl h3 (by omega)).1 (hE a ha1)
  have eb := (axF_seg (f := f) ha hl (by omega) h6).1 (hE b hb1)
  refine (axF_seg ha hl (by omega) (by omega)).2 ?_
  by_cases e : a = b
  · have : x = a := by omega
    rw [this]
    exact ea
  · -- affine: (b - a) G x = (b - x) G a + (x - a) G b
    have k1 := Int.mul_nonpos_of_nonneg_of_nonpos (show 0 ≤ b - x by omega) ea
    have k2 := Int.mul_nonpos_of_nonneg_of_nonpos (show 0 ≤ x - a by omega) eb
    have hk : (b - a) * ((gz X (m + 1) - x) * f m + (x - gz X m) * f (m + 1)) = (b - x) * ((gz X (m + 1) - a) * f m + (a - gz X m) * f (m + 1)) + (x - a) * ((gz X (m + 1) - b) * f m + (b - gz X m) * f (m + 1)) := by grind
    exact (pos_le (show 1 ≤ b - a by omega)).1 (by rw [hk]; omega)

/-- What is so at the corners is so at each point. -/
theorem all_points {X Y : List Int} {V : List (List Int)} {x1 x2 y1 y2 x y s M : Int} (hct : ctB X Y V = true) (ox1 : On X x1) (ox2 : On X x2) (oy1 : On Y y1) (oy2 : On Y y2) (hx1 : x1 ≤ x) (hx2 : x ≤ x2) (hy1 : y1 ≤ y) (hy2 : y ≤ y2)
    (hE : ∀ a ∈ endsL X x1 x2, ∀ b ∈ endsL Y y1 y2, s * (atN X Y V a b - M * atD X Y a b) ≤ 0) : s * (atN X Y V x y - M * atD X Y x y) ≤ 0 := by
  obtain ⟨ha, hb, _, _⟩ := ctB_get hct
  have eX : ∀ a b, s * (atN X Y V a b - M * atD X Y a b) = axF X (fun p => s * unP Y V p M b) a := fun a b => by
    unfold axF atN atD unP
    grind
  have eY : ∀ a b, s * (atN X Y V a b - M * atD X Y a b) = axF Y (fun k => s * ((gz X (partN X a + 1) - a) * (gz (gr V (partN X a)) k - M) + (a - gz X (partN X a)) * (gz (gr V (partN X a + 1)) k - M))) b := fun a b => by
    unfold axF atN atD kNum kDen
    grind
  rw [eX]
  refine axF_ends ha ox1 ox2 hx1 hx2 fun a ha' => ?_
  rw [← eX, eY]
  refine axF_ends hb oy1 oy2 hy1 hy2 fun b hb' => ?_
  rw [← eY]
  exact hE a ha' b hb'

theorem fl_ge {N D m : Int} (h : 1 ≤ D) : m ≤ fl N D ↔ m * D ≤ N := by unfold fl; exact Int.le_ediv_iff_mul_le (by omega)

theorem bnd_fold (l : List Cn) (s : Int × Int) : ((l.foldl bndStep s).1 ≤ s.1 ∧ s.2 ≤ (l.foldl bndStep s).2) ∧ ∀ c ∈ l, (l.foldl bndStep s).1 ≤ fl c.1 c.2.1 ∧ cl c.1 c.2.1 ≤ (l.foldl bndStep s).2 := by
  induction l generalizing s with
  | nil => simp
  | cons x l ih =>
    obtain ⟨⟨h1, h2⟩, h3⟩ := ih (bndStep s x)
    have e1 : (bndStep s x).1 = min s.1 (fl x.1 x.2.1) := rfl
    have e2 : (bndStep s x).2 = max s.2 (cl x.1 x.2.1) := rfl
    rw [List.foldl_cons]
    generalize bndStep s x = s' at *
    generalize l.foldl bndStep s' = r at *
    refine ⟨⟨by omega, by omega⟩, fun c hc => ?_⟩
    rcases List.mem_cons.1 hc with rfl | hc
    · exact ⟨by omega, by omega⟩
    · exact h3 c hc
theorem bnd_least (l : List Cn) (s : Int × Int) (m M : Int) (h1 : m ≤ s.1) (h2 : s.2 ≤ M) (h : ∀ c ∈ l, m ≤ fl c.1 c.2.1 ∧ cl c.1 c.2.1 ≤ M) : m ≤ (l.foldl bndStep s).1 ∧ (l.foldl bndStep s).2 ≤ M := by
  induction l generalizing s with
  | nil => exact ⟨h1, h2⟩
  | cons x l ih =>
    have hx := h x (by simp)
    exact ih (bndStep s x) (by simp only [bndStep]; omega) (by simp only [bndStep]; omega) (fun c hc => h c (by simp [hc]))
theorem corner_mem {X Y : List Int} {V : List (List Int)} {EX EY : List Int} {a b : Int} (ha : a ∈ EX) (hb : b ∈ EY) : cnOf X Y V a b ∈ cornersL X Y V EX EY := by
  unfold cornersL
  exact List.mem_flatMap.2 ⟨a, ha, List.mem_map.2 ⟨b, hb, rfl⟩⟩
theorem corner_of {X Y : List Int} {V : List (List Int)} {EX EY : List Int} {c : Cn} (h : c ∈ cornersL X Y V EX EY) : ∃ a b, a ∈ EX ∧ b ∈ EY ∧ c = cnOf X Y V a b := by
  unfold cornersL at h
  obtain ⟨a, ha, h⟩ := List.mem_flatMap.1 h
  obtain ⟨b, hb, rfl⟩ := List.mem_map.1 h
  exact ⟨a, b, ha, hb, rfl⟩

/-- At each point of a box the value lies within the bound. -/
theorem inside {X Y : List Int} {V : List (List Int)} {x1 x2 y1 y2 x y : Int} (hct : ctB X Y V = true) (ox1 : On X x1) (ox2 : On X x2) (oy1 : On Y y1) (oy2 : On Y y2) (hx1 : x1 ≤ x) (hx2 : x ≤ x2) (hy1 : y1 ≤ y) (hy2 : y ≤ y2) :
    (bndL (cornersL X Y V (endsL X x1 x2) (endsL Y y1 y2))).1 ≤ fl (atN X Y V x y) (atD X Y x y) ∧ cl (atN X Y V x y) (atD X Y x y) ≤ (bndL (cornersL X Y V (endsL X x1 x2) (endsL Y y1 y2))).2 := by
  obtain ⟨ha, hb, _, _⟩ := ctB_get hct
  have hx : On X x := ⟨by have := ox1.1; omega, by have := ox2.2; omega⟩
  have hy : On Y y := ⟨by have := oy1.1; omega, by have := oy2.2; omega⟩
  have hd := (atD_bd ha hb hx hy).1
  have eo := endsL_on ox1 ox2
  have fo := endsL_on oy1 oy2
  obtain ⟨_, hall⟩ := bnd_fold (cornersL X Y V (endsL X x1 x2) (endsL Y y1 y2)) (1000000, -1000000)
  have hB : bndL (cornersL X Y V (endsL X x1 x2) (endsL Y y1 y2)) = (cornersL X Y V (endsL X x1 x2) (endsL Y y1 y2)).foldl bndStep (1000000, -1000000) := rfl
  rw [← hB] at hall
  generalize bndL (cornersL X Y V (endsL X x1 x2) (endsL Y y1 y2)) = B at *
  constructor
  · rw [fl_ge hd]
    have := all_points (s := -1) (M := B.1) hct ox1 ox2 oy1 oy2 hx1 hx2 hy1 hy2 (fun a ha' b hb' => by
      have h1 := (hall _ (corner_mem (V := V) ha' hb')).1
      simp only [cnOf] at h1
      have := (fl_ge (atD_bd ha hb (eo a ha') (fo b hb')).1).1 h1
      omega)
    omega
  · rw [cl_le hd]
    have := all_points (s := 1) (M := B.2) hct ox1 ox2 oy1 oy2 hx1 hx2 hy1 hy2 (fun a ha' b hb' => by
      have h1 := (hall _ (corner_mem (V := V) ha' hb')).2
      simp only [cnOf] at h1
      have := (cl_le (atD_bd ha hb (eo a ha') (fo b hb')).1).1 h1
      omega)
    omega

/-- On a part of a box the bound is not wider. -/
theorem part_in {X Y : List Int} {V : List (List Int)} {x1 x2 y1 y2 a1 a2 b1 b2 : Int} (hct : ctB X Y V = true) (ox1 : On X x1) (ox2 : On X x2) (oy1 : On Y y1) (oy2 : On Y y2) (h1 : x1 ≤ a1) (h2 : a1 ≤ a2) (h3 : a2 ≤ x2) (h4 : y1 ≤ b1) (h5 : b1 ≤ b2) (h6 : b2 ≤ y2) :
    (bndL (cornersL X Y V (endsL X x1 x2) (endsL Y y1 y2))).1 ≤ (bndL (cornersL X Y V (endsL X a1 a2) (endsL Y b1 b2))).1 ∧ (bndL (cornersL X Y V (endsL X a1 a2) (endsL Y b1 b2))).2 ≤ (bndL (cornersL X Y V (endsL X x1 x2) (endsL Y y1 y2))).2 := by
  have rng : ∀ {Z : List Int} {lo hi n : Int}, lo ≤ hi → n ∈ endsL Z lo hi → lo ≤ n ∧ n ≤ hi := fun {Z lo hi n} hlh h => by
    unfold endsL at h
    simp only [List.mem_cons, List.mem_append, List.mem_filter, Bool.and_eq_true, decide_eq_true_eq] at h
    rcases h with rfl | ⟨_, h, h'⟩ | h
    · exact ⟨Int.le_refl _, hlh⟩
    · omega
    · split at h
      · simp at h; omega
      · simp at h
  obtain ⟨⟨k1, k2⟩, _⟩ := bnd_fold (cornersL X Y V (endsL X x1 x2) (endsL Y y1 y2)) (1000000, -1000000)
  refine bnd_least _ _ _ _ k1 k2 fun c hc => ?_
  obtain ⟨a, b, ha, hb, rfl⟩ := corner_of hc
  have ra := rng h2 ha
  have rb := rng h5 hb
  exact inside hct ox1 ox2 oy1 oy2 (by omega) (by omega) (by omega) (by omega)

theorem ltF_cl {n d m f : Int} (hd : 1 ≤ d) (hf : 1 ≤ f) : (ltF n d m f = true → cl n d ≤ cl m f) ∧ (ltF n d m f = false → cl m f ≤ cl n d) := by
  obtain ⟨r1, r2⟩ := fl_rem (n := n) hd
  obtain ⟨s1, s2⟩ := fl_rem (n := m) hf
  have key : ∀ {p u d q v f : Int}, 1 ≤ d → 1 ≤ f → 0 ≤ u → u < d → 0 ≤ v → v < f → (p < q ∨ (p = q ∧ u * f ≤ v * d)) → cl (p * d + u) d ≤ cl (q * f + v) f := by
    intro p u d q v f hd hf hu hu' hv hv' h
    have c1 := (cl_le (N := q * f + v) (lim := cl (q * f + v) f) hf).1 (Int.le_refl _)
    rw [cl_le hd]
    generalize cl (q * f + v) f = M at *
    -- q f + v ≤ M f
    have hqM : q ≤ M := by
      have h1 : q * f ≤ M * f := by omega
      exact Int.le_of_mul_le_mul_right h1 (by omega)
    rcases h with h | ⟨rfl, h⟩
    · have h1 : (p + 1) * d ≤ M * d := Int.mul_le_mul_of_nonneg_right (by omega) (by omega)
      have e : (p + 1) * d = p * d + d := by grind
      omega
    · rcases ilt p M with h1 | h1
      · have h2 : (p + 1) * d ≤ M * d := Int.mul_le_mul_of_nonneg_right (by omega) (by omega)
        have e : (p + 1) * d = p * d + d := by grind
        omega
      · obtain rfl : p = M := by omega
        have hv0 : v = 0 := by omega
        rw [hv0, Int.zero_mul] at h
        have hu0 : u = 0 := by
          rcases ilt 0 u with h2 | h2
          · have := Int.mul_pos h2 (show 0 < f by omega)
            omega
          · omega
        omega
  have en : n = fl n d * d + (n - fl n d * d) := by omega
  have em : m = fl m f * f + (m - fl m f * f) := by omega
  unfold ltF
  constructor
  · intro h
    rw [en, em]
    refine key hd hf (by omega) (by omega) (by omega) (by omega) ?_
    split at h
    · rename_i e
      simp at h
      exact .inr ⟨e, by omega⟩
    · simp at h
      exact .inl h
  · intro h
    rw [em, en]
    refine key hf hd (by omega) (by omega) (by omega) (by omega) ?_
    split at h
    · rename_i e
      simp at h
      exact .inr ⟨e.symm, by omega⟩
    · rename_i e
      simp at h
      exact .inl (by omega)

theorem wst_fold (l : List Cn) (s : Cn) (hs : Gd s.1 s.2.1) (hl : ∀ c ∈ l, Good c) : (wstR s l = s ∨ wstR s l ∈ l) ∧ cl s.1 s.2.1 ≤ cl (wstR s l).1 (wstR s l).2.1 ∧ ∀ c ∈ l, cl c.1 c.2.1 ≤ cl (wstR s l).1 (wstR s l).2.1 := by
  induction l generalizing s with
  | nil => exact ⟨.inl rfl, Int.le_refl _, by simp⟩
  | cons x l ih =>
    have hx := hl x (by simp)
    have hg := wst_good hs hx
    obtain ⟨h1, h2, h3⟩ := ih (wstStep s x) hg (fun c hc => hl c (by simp [hc]))
    have e : wstR s (x :: l) = wstR (wstStep s x) l := rfl
    rw [e]
    have hk := ltF_cl (n := s.1) (d := s.2.1) (m := x.1) (f := x.2.1) hs.d1 hx.1
    have hmax : cl s.1 s.2.1 ≤ cl (wstStep s x).1 (wstStep s x).2.1 ∧ cl x.1 x.2.1 ≤ cl (wstStep s x).1 (wstStep s x).2.1 ∧ (wstStep s x = s ∨ wstStep s x = x) := by
      unfold wstStep
      cases h : ltF s.1 s.2.1 x.1 x.2.1 with
      | true => exact ⟨hk.1 h, Int.le_refl _, .inr rfl⟩
      | false => exact ⟨Int.le_refl _, hk.2 h, .inl rfl⟩
    obtain ⟨m1, m2, m3⟩ := hmax
    refine ⟨?_, by omega, fun c hc => ?_⟩
    · rcases h1 with h1 | h1
      · rw [h1]
        rcases m3 with m3 | m3
        · exact .inl m3
        · exact .inr (by rw [m3]; simp)
      · exact .inr (by simp [h1])
    · rcases List.mem_cons.1 hc with rfl | hc
      · omega
      · exact h3 c hc

/-- The worst corner is one of the box, and has the upper end of the bound. -/
theorem worst_top {X Y : List Int} {V : List (List Int)} {x1 x2 y1 y2 : Int} (hct : ctB X Y V = true) (ox1 : On X x1) (ox2 : On X x2) (oy1 : On Y y1) (oy2 : On Y y2) (hx : x1 ≤ x2) (hy : y1 ≤ y2) :
    ∃ u v, (wstL (cornersL X Y V (endsL X x1 x2) (endsL Y y1 y2))).2.2.1 = u ∧ (wstL (cornersL X Y V (endsL X x1 x2) (endsL Y y1 y2))).2.2.2 = v ∧ (x1 ≤ u ∧ u ≤ x2) ∧ (y1 ≤ v ∧ v ≤ y2) ∧ cl (atN X Y V u v) (atD X Y u v) = (bndL (cornersL X Y V (endsL X x1 x2) (endsL Y y1 y2))).2 := by
  have rng : ∀ {Z : List Int} {lo hi n : Int}, lo ≤ hi → n ∈ endsL Z lo hi → lo ≤ n ∧ n ≤ hi := fun {Z lo hi n} hlh h => by
    unfold endsL at h
    simp only [List.mem_cons, List.mem_append, List.mem_filter, Bool.and_eq_true, decide_eq_true_eq] at h
    rcases h with rfl | ⟨_, h, h'⟩ | h
    · exact ⟨Int.le_refl _, hlh⟩
    · omega
    · split at h
      · simp at h; omega
      · simp at h
  have eo := endsL_on ox1 ox2
  have fo := endsL_on oy1 oy2
  have hgood : ∀ c ∈ cornersL X Y V (endsL X x1 x2) (endsL Y y1 y2), Good c := fun c hc => by
    obtain ⟨a, b, ha, hb, rfl⟩ := corner_of hc
    exact good_of hct (eo a ha) (fo b hb)
  have h0 := cornersL_zero (X := X) (Y := Y) (V := V) (endsL_zero X x1 x2) (endsL_zero Y y1 y2)
  have hg0 := good_of (V := V) hct ox1 oy1
  have hm0 : cnOf X Y V x1 y1 ∈ cornersL X Y V (endsL X x1 x2) (endsL Y y1 y2) := List.mem_of_getElem? h0
  obtain ⟨h1, _, h3⟩ := wst_fold _ (cnOf X Y V x1 y1) hg0.gd hgood
  rw [wstL_wstR h0 hg0] at h1 h3
  have hmem : wstL (cornersL X Y V (endsL X x1 x2) (endsL Y y1 y2)) ∈ cornersL X Y V (endsL X x1 x2) (endsL Y y1 y2) := by
    rcases h1 with h1 | h1
    · rw [h1]; exact hm0
    · exact h1
  obtain ⟨⟨k1, k2⟩, k3⟩ := bnd_fold (cornersL X Y V (endsL X x1 x2) (endsL Y y1 y2)) (1000000, -1000000)
  have hw := k3 _ hmem
  have hl := bnd_least (cornersL X Y V (endsL X x1 x2) (endsL Y y1 y2)) (1000000, -1000000) (-1000001) (cl (wstL (cornersL X Y V (endsL X x1 x2) (endsL Y y1 y2))).1 (wstL (cornersL X Y V (endsL X x1 x2) (endsL Y y1 y2))).2.1) (by decide)
    (by have := (cl_bd hct ox1 oy1).1; have := h3 _ hm0; simp only [cnOf] at this ⊢; omega) (fun c hc => ⟨by
      obtain ⟨a, b, ha, hb, rfl⟩ := corner_of hc
      exact (hgood _ (corner_mem ha hb)).gd.fl.1, h3 c hc⟩)
  obtain ⟨u, v, hu, hv, e⟩ := corner_of hmem
  have eb : bndL (cornersL X Y V (endsL X x1 x2) (endsL Y y1 y2)) = (cornersL X Y V (endsL X x1 x2) (endsL Y y1 y2)).foldl bndStep (1000000, -1000000) := rfl
  rw [← eb] at hw hl
  refine ⟨u, v, by rw [e]; rfl, by rw [e]; rfl, rng hx hu, rng hy hv, ?_⟩
  rw [e] at hw hl
  simp only [cnOf] at hw hl
  omega

end Go.Proofs.Ythhokiigdgpmcaa

/- Plain mathematics of layer 8: no program. -/
namespace Go.Proofs.Ythhokiigdgpmcaa

/-! ### Lowest terms -/
def gcI (a b : Int) : Int := (Int.gcd a b : Int)
theorem gcI_step (x y : Int) : gcI y (x % y) = gcI x y := by
  unfold gcI
  congr 1
  have e : x % y = x + (-(x / y)) * y := by have := Int.mul_ediv_add_emod x y; grind
  rw [e, Int.gcd_add_mul_right_right, Int.gcd_comm]
theorem gcI_zero {x : Int} (hx : 0 ≤ x) : gcI x 0 = x := by
  unfold gcI
  simp
  omega
theorem gcI_abs (a b : Int) : gcI (max a (-a)) b = gcI a b := by
  unfold gcI
  congr 1
  rcases Int.le_total 0 a with h | h
  · rw [show max a (-a) = a by omega]
  · rw [show max a (-a) = -a by omega, Int.neg_gcd]
theorem gcI_pos {a b : Int} (hb : 1 ≤ b) : 1 ≤ gcI a b := by
  unfold gcI
  have : 0 < Int.gcd a b := Int.gcd_pos_of_ne_zero_right a (by omega)
  omega
def lowN (a b : Int) : Int × Int := (a.tdiv (gcI a b), b / gcI a b)

/-! ### Ascending -/
def ascN (X : List Int) (n : Nat) : Bool := (List.range n).all fun j => decide (X[j]?.getD 0 < X[j + 1]?.getD 0)
theorem ascN_step (X : List Int) (n : Nat) : ascN X (n + 1) = (ascN X n && decide (X[n]?.getD 0 < X[n + 1]?.getD 0)) := by
  unfold ascN
  rw [List.range_succ, List.all_append]
  simp
theorem ascN_bad {X : List Int} {n m : Nat} (h : m < n) (hm : X[m + 1]?.getD 0 ≤ X[m]?.getD 0) : ascN X n = false := by
  unfold ascN
  rw [List.all_eq_false]
  exact ⟨m, List.mem_range.2 h, by simp; omega⟩
theorem ascN_get {X : List Int} {n m : Nat} (h : ascN X n = true) (hm : m < n) : X[m]?.getD 0 < X[m + 1]?.getD 0 := by
  unfold ascN at h
  rw [List.all_eq_true] at h
  have := h m (List.mem_range.2 hm)
  simpa using this

/-! ### A vibration -/
def vibB (S M : List Int) : Bool := decide (S.length ≤ 400) && wB (-100) 100 S && (decide (2 ≤ M.length) && decide (M.length ≤ 9)) && wB 0 ((S.length : Int) - 1) M && ascN M (M.length - 1)
def vibE (S M : List Int) : Int := if vibB S M then 0 else 80
/-- The value of the point k of n in a turn of T samples, times n. -/
def ptN (X : Nat → Int) (T k n : Int) : Int :=
  if k * T % n = 0 then n * X (k * T / n).toNat else (n - k * T % n) * X (k * T / n).toNat + k * T % n * X ((k * T / n).toNat + 1)
def valN (S : List Int) (a b k n : Int) : Int := ptN (fun j => S[a.toNat + j]?.getD 0) (b - a) k n
/-- .. together over the first m turns. -/
def sumN (S M : List Int) (k n : Int) : Nat → Int
  | 0 => 0
  | m + 1 => sumN S M k n m + valN S (M[m]?.getD 0) (M[m + 1]?.getD 0) k n
def avL (S M : List Int) (n : Nat) : List Int := (List.range n).map fun k : Nat => sumN S M (k : Int) n (M.length - 1)

/-! ### An average without its teeth -/
def wthB (n teeth : Int) (L : List Int) : Bool := decide (1 ≤ n) && decide (n ≤ 24) && wB (-1000000) 1000000 L && (decide (1 ≤ teeth) && decide (teeth ≤ n)) && decide (n.tmod teeth = 0)
def avgB (L : List Int) (teeth : Int) : Bool := wthB L.length teeth L

/-! ### Crest -/
def crB (peak sum n : Int) : Bool := decide (1 ≤ n ∧ n ≤ 24) && decide (0 ≤ peak ∧ peak ≤ 48000000) && decide (peak ≤ sum ∧ sum ≤ n * peak)
def crN (peak sum n : Int) : Int × Int × Int :=
  if crB peak sum n then (if sum = 0 then (0, 1, 0) else ((lowN (n * peak) sum).1, (lowN (n * peak) sum).2, 0)) else (0, 0, 1)

end Go.Proofs.Ythhokiigdgpmcaa

/- Plain mathematics: the hoist's table, and swings. -/
namespace Go.Proofs.Ythhokiigdgpmcaa

/-! ### The table of a hoist -/
def loS (X Y : List Int) (V : List (List Int)) (a b y1 y2 : Int) : Int := (bndS X Y V a b y1 y2).1.1
def carB (X Y : List Int) (V : List (List Int)) (a b y1 y2 wt : Int) : Bool := decide (wt = 0) || decide (wt ≤ loS X Y V a b y1 y2)
def beaB (X Y : List Int) (V : List (List Int)) (n y1 y2 wt : Int) : Bool := decide (wt ≤ loS X Y V n n y1 y2)
/-- CheckHoist. -/
def hoB (X Y : List Int) (V : List (List Int)) (cable charge : Int) : Bool :=
  ((decide (1 ≤ cable ∧ cable ≤ 100) && ctB X Y V) && decide (0 ≤ charge ∧ charge ≤ 100)) && (decide (gz X 0 ≤ 0) && decide (cable ≤ gz X (X.length - 1)))
def hoE (X Y : List Int) (V : List (List Int)) (cable charge : Int) : Int := if hoB X Y V cable charge then 0 else 71
/-- .. and winds, but for ErrArg. -/
def hwE (X Y : List Int) (V : List (List Int)) (cable charge y1 y2 : Int) : Int := if hoB X Y V cable charge then (if vS (y1, y2) then 0 else 10) else 71
/-- CheckWinds. -/
def cwE (X Y : List Int) (V : List (List Int)) (cable charge y1 y2 : Int) : Int := if hoB X Y V cable charge then (if vS (y1, y2) then (if btB Y y1 y2 then 0 else 1) else 10) else 71

theorem hoB_get {X Y : List Int} {V : List (List Int)} {cable charge : Int} (h : hoB X Y V cable charge = true) :
    (1 ≤ cable ∧ cable ≤ 100) ∧ ctB X Y V = true ∧ (0 ≤ charge ∧ charge ≤ 100) ∧ gz X 0 ≤ 0 ∧ cable ≤ gz X (X.length - 1) := by
  unfold hoB at h
  simp only [Bool.and_eq_true, decide_eq_true_eq] at h
  exact ⟨h.1.1.1, h.1.1.2, h.1.2, h.2.1, h.2.2⟩
theorem vS_get {a b : Int} (h : vS (a, b) = true) : a ≤ b ∧ -1000000 ≤ a ∧ b ≤ 1000000 := by
  unfold vS wB at h
  simp at h
  omega
theorem vS_mk {a b : Int} (h : a ≤ b) (h1 : -1000000 ≤ a) (h2 : b ≤ 1000000) : vS (a, b) = true := by
  unfold vS wB
  simp
  omega
theorem btB_get {Y : List Int} {a b : Int} (h : btB Y a b = true) (hab : a ≤ b) : On Y a ∧ On Y b := by
  unfold btB at h
  simp only [Bool.and_eq_true, decide_eq_true_eq] at h
  exact ⟨⟨h.1, by omega⟩, ⟨by omega, h.2⟩⟩
theorem onB_pair {X : List Int} {a b : Int} (h1 : On X a) (h2 : On X b) : onB X [a, b] = true := by
  have a1 := h1.1
  have a2 := h1.2
  have b1 := h2.1
  have b2 := h2.2
  unfold gz at a1 a2 b1 b2
  unfold onB wB
  simp
  omega
theorem cbE_good {X Y : List Int} {V : List (List Int)} {a b y1 y2 : Int} (hc : ctB X Y V = true) (h1 : vS (a, b) = true) (h2 : vS (y1, y2) = true) (oa : On X a) (ob : On X b) (o1 : On Y y1) (o2 : On Y y2) : cbE X Y V a b y1 y2 = 0 := by
  unfold cbE
  rw [hc, show ([(a, b), (y1, y2)].all vS) = true by simp [h1, h2], onB_pair oa ob, onB_pair o1 o2]
  rfl
theorem loS_ok {X Y : List Int} {V : List (List Int)} {a b y1 y2 : Int} (h : cbE X Y V a b y1 y2 = 0) : loS X Y V a b y1 y2 = (bndL (cornersL X Y V (endsL X a b) (endsL Y y1 y2))).1 := by
  unfold loS bndS
  rw [if_pos h]

/-- A right hoist in right winds. -/
structure HZ (X Y : List Int) (V : List (List Int)) (cable y1 y2 : Int) : Prop where
  ct : ctB X Y V = true
  ys : vS (y1, y2) = true
  o1 : On Y y1
  o2 : On Y y2
  x0 : gz X 0 ≤ 0
  xc : cable ≤ gz X (X.length - 1)
  c1 : 1 ≤ cable
  c2 : cable ≤ 100
theorem hz_of {X Y : List Int} {V : List (List Int)} {cable charge y1 y2 : Int} (h : cwE X Y V cable charge y1 y2 = 0) : HZ X Y V cable y1 y2 := by
  unfold cwE at h
  split at h
  · rename_i h1
    split at h
    · rename_i h2
      split at h
      · rename_i h3
        obtain ⟨⟨a, b⟩, c, _, d, e⟩ := hoB_get h1
        obtain ⟨o1, o2⟩ := btB_get h3 (vS_get h2).1
        exact ⟨c, h2, o1, o2, d, e, a, b⟩
      · omega
    · omega
  · omega

section
variable {X Y : List Int} {V : List (List Int)} {cable y1 y2 : Int}
theorem HZ.on (h : HZ X Y V cable y1 y2) {n : Int} (h0 : 0 ≤ n) (h1 : n ≤ cable) : On X n := ⟨by have := h.x0; omega, by have := h.xc; omega⟩
theorem HZ.cb (h : HZ X Y V cable y1 y2) {a b : Int} (h0 : 0 ≤ a) (hab : a ≤ b) (h1 : b ≤ cable) : cbE X Y V a b y1 y2 = 0 :=
  cbE_good h.ct (vS_mk hab (by omega) (by have := h.c2; omega)) h.ys (h.on h0 (by omega)) (h.on (by omega) h1) h.o1 h.o2
/-- A hoist carries all along a span exactly if it does at each length of it. -/
theorem HZ.all_iff (h : HZ X Y V cable y1 y2) {n wt : Int} (h0 : 0 ≤ n) (h1 : n ≤ cable) (hw : wt ≤ 1000000) :
    wt ≤ loS X Y V 0 n y1 y2 ↔ ∀ l, 0 ≤ l → l ≤ n → wt ≤ loS X Y V l l y1 y2 := by
  have hy := (vS_get h.ys).1
  rw [loS_ok (h.cb (Int.le_refl 0) h0 h1)]
  constructor
  · intro hk l l0 l1
    rw [loS_ok (h.cb l0 (Int.le_refl l) (by omega))]
    have := (part_in (V := V) h.ct (h.on (Int.le_refl 0) (by omega)) (h.on h0 h1) h.o1 h.o2 l0 (Int.le_refl l) l1 (Int.le_refl y1) hy (Int.le_refl y2)).1
    omega
  · intro hk
    refine (bnd_least (cornersL X Y V (endsL X 0 n) (endsL Y y1 y2)) (1000000, -1000000) wt (max (bndL (cornersL X Y V (endsL X 0 n) (endsL Y y1 y2))).2 0) hw (by simp only; omega) fun c hc => ?_).1
    have htop := ((bnd_fold (cornersL X Y V (endsL X 0 n) (endsL Y y1 y2)) (1000000, -1000000)).2 c hc).2
    refine ⟨?_, Int.le_trans htop (Int.le_max_left _ _)⟩
    obtain ⟨a, b, ha, hb, rfl⟩ := corner_of hc
    have ra : 0 ≤ a ∧ a ≤ n := by
      unfold endsL at ha
      simp only [List.mem_cons, List.mem_append, List.mem_filter, Bool.and_eq_true, decide_eq_true_eq] at ha
      rcases ha with rfl | ⟨_, p, q⟩ | ha
      · exact ⟨Int.le_refl _, h0⟩
      · omega
      · split at ha
        · simp at ha; omega
        · simp at ha
    have h2 := hk a ra.1 ra.2
    rw [loS_ok (h.cb ra.1 (Int.le_refl a) (by omega))] at h2
    have ha' : a ∈ endsL X a a := by unfold endsL; simp
    have := ((bnd_fold (cornersL X Y V (endsL X a a) (endsL Y y1 y2)) (1000000, -1000000)).2 _ (corner_mem (V := V) ha' hb)).1
    exact Int.le_trans h2 this
end

/-- The first number of f from k on for which p is true, or the end. -/
def firB (p : Int → Bool) : Int → Nat → Int
  | k, 0 => k
  | k, f + 1 => if p k then k else firB p (k + 1) f
theorem firB_spec (p : Int → Bool) : ∀ (f : Nat) (k : Int), k ≤ firB p k f ∧ firB p k f ≤ k + f ∧ (∀ j, k ≤ j → j < firB p k f → p j = false) ∧ (firB p k f < k + f → p (firB p k f) = true)
  | 0, k => ⟨Int.le_refl _, by simp [firB], fun j h1 h2 => by simp [firB] at h2; omega, fun h => by simp [firB] at h⟩
  | f + 1, k => by
    unfold firB
    cases hp : p k with
    | true => exact ⟨by simp, by simp; omega, fun j h1 h2 => by simp at h2; omega, fun _ => by simpa using hp⟩
    | false =>
      obtain ⟨h1, h2, h3, h4⟩ := firB_spec p f (k + 1)
      simp only [Bool.false_eq_true, if_false]
      refine ⟨by omega, by omega, fun j hj1 hj2 => ?_, fun h => h4 (by omega)⟩
      by_cases e : j = k
      · rw [e, hp]
      · exact h3 j (by omega) hj2
/-- It is the only number like that. -/
theorem firB_uniq {p : Int → Bool} {k : Int} {f : Nat} {m : Int} (h1 : k ≤ m) (h2 : m ≤ k + f) (h3 : ∀ j, k ≤ j → j < m → p j = false) (h4 : m < k + f → p m = true) : firB p k f = m := by
  obtain ⟨a, b, c, d⟩ := firB_spec p f k
  rcases Int.lt_trichotomy (firB p k f) m with h | h | h
  · have := d (by omega)
    rw [h3 _ a h] at this
    cases this
  · exact h
  · have := h4 (by omega)
    rw [c _ h1 h] at this
    cases this

/-- Deepest: the length, and the error. -/
def deepR (X Y : List Int) (V : List (List Int)) (cable y1 y2 wt : Int) : Int := firB (fun n => !beaB X Y V n y1 y2 wt) 0 (cable + 1).toNat - 1
def deepN (X Y : List Int) (V : List (List Int)) (cable charge y1 y2 wt : Int) : Int × Int :=
  if cwE X Y V cable charge y1 y2 = 0 then (if 1 ≤ wt ∧ wt ≤ 100000 then (if deepR X Y V cable y1 y2 wt < 0 then (0, 3) else (deepR X Y V cable y1 y2 wt, 0)) else (0, 1)) else (0, cwE X Y V cable charge y1 y2)
/-- Carries. -/
def carN (X Y : List Int) (V : List (List Int)) (cable charge y1 y2 l wt : Int) : Bool × Int :=
  if cwE X Y V cable charge y1 y2 = 0 then (if (0 ≤ l ∧ l ≤ cable) ∧ (1 ≤ wt ∧ wt ≤ 100000) then (beaB X Y V l y1 y2 wt, 0) else (false, 1)) else (false, cwE X Y V cable charge y1 y2)

/-! ### Swings -/
/-- A tick: displacement, speed, denominator. -/
def swS (N D d : Int) (s : Int × Int × Int) (g : Int) : Int × Int × Int :=
  (d * s.1 + ((d - D) * s.2.1 - N * s.1 + g * (s.2.2 * d)), (d - D) * s.2.1 - N * s.1 + g * (s.2.2 * d), s.2.2 * d)
def swK (N D d a v : Int) (G : List Int) (k : Nat) : Int × Int × Int := (G.take k).foldl (swS N D d) (a, v, 1)
theorem swK_zero (N D d a v : Int) (G : List Int) : swK N D d a v G 0 = (a, v, 1) := rfl
theorem swK_succ {N D d a v : Int} {G : List Int} {k : Nat} {g : Int} (hg : G[k]? = some g) : swK N D d a v G (k + 1) = swS N D d (swK N D d a v G k) g := by
  unfold swK
  rw [List.take_add_one, hg]
  simp
def powI (d : Int) : Nat → Int
  | 0 => 1
  | n + 1 => powI d n * d
theorem swK_den {N D d a v : Int} {G : List Int} : ∀ {k : Nat}, k ≤ G.length → (swK N D d a v G k).2.2 = powI d k
  | 0, _ => rfl
  | k + 1, h => by
    rw [swK_succ (List.getElem?_eq_getElem (by omega))]
    show (swK N D d a v G k).2.2 * d = _
    rw [swK_den (k := k) (by omega)]
    rfl
theorem powI_bd {d : Int} (h1 : 1 ≤ d) (h2 : d ≤ 4) : ∀ k : Nat, 1 ≤ powI d k ∧ (k ≤ 16 → powI d k ≤ powI 4 k)
  | 0 => ⟨Int.le_refl _, fun _ => Int.le_refl _⟩
  | k + 1 => by
    obtain ⟨a, b⟩ := powI_bd h1 h2 k
    have c := (powI_bd (d := 4) (by omega) (by omega) k).1
    constructor
    · have := Int.mul_le_mul a h1 (by omega) (by omega)
      show 1 ≤ powI d k * d
      omega
    · intro hk
      show powI d k * d ≤ powI 4 k * 4
      exact Int.mul_le_mul (b (by omega)) h2 (by omega) (by omega)
theorem powI_4 {k : Nat} (h : k ≤ 16) : powI 4 k ≤ 4294967296 := by
  have : ∀ j : Fin 17, powI 4 j.val ≤ 4294967296 := by decide
  exact this ⟨k, by omega⟩
/-- Nothing overflows. -/
def SwB (N D d a v : Int) (G : List Int) : Prop :=
  ∀ k, k ≤ G.length → (-1125899906842624 ≤ (swK N D d a v G k).1 ∧ (swK N D d a v G k).1 ≤ 1125899906842624) ∧ (-1125899906842624 ≤ (swK N D d a v G k).2.1 ∧ (swK N D d a v G k).2.1 ≤ 1125899906842624)

/-! A swing is linear: what a displacement (1, 0) and a speed (0, 1) at the start become. -/
def abK (N D d : Int) (s : Int × Int) : Nat → Int × Int
  | 0 => s
  | k + 1 => match abK N D d s k with
    | (x, y) => ((d - N) * x - N * y, (d - D) * (x + y))
def gsK (N D d : Int) (s : Int × Int) : List Int → Int
  | [] => 0
  | g :: G => g * d * ((abK N D d s G.length).1 + (abK N D d s G.length).2) + d * gsK N D d s G
theorem abK_succ (N D d : Int) (s : Int × Int) (k : Nat) : abK N D d s (k + 1) = ((d - N) * (abK N D d s k).1 - N * (abK N D d s k).2, (d - D) * ((abK N D d s k).1 + (abK N D d s k).2)) := rfl
theorem sw_lin (N D d : Int) : ∀ (G : List Int) (t : Int × Int × Int),
    (G.foldl (swS N D d) t).1 = t.1 * (abK N D d (1, 0) G.length).1 + t.2.1 * (abK N D d (1, 0) G.length).2 + t.2.2 * gsK N D d (1, 0) G ∧
    (G.foldl (swS N D d) t).2.1 = t.1 * (abK N D d (0, 1) G.length).1 + t.2.1 * (abK N D d (0, 1) G.length).2 + t.2.2 * gsK N D d (0, 1) G
  | [], t => by simp [abK, gsK]
  | g :: G, t => by
    obtain ⟨h1, h2⟩ := sw_lin N D d G (swS N D d t g)
    rw [List.foldl_cons, List.length_cons, abK_succ, abK_succ]
    unfold gsK
    rw [h1, h2]
    unfold swS
    constructor <;> grind
def gaK (N D d : Int) (s : Int × Int) : Nat → Int
  | 0 => 0
  | k + 1 => match abK N D d s k with
    | (x, y) => d * max (x + y) (-(x + y)) + d * gaK N D d s k
theorem gaK_succ (N D d : Int) (s : Int × Int) (k : Nat) : gaK N D d s (k + 1) = d * max ((abK N D d s k).1 + (abK N D d s k).2) (-((abK N D d s k).1 + (abK N D d s k).2)) + d * gaK N D d s k := rfl
theorem amount_bd {g x M : Int} (h1 : -M ≤ g) (h2 : g ≤ M) (_hM : 0 ≤ M) : -(M * max x (-x)) ≤ g * x ∧ g * x ≤ M * max x (-x) := by
  rcases Int.le_total 0 x with h | h
  · have e : max x (-x) = x := by omega
    rw [e]
    have := Int.mul_le_mul_of_nonneg_right h1 h
    have := Int.mul_le_mul_of_nonneg_right h2 h
    have e2 : -M * x = -(M * x) := by grind
    omega
  · have e : max x (-x) = -x := by omega
    rw [e]
    have := Int.mul_le_mul_of_nonpos_right h1 h
    have := Int.mul_le_mul_of_nonpos_right h2 h
    have e2 : -M * x = -(M * x) := by grind
    have e3 : M * -x = -(M * x) := by grind
    omega
theorem gsK_bd {N D d : Int} (hd : 0 ≤ d) (s : Int × Int) : ∀ G : List Int, wB (-100) 100 G = true → -(100 * gaK N D d s G.length) ≤ gsK N D d s G ∧ gsK N D d s G ≤ 100 * gaK N D d s G.length
  | [], _ => by simp [gsK, gaK]
  | g :: G, h => by
    have h0 : (-100 ≤ g ∧ g ≤ 100) ∧ wB (-100) 100 G = true := by
      unfold wB at h ⊢
      simpa [List.all_cons] using h
    obtain ⟨h1, h2⟩ := gsK_bd hd s G h0.2
    rw [List.length_cons, gaK_succ]
    unfold gsK
    obtain ⟨x, hx⟩ : ∃ x, (abK N D d s G.length).1 + (abK N D d s G.length).2 = x := ⟨_, rfl⟩
    rw [hx]
    obtain ⟨a1, a2⟩ := amount_bd (x := x) h0.1.1 h0.1.2 (by omega)
    have b1 := Int.mul_le_mul_of_nonneg_left a1 hd
    have b2 := Int.mul_le_mul_of_nonneg_left a2 hd
    have c1 := Int.mul_le_mul_of_nonneg_left h1 hd
    have c2 := Int.mul_le_mul_of_nonneg_left h2 hd
    generalize gsK N D d s G = p at *
    generalize gaK N D d s G.length = q at *
    generalize max x (-x) = m at *
    have e1 : g * d * x = d * (g * x) := by grind
    have e2 : d * -(100 * m) = -(100 * (d * m)) := by grind
    have e3 : d * (100 * m) = 100 * (d * m) := by grind
    have e4 : d * -(100 * q) = -(100 * (d * q)) := by grind
    have e5 : d * (100 * q) = 100 * (d * q) := by grind
    rw [e1]
    rw [e2] at b1
    rw [e3] at b2
    rw [e4] at c1
    rw [e5] at c2
    omega
def bdK (N D d : Int) (s : Int × Int) (k : Nat) : Bool :=
  match abK N D d s k with
  | (x, y) => decide (1000 * (max x (-x) + max y (-y)) + 100 * gaK N D d s k ≤ 1125899906842624)
def bdA (s : Int × Int) : Bool := (List.range 4).all fun d => (List.range (2 * (d + 1) + 1)).all fun N => (List.range (d + 2)).all fun D => (List.range 17).all fun k => bdK N D (d + 1 : Nat) s k
theorem bdA_1 : bdA (1, 0) = true := by decide +kernel
theorem bdA_2 : bdA (0, 1) = true := by decide +kernel
theorem bdA_get {N D d : Int} {s : Int × Int} {k : Nat} (h : bdA s = true) (h1 : 1 ≤ d ∧ d ≤ 4) (h2 : 0 ≤ N ∧ N ≤ 2 * d) (h3 : 0 ≤ D ∧ D ≤ d) (hk : k ≤ 16) :
    1000 * (max (abK N D d s k).1 (-(abK N D d s k).1) + max (abK N D d s k).2 (-(abK N D d s k).2)) + 100 * gaK N D d s k ≤ 1125899906842624 := by
  obtain ⟨d', rfl⟩ : ∃ d' : Nat, d = ((d' + 1 : Nat) : Int) := ⟨(d - 1).toNat, by omega⟩
  obtain ⟨N', rfl⟩ : ∃ N' : Nat, N = (N' : Int) := ⟨N.toNat, by omega⟩
  obtain ⟨D', rfl⟩ : ∃ D' : Nat, D = (D' : Int) := ⟨D.toNat, by omega⟩
  unfold bdA at h
  have a := List.all_eq_true.1 h d' (List.mem_range.2 (by omega))
  have b := List.all_eq_true.1 a N' (List.mem_range.2 (by omega))
  have c := List.all_eq_true.1 b D' (List.mem_range.2 (by omega))
  have e := List.all_eq_true.1 c k (List.mem_range.2 (by omega))
  unfold bdK at e
  simpa using e

def slB (N D d : Int) : Bool := decide (1 ≤ d ∧ d ≤ 4) && (decide (0 ≤ N ∧ N ≤ 2 * d) && decide (0 ≤ D ∧ D ≤ d))
def slE (N D d : Int) : Int := if slB N D d then 0 else 70
theorem slB_get {N D d : Int} (h : slB N D d = true) : (1 ≤ d ∧ d ≤ 4) ∧ (0 ≤ N ∧ N ≤ 2 * d) ∧ (0 ≤ D ∧ D ≤ d) := by
  unfold slB at h
  simp only [Bool.and_eq_true, decide_eq_true_eq] at h
  exact ⟨h.1, h.2.1, h.2.2⟩
theorem lin_bd {N D d a v : Int} {s : Int × Int} (hs : bdA s = true) (hsl : slB N D d = true) (ha : -1000 ≤ a ∧ a ≤ 1000) (hv : -1000 ≤ v ∧ v ≤ 1000) (G : List Int) (hG : wB (-100) 100 G = true) (hl : G.length ≤ 16) :
    -1125899906842624 ≤ a * (abK N D d s G.length).1 + v * (abK N D d s G.length).2 + 1 * gsK N D d s G ∧ a * (abK N D d s G.length).1 + v * (abK N D d s G.length).2 + 1 * gsK N D d s G ≤ 1125899906842624 := by
  obtain ⟨h1, h2, h3⟩ := slB_get hsl
  have hb := bdA_get hs h1 h2 h3 hl
  obtain ⟨g1, g2⟩ := gsK_bd (N := N) (D := D) (d := d) (by omega) s G hG
  obtain ⟨a1, a2⟩ := amount_bd (x := (abK N D d s G.length).1) ha.1 ha.2 (by omega)
  obtain ⟨v1, v2⟩ := amount_bd (x := (abK N D d s G.length).2) hv.1 hv.2 (by omega)
  generalize a * (abK N D d s G.length).1 = p at *
  generalize v * (abK N D d s G.length).2 = q at *
  generalize gsK N D d s G = r at *
  omega
def staB (a v : Int) : Bool := wB (-1000) 1000 [a, v]
theorem staB_get {a v : Int} (h : staB a v = true) : (-1000 ≤ a ∧ a ≤ 1000) ∧ (-1000 ≤ v ∧ v ≤ 1000) := by
  unfold staB wB at h
  simp at h
  omega
theorem wB_take {lo hi : Int} {G : List Int} (h : wB lo hi G = true) (k : Nat) : wB lo hi (G.take k) = true := by
  unfold wB at h ⊢
  rw [List.all_eq_true] at h ⊢
  exact fun x hx => h x (List.mem_of_mem_take hx)
theorem swB_all {N D d a v : Int} {G : List Int} (hsl : slB N D d = true) (hst : staB a v = true) (hG : wB (-100) 100 G = true) (hl : G.length ≤ 16) : SwB N D d a v G := fun k hk => by
  obtain ⟨ha, hv⟩ := staB_get hst
  have h := sw_lin N D d (G.take k) (a, v, 1)
  have e1 := lin_bd (a := a) (v := v) bdA_1 hsl ha hv (G.take k) (wB_take hG k) (by simp; omega)
  have e2 := lin_bd (a := a) (v := v) bdA_2 hsl ha hv (G.take k) (wB_take hG k) (by simp; omega)
  unfold swK
  rw [h.1, h.2]
  exact ⟨e1, e2⟩
/-- The displacements behind the ticks, in lowest terms. -/
def swRow (N D d a v : Int) (G : List Int) : List (Int × Int) := (List.range G.length).map fun k => lowN (swK N D d a v G (k + 1)).1 (swK N D d a v G (k + 1)).2.2
def swE (N D d a v : Int) (G : List Int) : Int :=
  if slB N D d then (if 16 < G.length then 2 else if staB a v then (if wB (-100) 100 G then 0 else 1) else 1) else 70
def swN (N D d a v : Int) (G : List Int) : List (Int × Int) := if swE N D d a v G = 0 then swRow N D d a v G else []
end Go.Proofs.Ythhokiigdgpmcaa

/- Add and Times of both sides. -/
namespace Go.Proofs.Ythhokiigdgpmcaa
open Go.RowKit
set_option maxRecDepth 100000

theorem run_min_four {P : Program} (w : World) (ts : Array TypeId) (t : TypeId) (k : IntKind) (x y z u : Int) :
    (Builtin.min_ ts t #[.int k x, .int k y, .int k z, .int k u]).run P w = .ok (.int k (min (min (min x y) z) u)) w := by
  have e : ∀ p q : Int, (if q < p then q else p) = min p q := fun p q => by
    rw [Int.min_def]
    split <;> split <;> omega
  simp [Builtin.min_, Builtin.min2, e]
theorem run_max_four {P : Program} (w : World) (ts : Array TypeId) (t : TypeId) (k : IntKind) (x y z u : Int) :
    (Builtin.max_ ts t #[.int k x, .int k y, .int k z, .int k u]).run P w = .ok (.int k (max (max (max x y) z) u)) w := by
  have e : ∀ p q : Int, (if q > p then q else p) = max p q := fun p q => by
    rw [Int.max_def]
    split <;> split <;> omega
  simp [Builtin.max_, Builtin.max2, e]
attribute [local go_sem] run_min_four run_max_four

theorem vI_get {a b : Int} (h : vI a b = true) : -1000000 ≤ a ∧ a ≤ 1000000 ∧ -1000000 ≤ b ∧ b ≤ 1000000 ∧ a ≤ b := by
  simp [vI] at h
  omega
theorem vI_both {a b c d : Int} (h : (vI a b && vI c d) = true) : (-1000000 ≤ a ∧ a ≤ 1000000) ∧ (-1000000 ≤ b ∧ b ≤ 1000000) ∧ (-1000000 ≤ c ∧ c ≤ 1000000) ∧ (-1000000 ≤ d ∧ d ≤ 1000000) ∧ a ≤ b ∧ c ≤ d := by
  rw [Bool.and_eq_true] at h
  obtain ⟨h1, h2⟩ := h
  have := vI_get h1
  have := vI_get h2
  omega
def addS (a b c d : Int) : (Int × Int) × Int := if vI a b && vI c d then madeS (a + c) (b + d) else ((0, 0), 10)
def timesS (a b c d : Int) : (Int × Int) × Int := if vI a b && vI c d then madeS (min (a * c) (min (a * d) (min (b * c) (b * d)))) (max (a * c) (max (a * d) (max (b * c) (b * d)))) else ((0, 0), 10)

set_option maxHeartbeats 1000000 in
theorem add_any (a b c d : Int) (w : World) : Calls Try.prog 48 #[.agg #[.int .i64 a, .int .i64 b], .agg #[.int .i64 c, .int .i64 d]] w fun e w' =>
    e = .returned (.tuple #[.agg #[.int .i64 (addS a b c d).1.1, .int .i64 (addS a b c d).1.2], .int .i64 (addS a b c d).2]) ∧ Below w.heap.size w w' := by
  cases h1 : (vI a b && vI c d) with
  | false =>
    have e0 : addS a b c d = ((0, 0), 10) := by unfold addS; rw [h1]; rfl
    rw [e0]
    clear e0
    have hE : [(a, b), (c, d)].all vS = false := by simp only [List.all_cons, List.all_nil, Bool.and_true, vS_vI]; exact h1
    have HE := Lib.hid hE
    clear hE h1
    go_enter Try.func48, Try.ntmps48
    go_wp2_with (go_at_call 82; refine Calls.mono (valid_any _ _ _ _ [(a, b), (c, d)] _ rfl (le_maxLen (by simp)) ?c3 (RS.new2 (by simp))) ?_; (case c3 => simp); rintro e w1 ⟨rfl, hb1⟩; rw [HE.out]; have t0 : w1.cell? ⟨w.heap.size, 0, none⟩ = some (.int .i64 a) := cell_keep hb1 (by go_simp); have t1 : w1.cell? ⟨w.heap.size, 1, none⟩ = some (.int .i64 b) := cell_keep hb1 (by go_simp); have t2 : w1.cell? ⟨w.heap.size + 1, 0, none⟩ = some (.int .i64 c) := cell_keep hb1 (by go_simp); have t3 : w1.cell? ⟨w.heap.size + 1, 1, none⟩ = some (.int .i64 d) := cell_keep hb1 (by go_simp); have t4 : w1.cell? ⟨w.heap.size + 1 + 1, 0, none⟩ = some (.int .i64 0) := cell_keep hb1 (by go_simp); have t5 : w1.cell? ⟨w.heap.size + 1 + 1, 1, none⟩ = some (.int .i64 0) := cell_keep hb1 (by go_simp); have t6 : w1.frozen? ⟨w.heap.size + 1 + 1, 0, none⟩ = false := (hb1.frozen (p := ⟨w.heap.size + 1 + 1, 0, none⟩) (by simp <;> omega)).trans (by go_simp); have t7 : w1.frozen? ⟨w.heap.size + 1 + 1, 1, none⟩ = false := (hb1.frozen (p := ⟨w.heap.size + 1 + 1, 1, none⟩) (by simp <;> omega)).trans (by go_simp); have l0 : w.heap.size < w1.heap.size := World.block_lt_of_cell? _ _ t0; have l1 : w.heap.size + 1 < w1.heap.size := World.block_lt_of_cell? _ _ t2; have l2 : w.heap.size + 1 + 1 < w1.heap.size := World.block_lt_of_cell? _ _ t4; have hbw : Below w.heap.size w w1 := Below.trans (by go_grown) (hb1.mono (by simp <;> omega)); have HBW := Lib.hid hbw; clear hb1 hbw)
    have z1 : ∀ v, (w1.setCell ⟨w.heap.size + 1 + 1, 0, none⟩ v).cell? ⟨w.heap.size + 1 + 1, 0, none⟩ = some v := fun v => World.cell?_setCell_same' _ _ _ (by first | (rw [t4]; rfl) | (rw [World.cell?_alloc_past _ _ _ (by assumption), t4]; rfl))
    have z2 : ∀ v u, ((w1.setCell ⟨w.heap.size + 1 + 1, 0, none⟩ v).setCell ⟨w.heap.size + 1 + 1, 1, none⟩ u).cell? ⟨w.heap.size + 1 + 1, 1, none⟩ = some u := fun v u => World.cell?_setCell_same' _ _ _ (by rw [World.cell?_setCell_other _ _ _ _ (by simp)]; first | (rw [t5]; rfl) | (rw [World.cell?_alloc_past _ _ _ (by assumption), t5]; rfl))
    refine bodyPost_ret (v := .tuple #[.agg #[.int .i64 0, .int .i64 0], .int .i64 10]) (by simp [results, Try.results48, go_sem, z1, z2]) rfl ?_
    exact ⟨rfl, (HBW.out.setCell (by simp; omega) _).setCell (by simp; omega) _⟩
  | true =>
    have hE : [(a, b), (c, d)].all vS = true := by simp only [List.all_cons, List.all_nil, Bool.and_true, vS_vI]; exact h1
    have e0 : addS a b c d = madeS (a + c) (b + d) := by unfold addS; rw [h1]; rfl
    rw [e0]
    have HE := Lib.hid hE
    clear e0 hE
    obtain ⟨i1, i2, i3, i4, i5, i6⟩ := vI_both h1
    have j1 : IntKind.i64.wrap (a + c) = a + c := IntWalk.i64_in _ (by omega)
    have j2 : IntKind.i64.wrap (b + d) = b + d := IntWalk.i64_in _ (by omega)
    have hM := fun W => bounded_any (a + c) (b + d) W
    generalize madeS (a + c) (b + d) = m at *
    obtain ⟨⟨m0, m1⟩, me⟩ := m
    have HM := Lib.hid hM
    clear hM h1
    go_enter Try.func48, Try.ntmps48
    go_wp2_with (first
      | (go_at_call 82; refine Calls.mono (valid_any _ _ _ _ [(a, b), (c, d)] _ rfl (le_maxLen (by simp)) ?c3 (RS.new2 (by simp))) ?_; (case c3 => simp); rintro e w1 ⟨rfl, hb1⟩; rw [HE.out]; have t0 : w1.cell? ⟨w.heap.size, 0, none⟩ = some (.int .i64 a) := cell_keep hb1 (by go_simp); have t1 : w1.cell? ⟨w.heap.size, 1, none⟩ = some (.int .i64 b) := cell_keep hb1 (by go_simp); have t2 : w1.cell? ⟨w.heap.size + 1, 0, none⟩ = some (.int .i64 c) := cell_keep hb1 (by go_simp); have t3 : w1.cell? ⟨w.heap.size + 1, 1, none⟩ = some (.int .i64 d) := cell_keep hb1 (by go_simp); have t4 : w1.cell? ⟨w.heap.size + 1 + 1, 0, none⟩ = some (.int .i64 0) := cell_keep hb1 (by go_simp); have t5 : w1.cell? ⟨w.heap.size + 1 + 1, 1, none⟩ = some (.int .i64 0) := cell_keep hb1 (by go_simp); have t6 : w1.frozen? ⟨w.heap.size + 1 + 1, 0, none⟩ = false := (hb1.frozen (p := ⟨w.heap.size + 1 + 1, 0, none⟩) (by simp <;> omega)).trans (by go_simp); have t7 : w1.frozen? ⟨w.heap.size + 1 + 1, 1, none⟩ = false := (hb1.frozen (p := ⟨w.heap.size + 1 + 1, 1, none⟩) (by simp <;> omega)).trans (by go_simp); have l0 : w.heap.size < w1.heap.size := World.block_lt_of_cell? _ _ t0; have l1 : w.heap.size + 1 < w1.heap.size := World.block_lt_of_cell? _ _ t2; have l2 : w.heap.size + 1 + 1 < w1.heap.size := World.block_lt_of_cell? _ _ t4; have hbw : Below w.heap.size w w1 := Below.trans (by go_grown) (hb1.mono (by simp <;> omega)); have HBW := Lib.hid hbw; clear hb1 hbw)
      | (go_at_call 72; refine Calls.mono (span_any _ _ _) ?_; rintro e w2 ⟨rfl, hb2⟩; replace t4 := cell_keep hb2 t4; replace t5 := cell_keep hb2 t5; replace t6 := (hb2.frozen (p := ⟨w.heap.size + 1 + 1, 0, none⟩) l2).trans t6; replace t7 := (hb2.frozen (p := ⟨w.heap.size + 1 + 1, 1, none⟩) l2).trans t7; replace l2 : w.heap.size + 1 + 1 < w2.heap.size := World.block_lt_of_cell? _ _ t4; have HB2 := Lib.hid hb2; clear hb2)
      | (go_at_call 83; refine Calls.mono (HM.out _) ?_; rintro e w3 ⟨rfl, hb3⟩; replace t4 := cell_keep hb3 t4; replace t5 := cell_keep hb3 t5; replace t6 := (hb3.frozen (p := ⟨w.heap.size + 1 + 1, 0, none⟩) l2).trans t6; replace t7 := (hb3.frozen (p := ⟨w.heap.size + 1 + 1, 1, none⟩) l2).trans t7; replace l2 : w.heap.size + 1 + 1 < w3.heap.size := World.block_lt_of_cell? _ _ t4; have HB3 := Lib.hid hb3; clear hb3))
    have z1 : ∀ v, (w3.setCell ⟨w.heap.size + 1 + 1, 0, none⟩ v).cell? ⟨w.heap.size + 1 + 1, 0, none⟩ = some v := fun v => World.cell?_setCell_same' _ _ _ (by first | (rw [t4]; rfl) | (rw [World.cell?_alloc_past _ _ _ (by assumption), t4]; rfl))
    have z2 : ∀ v u, ((w3.setCell ⟨w.heap.size + 1 + 1, 0, none⟩ v).setCell ⟨w.heap.size + 1 + 1, 1, none⟩ u).cell? ⟨w.heap.size + 1 + 1, 1, none⟩ = some u := fun v u => World.cell?_setCell_same' _ _ _ (by rw [World.cell?_setCell_other _ _ _ _ (by simp)]; first | (rw [t5]; rfl) | (rw [World.cell?_alloc_past _ _ _ (by assumption), t5]; rfl))
    refine bodyPost_ret (v := .tuple #[.agg #[.int .i64 m0, .int .i64 m1], .int .i64 me]) (by simp [results, Try.results48, go_sem, z1, z2]) rfl ?_
    have g1 := HBW.out.size
    have g2 := HB2.out.size
    exact ⟨rfl, (((HBW.out.trans (HB2.out.mono g1)).trans (HB3.out.mono (Nat.le_trans g1 g2))).setCell (by simp; omega) _).setCell (by simp; omega) _⟩

end Go.Proofs.Ythhokiigdgpmcaa

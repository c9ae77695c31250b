/- Plain mathematics: the values of a table. -/
import Derived.Test.YtjdahphnmeaolaaPure
namespace Go.Proofs.Ytjdahphnmeaolaa

def gz (l : List Int) (i : Nat) : Int := l[i]?.getD 0
def gr (V : List (List Int)) (i : Nat) : List Int := V[i]?.getD []

theorem gz_of {l : List Int} {i : Nat} {x : Int} (h : l[i]? = some x) : gz l i = x := by unfold gz; rw [h]; rfl
theorem gr_of {V : List (List Int)} {i : Nat} {r : List Int} (h : V[i]? = some r) : gr V i = r := by unfold gr; rw [h]; rfl

/-- spans.part. -/
def partN : List Int → Int → Nat
  | a :: b :: c :: l, n => if b ≤ n then 1 + partN (b :: c :: l) n else (fun _ => 0) a
  | _, _ => 0

theorem partN_lt : ∀ (l : List Int) (n : Int), 2 ≤ l.length → partN l n + 2 ≤ l.length
  | [], n, h => by simp at h
  | [_], n, h => by simp at h
  | [_, _], n, _ => by simp [partN]
  | a :: b :: c :: l, n, _ => by
    unfold partN
    split
    · have := partN_lt (b :: c :: l) n (by simp)
      simp at this ⊢
      omega
    · simp

theorem partN_in : ∀ (l : List Int) (n : Int), 2 ≤ l.length → gz l 0 ≤ n → n ≤ gz l (l.length - 1) → gz l (partN l n) ≤ n ∧ n ≤ gz l (partN l n + 1)
  | [], n, h, _, _ => by simp at h
  | [_], n, h, _, _ => by simp at h
  | [a, b], n, _, h0, h1 => by simpa [partN, gz] using ⟨h0, h1⟩
  | a :: b :: c :: l, n, _, h0, h1 => by
    unfold partN
    split
    · have := partN_in (b :: c :: l) n (by simp) (by simpa [gz]) (by simpa [gz] using h1)
      have e1 : gz (a :: b :: c :: l) (1 + partN (b :: c :: l) n) = gz (b :: c :: l) (partN (b :: c :: l) n) := by rw [Nat.add_comm]; simp [gz]
      have e2 : gz (a :: b :: c :: l) (1 + partN (b :: c :: l) n + 1) = gz (b :: c :: l) (partN (b :: c :: l) n + 1) := by rw [Nat.add_comm 1]; simp [gz]
      rw [e1, e2]
      exact this
    · simp [gz] at h0 ⊢
      omega

theorem partN_go {l : List Int} {n : Int} {i : Nat} {b : Int} (hl : i + 2 < l.length) (hb : l[i + 1]? = some b) (h : b ≤ n) : partN (l.drop i) n = 1 + partN (l.drop (i + 1)) n := by
  have e : l.drop i = l[i] :: b :: l[i + 2] :: l.drop (i + 3) := by
    rw [List.drop_eq_getElem_cons (by omega), List.drop_eq_getElem_cons (i := i + 1) (by omega), List.drop_eq_getElem_cons (i := i + 1 + 1) (by omega)]
    rw [List.getElem?_eq_some_iff] at hb
    obtain ⟨_, hb⟩ := hb
    rw [hb]
  have e' : l.drop (i + 1) = b :: l[i + 2] :: l.drop (i + 3) := by
    rw [List.drop_eq_getElem_cons (i := i + 1) (by omega), List.drop_eq_getElem_cons (i := i + 1 + 1) (by omega)]
    rw [List.getElem?_eq_some_iff] at hb
    obtain ⟨_, hb⟩ := hb
    rw [hb]
  rw [e, e']
  conv => lhs; unfold partN
  rw [if_pos h]
theorem partN_stop {l : List Int} {n : Int} {i : Nat} {b : Int} (hl : i + 2 < l.length) (hb : l[i + 1]? = some b) (h : n < b) : partN (l.drop i) n = 0 := by
  have e : l.drop i = l[i] :: b :: l[i + 2] :: l.drop (i + 3) := by
    rw [List.drop_eq_getElem_cons (by omega), List.drop_eq_getElem_cons (i := i + 1) (by omega), List.drop_eq_getElem_cons (i := i + 1 + 1) (by omega)]
    rw [List.getElem?_eq_some_iff] at hb
    obtain ⟨_, hb⟩ := hb
    rw [hb]
  rw [e]
  unfold partN
  rw [if_neg (by omega)]
theorem partN_end {l : List Int} {n : Int} {i : Nat} (hl : l.length = i + 2) : partN (l.drop i) n = 0 := by
  have e : l.drop i = [l[i], l[i + 1]] := by
    rw [List.drop_eq_getElem_cons (by omega), List.drop_eq_getElem_cons (i := i + 1) (by omega), List.drop_of_length_le (by omega)]
  rw [e]
  rfl

/-- What an axis gives for a number on it. -/
structure Seg (X : List Int) (n : Int) (k : Nat) : Prop where
  lt : k + 1 < X.length
  lo : gz X k ≤ n
  hi : n ≤ gz X (k + 1)
  d1 : 1 ≤ gz X (k + 1) - gz X k
  d2 : gz X (k + 1) - gz X k ≤ 10000
theorem axB_get {X : List Int} (h : axB X = true) : 2 ≤ X.length ∧ X.length ≤ 12 ∧ wB (-1000000) 1000000 X = true ∧ stN X (X.length - 1) = true := by
  unfold axB at h
  simp at h
  exact ⟨h.1.1.1, h.1.1.2, h.1.2, h.2⟩
theorem seg_of {X : List Int} {n : Int} (h : axB X = true) (h0 : gz X 0 ≤ n) (h1 : n ≤ gz X (X.length - 1)) : Seg X n (partN X n) := by
  obtain ⟨a, b, c, d⟩ := axB_get h
  have p := partN_lt X n a
  have q := partN_in X n a h0 h1
  have r := stN_get d (m := partN X n) (by omega)
  exact ⟨by omega, q.1, q.2, r.1, r.2⟩
theorem gz_bd {X : List Int} {k : Nat} (h : wB (-1000000) 1000000 X = true) (hk : k < X.length) : -1000000 ≤ gz X k ∧ gz X k ≤ 1000000 := by
  unfold gz
  rw [List.getElem?_eq_getElem hk]
  exact wB_mem h (List.getElem?_eq_getElem hk)

theorem mix_bd {a b u v M : Int} (ha : 0 ≤ a) (hb : 0 ≤ b) (hu1 : -M ≤ u) (hu2 : u ≤ M) (hv1 : -M ≤ v) (hv2 : v ≤ M) : -(M * (a + b)) ≤ a * u + b * v ∧ a * u + b * v ≤ M * (a + b) := by
  have h1 := Int.mul_le_mul_of_nonneg_left hu2 ha
  have h2 := Int.mul_le_mul_of_nonneg_left hv2 hb
  have h3 := Int.mul_le_mul_of_nonneg_left hu1 ha
  have h4 := Int.mul_le_mul_of_nonneg_left hv1 hb
  have e1 : M * (a + b) = a * M + b * M := by grind
  have e2 : a * -M = -(a * M) := by grind
  have e3 : b * -M = -(b * M) := by grind
  omega

theorem mul_bd {a u A M : Int} (ha : 0 ≤ a) (hA : a ≤ A) (hu1 : -M ≤ u) (hu2 : u ≤ M) (hM : 0 ≤ M) : -(A * M) ≤ a * u ∧ a * u ≤ A * M := by
  have h1 := Int.mul_le_mul_of_nonneg_left hu2 ha
  have h3 := Int.mul_le_mul_of_nonneg_left hu1 ha
  have h5 := Int.mul_le_mul_of_nonneg_right hA hM
  have e2 : a * -M = -(a * M) := by grind
  omega

/-- spans.onKnot, spans.at. -/
def kNum (Y : List Int) (V : List (List Int)) (i : Nat) (y : Int) : Int :=
  (gz Y (partN Y y + 1) - y) * gz (gr V i) (partN Y y) + (y - gz Y (partN Y y)) * gz (gr V i) (partN Y y + 1)
def kDen (Y : List Int) (y : Int) : Int := gz Y (partN Y y + 1) - gz Y (partN Y y)
def atN (X Y : List Int) (V : List (List Int)) (x y : Int) : Int :=
  (gz X (partN X x + 1) - x) * kNum Y V (partN X x) y + (x - gz X (partN X x)) * kNum Y V (partN X x + 1) y
def atD (X Y : List Int) (x y : Int) : Int := (gz X (partN X x + 1) - gz X (partN X x)) * kDen Y y

theorem ctB_get {X Y : List Int} {V : List (List Int)} (h : ctB X Y V = true) : axB X = true ∧ axB Y = true ∧ V.length = X.length ∧ rowsB Y.length V = true := by
  unfold ctB at h
  simp at h
  exact ⟨h.1.1.1, h.1.1.2, h.1.2, h.2⟩
theorem row_get {X Y : List Int} {V : List (List Int)} {i : Nat} (h : ctB X Y V = true) (hi : i < X.length) : (gr V i).length = Y.length ∧ wB (-1000000) 1000000 (gr V i) = true := by
  obtain ⟨_, _, c, d⟩ := ctB_get h
  have e : V[i]? = some (gr V i) := by unfold gr; rw [List.getElem?_eq_getElem (by omega)]; rfl
  exact rowsB_get d e

/-- The number y is on the axis. -/
def On (Y : List Int) (y : Int) : Prop := gz Y 0 ≤ y ∧ y ≤ gz Y (Y.length - 1)

theorem kDen_bd {Y : List Int} {y : Int} (h : axB Y = true) (ho : On Y y) : 1 ≤ kDen Y y ∧ kDen Y y ≤ 10000 := by
  have s := seg_of h ho.1 ho.2
  unfold kDen
  exact ⟨s.d1, s.d2⟩
theorem kNum_bd {X Y : List Int} {V : List (List Int)} {i : Nat} {y : Int} (h : ctB X Y V = true) (hi : i < X.length) (ho : On Y y) : -(1000000 * kDen Y y) ≤ kNum Y V i y ∧ kNum Y V i y ≤ 1000000 * kDen Y y := by
  obtain ⟨_, b, _, _⟩ := ctB_get h
  obtain ⟨r1, r2⟩ := row_get h hi
  have s := seg_of b ho.1 ho.2
  have l := s.lt
  obtain ⟨u1, u2⟩ := gz_bd (k := partN Y y) r2 (by omega)
  obtain ⟨v1, v2⟩ := gz_bd (k := partN Y y + 1) r2 (by omega)
  have := mix_bd (a := gz Y (partN Y y + 1) - y) (b := y - gz Y (partN Y y)) (M := 1000000) (by have := s.hi; omega) (by have := s.lo; omega) u1 u2 v1 v2
  have e : gz Y (partN Y y + 1) - y + (y - gz Y (partN Y y)) = kDen Y y := by unfold kDen; omega
  rw [e] at this
  exact this
theorem atD_bd {X Y : List Int} {x y : Int} (h : axB X = true) (h' : axB Y = true) (hx : On X x) (hy : On Y y) : 1 ≤ atD X Y x y ∧ atD X Y x y ≤ 100000000 := by
  have s := seg_of h hx.1 hx.2
  have k := kDen_bd h' hy
  have d1 := s.d1
  have d2 := s.d2
  unfold atD
  constructor
  · have := Int.mul_le_mul d1 k.1 (by omega) (by omega)
    omega
  · have := Int.mul_le_mul d2 k.2 (by omega) (by omega)
    omega
theorem atN_bd {X Y : List Int} {V : List (List Int)} {x y : Int} (h : ctB X Y V = true) (hx : On X x) (hy : On Y y) : -(1000000 * atD X Y x y) ≤ atN X Y V x y ∧ atN X Y V x y ≤ 1000000 * atD X Y x y := by
  obtain ⟨a, b, _, _⟩ := ctB_get h
  have s := seg_of a hx.1 hx.2
  have l := s.lt
  obtain ⟨u1, u2⟩ := kNum_bd (i := partN X x) h (by omega) hy
  obtain ⟨v1, v2⟩ := kNum_bd (i := partN X x + 1) h (by omega) hy
  have := mix_bd (a := gz X (partN X x + 1) - x) (b := x - gz X (partN X x)) (M := 1000000 * kDen Y y) (by have := s.hi; omega) (by have := s.lo; omega) u1 u2 v1 v2
  have e : 1000000 * kDen Y y * (gz X (partN X x + 1) - x + (x - gz X (partN X x))) = 1000000 * atD X Y x y := by unfold atD; grind
  rw [e] at this
  exact this

/-- spans.ends. -/
def endsL (X : List Int) (lo hi : Int) : List Int := lo :: (X.filter (fun n => decide (lo < n) && decide (n < hi)) ++ if lo < hi then [hi] else [])

end Go.Proofs.Ytjdahphnmeaolaa

/- swashplatelaw07.SlingTouched returns true at every input, and the input reads as it did: no condition. -/
import Derived.Test.YtnnmmojlgikdgaaM14
import Derived.Test.YtnnmmojlgikdgaaM10
import Derived.Test.YtnnmmojlgikdgaaM6

/- A slice of steps, opened, with its capacity. -/
namespace Go.Proofs.Ytnnmmojlgikdgaa
open Go.RowKit Go.WideShapes Go.ChangeShapes Go.ChangeAt Go.Joins Go.Deep

section
variable {H : Type} {enc : TypeId × Value → H}
set_option maxRecDepth 100000 in
theorem haulc_open {w : World} {base : Nat} {r : Reach} {b0 : Nat} {v : Value} {d : DataW H} {p : List MemPlace}
    (hv : Value.okWide Try.prog w r b0 58 v) (h : DataW.Trod enc Try.prog w base (fun _ => true) true 58 v d p) :
    ∃ A n c l, v = .slice A n c ∧ l.length = n ∧ n ≤ maxLen ∧ RS w w.heap.size A l ∧ n ≤ c := by
  obtain ⟨A, n, c, l, rfl, h1, h2, h3⟩ := hauls_open hv h
  refine ⟨A, n, c, l, rfl, h1, h2, h3, ?_⟩
  obtain ⟨fuel, hf⟩ := h
  rcases open_slice_pairs Try.underlying58 Try.underlying82 (by kernel_rfl) rfl rfl (by kernel_rfl) (by kernel_rfl) hf with ⟨e, _⟩ | ⟨a, len, cap, m, n', V0, V1, D0, D1, P0, P1, e, _, hl, _⟩
  · simp [Value.cells] at e
    obtain ⟨_, rfl, rfl⟩ := e
    exact Nat.le_refl _
  · simp [Value.cells] at e
    obtain ⟨_, rfl, rfl⟩ := e
    exact hl
end
end Go.Proofs.Ytnnmmojlgikdgaa

/- Plain mathematics: prefixes of a hoist's steps. -/
namespace Go.Proofs.Ytnnmmojlgikdgaa

theorem hauR_take {p : HG → Int → Int → Bool} : ∀ (L : List (Int × Int)) (s : HG) (i : Int) (n : Nat), 0 ≤ i → (hauR p L s i).2 < 0 → (hauR p (L.take n) s i).2 < 0
  | [], s, i, n, _, _ => by simp [hauR]
  | (k, a) :: t, s, i, 0, _, _ => by simp [hauR]
  | (k, a) :: t, s, i, n + 1, hi, h => by
    rw [List.take_succ_cons]
    unfold hauR at h ⊢
    split
    · rename_i hp
      rw [if_pos hp] at h
      exact hauR_take t _ _ n (by omega) h
    · rename_i hp
      rw [if_neg hp] at h
      simp only at h
      omega
/-- Behind steps that are all possible. -/
theorem hauR_end {p : HG → Int → Int → Bool} : ∀ (L : List (Int × Int)) (s : HG) (i : Int), 0 ≤ i → (hauR p L s i).2 < 0 → (hauR p L s i).2 = -1
  | [], _, _, _, _ => rfl
  | (k, a) :: t, s, i, hi, h => by
    unfold hauR at h ⊢
    split
    · rename_i hp
      rw [if_pos hp] at h
      exact hauR_end t _ _ (by omega) h
    · rename_i hp
      rw [if_neg hp] at h
      simp only at h
      omega
/-- A property that every possible step keeps. -/
theorem hauR_ind {p : HG → Int → Int → Bool} {I : Nat → HG → Prop} (step : ∀ m s k n, I m s → p s k n = true → I (m + 1) (plS s k n)) : ∀ (L : List (Int × Int)) (s : HG) (i : Int) (m : Nat), 0 ≤ i → I m s → (hauR p L s i).2 < 0 → I (m + L.length) (hauR p L s i).1
  | [], s, i, m, _, h, _ => by simpa [hauR] using h
  | (k, a) :: t, s, i, m, hi, h, hr => by
    unfold hauR at hr ⊢
    split
    · rename_i hp
      rw [if_pos hp] at hr
      have := hauR_ind step t _ (i + 1) (m + 1) (by omega) (step m s k a h hp) hr
      rw [List.length_cons, show m + (t.length + 1) = m + 1 + t.length by omega]
      exact this
    · rename_i hp
      rw [if_neg hp] at hr
      simp only at hr
      omega
theorem hauR_good {car : Int → Int → Bool} {cable charge : Int} (hc : 0 ≤ cable) (L : List (Int × Int)) (s : HG) (m : Nat) (h : GD cable m s) (hr : (hauR (doB car cable charge) L s 0).2 < 0) : GD cable (m + L.length) (hauR (doB car cable charge) L s 0).1 :=
  hauR_ind (I := fun m s => GD cable m s) (fun _ _ _ _ h hp => h.play hc (doB_pos hp)) L s 0 m (Int.le_refl 0) h hr
/-- What hangs is carried. -/
def CAR (car : Int → Int → Bool) (s : HG) : Prop := s.wt ≠ 0 → car s.len s.wt = true
theorem CAR.play {car : Int → Int → Bool} {cable charge : Int} {s : HG} {k n : Int} (h : CAR car s) (hp : posB car cable charge s k n = true) : CAR car (plS s k n) := by
  unfold posB at hp
  unfold plS
  by_cases k1 : k = 1
  · simp only [k1, if_true, Bool.and_eq_true] at hp ⊢
    exact fun _ => hp.2
  by_cases k2 : k = 2
  · subst k2
    simp at hp ⊢
    exact fun _ => hp.2
  by_cases k3 : k = 3
  · subst k3
    simp
    exact h
  by_cases k4 : k = 4
  · subst k4
    simp at hp ⊢
    exact fun _ => hp.2
  by_cases k5 : k = 5
  · subst k5
    simp [CAR]
  by_cases k6 : k = 6
  · subst k6
    simp [CAR]
  · simp [k1, k2, k3, k4, k5, k6]
    exact h
/-- The discharges are counted. -/
def cyN : List (Int × Int) → Int
  | [] => 0
  | (k, _) :: t => (if k = 5 then 1 else 0) + cyN t
theorem plS_cyc (s : HG) (k n : Int) : (plS s k n).cyc = s.cyc + if k = 5 then 1 else 0 := by
  unfold plS
  by_cases k5 : k = 5
  · subst k5; simp
  · simp only [k5, if_false, Int.add_zero]
    split
    · rfl
    split
    · rfl
    split
    · rfl
    split
    · rfl
    split <;> rfl
theorem hauR_cyc {p : HG → Int → Int → Bool} : ∀ (L : List (Int × Int)) (s : HG) (i : Int), 0 ≤ i → (hauR p L s i).2 < 0 → (hauR p L s i).1.cyc = s.cyc + cyN L
  | [], s, _, _, _ => by simp [hauR, cyN]
  | (k, a) :: t, s, i, hi, h => by
    unfold hauR at h ⊢
    split
    · rename_i hp
      rw [if_pos hp] at h
      rw [hauR_cyc t _ (i + 1) (by omega) h, plS_cyc]
      show _ = s.cyc + ((if k = 5 then 1 else 0) + cyN t)
      omega
    · rename_i hp
      rw [if_neg hp] at h
      simp only at h
      omega
/-- The last touch t before the step i, or a number below 0. -/
def TL (i t : Int) (s : HG) : Prop := (t < 0 ∧ s.touched = false) ∨ (0 ≤ t ∧ t < i ∧ s.touched = true ∧ s.since = i - 1 - t)
theorem TL.play {car : Int → Int → Bool} {cable charge : Int} {s : HG} {k n i t : Int} (h : TL i t s) (h0 : 0 ≤ i) (hp : posB car cable charge s k n = true) : TL (i + 1) (if k = 3 then i else t) (plS s k n) := by
  unfold TL at h ⊢
  by_cases k3 : k = 3
  · subst k3
    simp [plS]
    omega
  · rw [if_neg k3]
    have e : (plS s k n).touched = s.touched ∧ (plS s k n).since = s.since + 1 := by
      unfold posB at hp
      unfold plS
      by_cases k1 : k = 1
      · simp [k1]
      by_cases k2 : k = 2
      · simp [k2]
      by_cases k4 : k = 4
      · simp [k4]
      by_cases k5 : k = 5
      · simp [k5]
      by_cases k6 : k = 6
      · simp [k6]
      · simp [k1, k2, k3, k4, k5, k6] at hp
    rw [e.1, e.2]
    rcases h with h | ⟨a, b, c, d⟩
    · exact Or.inl h
    · exact Or.inr ⟨a, by omega, c, by omega⟩
/-- A load is hooked on only with a touch not long ago. -/
theorem hook_touch {car : Int → Int → Bool} {cable charge : Int} {s : HG} {n i t : Int} (h : TL i t s) (hp : posB car cable charge s 4 n = true) : 0 ≤ t ∧ i - t ≤ charge := by
  unfold posB at hp
  simp at hp
  rcases h with ⟨_, h⟩ | ⟨a, b, c, d⟩
  · rw [hp.1.2.1] at h
    cases h
  · have := hp.1.2.2
    omega
/-- Behind a cut nothing is possible. -/
theorem cut_last {car : Int → Int → Bool} {cable charge : Int} {s : HG} {k n a : Int} : doB car cable charge (plS s 6 a) k n = false := by simp [doB, plS]
theorem hauR_cons (p : HG → Int → Int → Bool) (k a : Int) (t : List (Int × Int)) (s : HG) (i : Int) : hauR p ((k, a) :: t) s i = if p s k a then hauR p t (plS s k a) (i + 1) else (s, i) := rfl
theorem hauR_app {p : HG → Int → Int → Bool} (B : List (Int × Int)) : ∀ (A : List (Int × Int)) (s : HG) (i : Int), 0 ≤ i → (hauR p A s i).2 < 0 → hauR p (A ++ B) s i = hauR p B (hauR p A s i).1 (i + A.length)
  | [], s, i, _, _ => by simp [hauR]
  | (k, a) :: t, s, i, hi, h => by
    rw [List.cons_append, hauR_cons, hauR_cons]
    rw [hauR_cons] at h
    cases hp : p s k a with
    | true =>
      rw [hp] at h
      simp only [if_true] at h ⊢
      rw [hauR_app B t _ (i + 1) (by omega) h, List.length_cons, show i + 1 + (t.length : Int) = i + ((t.length + 1 : Nat) : Int) by omega]
    | false =>
      rw [hp] at h
      simp at h
      omega
/-- One step more. -/
theorem hauR_more {p : HG → Int → Int → Bool} {L : List (Int × Int)} {s : HG} {n : Nat} {x : Int × Int} (hx : L[n]? = some x) (h : (hauR p L s 0).2 < 0) : p (hauR p (L.take n) s 0).1 x.1 x.2 = true ∧ (hauR p (L.take (n + 1)) s 0).1 = plS (hauR p (L.take n) s 0).1 x.1 x.2 := by
  have e : L.take (n + 1) = L.take n ++ [x] := by
    rw [List.take_add_one, hx]
    rfl
  have h1 := hauR_take L s 0 n (Int.le_refl 0) h
  have h2 := hauR_take L s 0 (n + 1) (Int.le_refl 0) h
  rw [e, hauR_app [x] _ s 0 (Int.le_refl 0) h1] at h2
  rw [e, hauR_app [x] _ s 0 (Int.le_refl 0) h1]
  obtain ⟨k, a⟩ := x
  generalize (hauR p (L.take n) s 0).1 = s' at *
  rw [hauR_cons] at h2 ⊢
  cases hp : p s' k a with
  | true => exact ⟨rfl, rfl⟩
  | false =>
    rw [hp] at h2
    simp at h2
    omega
/-- What is carried in winds is carried in winds inside them. -/
theorem car_inner {X Y : List Int} {V : List (List Int)} {cable y1 y2 l wt z1 z2 : Int} (h : HZ X Y V cable y1 y2) (l0 : 0 ≤ l) (l1 : l ≤ cable) (a : y1 ≤ z1) (b : z1 ≤ z2) (c : z2 ≤ y2) (hw : carB X Y V l l y1 y2 wt = true) : carB X Y V l l z1 z2 wt = true := by
  unfold carB at hw ⊢
  simp at hw ⊢
  rcases hw with hw | hw
  · exact Or.inl hw
  · right
    have oz1 : On Y z1 := ⟨by have := h.o1.1; omega, by have := h.o2.2; omega⟩
    have oz2 : On Y z2 := ⟨by have := h.o1.1; omega, by have := h.o2.2; omega⟩
    have hv := vS_get h.ys
    have e : cbE X Y V l l z1 z2 = 0 := cbE_good h.ct (vS_mk (Int.le_refl l) (by omega) (by have := h.c2; omega)) (vS_mk b (by omega) (by omega)) (h.on l0 l1) (h.on l0 l1) oz1 oz2
    rw [loS_ok e]
    rw [loS_ok (h.cb l0 (Int.le_refl l) l1)] at hw
    have := (part_in (V := V) h.ct (h.on l0 l1) (h.on l0 l1) h.o1 h.o2 (Int.le_refl l) (Int.le_refl l) (Int.le_refl l) a b c).1
    omega
theorem hauR_same {p p' : HG → Int → Int → Bool} {I : Nat → HG → Prop} (step : ∀ m s k n, I m s → p s k n = true → I (m + 1) (plS s k n)) (sub : ∀ m s k n, I m s → p s k n = true → p' s k n = true) : ∀ (L : List (Int × Int)) (s : HG) (i : Int) (m : Nat), 0 ≤ i → I m s → (hauR p L s i).2 < 0 → hauR p' L s i = hauR p L s i
  | [], _, _, _, _, _, _ => rfl
  | (k, a) :: t, s, i, m, hi, h, hr => by
    rw [hauR_cons] at hr ⊢
    rw [hauR_cons]
    cases hp : p s k a with
    | true =>
      rw [hp] at hr
      rw [sub m s k a h hp]
      simp only [if_true] at hr ⊢
      exact hauR_same step sub t _ (i + 1) (m + 1) (by omega) (step m s k a h hp) hr
    | false =>
      rw [hp] at hr
      simp at hr
      omega
theorem pos_inner {X Y : List Int} {V : List (List Int)} {cable charge y1 y2 z1 z2 : Int} {m : Nat} {s : HG} {k n : Int} (h : HZ X Y V cable y1 y2) (a : y1 ≤ z1) (b : z1 ≤ z2) (c : z2 ≤ y2) (hg : GD cable m s) (hp : posB (fun l u => carB X Y V l l y1 y2 u) cable charge s k n = true) : posB (fun l u => carB X Y V l l z1 z2 u) cable charge s k n = true := by
  have g0 := hg.l0
  have g1 := hg.l1
  unfold posB at hp ⊢
  by_cases k1 : k = 1
  · subst k1
    simp at hp ⊢
    exact ⟨hp.1, car_inner h (by omega) (by omega) a b c hp.2⟩
  by_cases k2 : k = 2
  · subst k2
    simp at hp ⊢
    exact ⟨hp.1, car_inner h (by omega) (by omega) a b c hp.2⟩
  by_cases k4 : k = 4
  · subst k4
    simp at hp ⊢
    exact ⟨hp.1, car_inner h (by omega) (by omega) a b c hp.2⟩
  simpa [k1, k2, k4] using hp
end Go.Proofs.Ytnnmmojlgikdgaa

/- What hangs behind each beginning of right steps. -/
namespace Go.Proofs.Ytnnmmojlgikdgaa

theorem hwE_of {X Y : List Int} {V : List (List Int)} {cable charge y1 y2 : Int} (h : cwE X Y V cable charge y1 y2 = 0) : hwE X Y V cable charge y1 y2 = 0 ∧ osB Y (y1, y2) = true := by
  have e : hwE X Y V cable charge y1 y2 = 0 := by
    unfold cwE at h
    unfold hwE
    cases h1 : hoB X Y V cable charge <;> rw [h1] at h
    · simp at h
    · cases h2 : vS (y1, y2) <;> rw [h2] at h
      · simp at h
      · rfl
  refine ⟨e, ?_⟩
  rw [cwE_ok e] at h
  cases ho : osB Y (y1, y2)
  · rw [ho] at h; simp at h
  · rfl
/-- All that a law asks behind some steps. -/
structure HF (X Y : List Int) (V : List (List Int)) (cable charge y1 y2 : Int) (L : List (Int × Int)) (n : Nat) (s : HG) : Prop where
  e : hauN X Y V cable charge y1 y2 (L.take n) = (s, 0, 0)
  l0 : 0 ≤ s.len
  l1 : s.len ≤ cable
  w0 : 0 ≤ s.wt
  w1 : s.wt ≤ 100000
  c : s.cyc = cyN (L.take n)
  b : 0 < s.wt → beaB X Y V s.len y1 y2 s.wt = true
theorem car_bea {X Y : List Int} {V : List (List Int)} {y1 y2 n wt : Int} (hw : 0 < wt) (h : carB X Y V n n y1 y2 wt = true) : beaB X Y V n y1 y2 wt = true := by
  unfold carB at h
  rw [decide_eq_false (show ¬ wt = 0 by omega), Bool.false_or] at h
  exact h
theorem hang_facts {X Y : List Int} {V : List (List Int)} {cable charge y1 y2 : Int} {L : List (Int × Int)} (h0 : cwE X Y V cable charge y1 y2 = 0) (hn : L.length ≤ 100) (hr : (hauR (doB (fun l u => carB X Y V l l y1 y2 u) cable charge) L zeroH 0).2 < 0) (n : Nat) :
    HF X Y V cable charge y1 y2 L n (hauR (doB (fun l u => carB X Y V l l y1 y2 u) cable charge) (L.take n) zeroH 0).1 := by
  obtain ⟨g1, g2⟩ := hwE_of h0
  have hc := (hz_of h0).c1
  have ht := hauR_take L zeroH 0 n (Int.le_refl 0) hr
  have hg := hauR_good (by omega) (L.take n) zeroH 0 (zero_good (by omega)) ht
  have hcy := hauR_cyc (L.take n) zeroH 0 (Int.le_refl 0) ht
  have hca := hauR_ind (I := fun _ s => CAR (fun l u => carB X Y V l l y1 y2 u) s) (fun _ _ _ _ h hp => h.play (doB_pos hp)) (L.take n) zeroH 0 0 (Int.le_refl 0) (fun h => absurd rfl h) ht
  refine ⟨?_, hg.l0, hg.l1, hg.w0, hg.w1, by simpa [zeroH] using hcy, fun hw => ?_⟩
  · unfold hauN
    rw [if_pos g1, if_pos (by simp; omega), if_pos g2, if_neg (by omega)]
  · exact car_bea hw (hca fun h => absurd (h ▸ hw) (by decide))
theorem cyN_take {L : List (Int × Int)} {j : Nat} {x : Int × Int} (h : L[j]? = some x) : cyN (L.take (j + 1)) = cyN (L.take j) + if x.1 = 5 then 1 else 0 := by
  have e : ∀ (A : List (Int × Int)), cyN (A ++ [x]) = cyN A + if x.1 = 5 then 1 else 0 := by
    intro A
    induction A with
    | nil => obtain ⟨a, b⟩ := x; simp [cyN]
    | cons y t ih =>
      obtain ⟨a, b⟩ := y
      show (if a = 5 then 1 else 0) + cyN (t ++ [x]) = (if a = 5 then 1 else 0) + cyN t + _
      rw [ih]; omega
  rw [List.take_add_one, h]
  exact e _
theorem cyN_bd : ∀ (L : List (Int × Int)), 0 ≤ cyN L ∧ cyN L ≤ L.length
  | [] => ⟨Int.le_refl _, Int.le_refl _⟩
  | (k, a) :: t => by
    have := cyN_bd t
    show 0 ≤ (if k = 5 then 1 else 0) + cyN t ∧ (if k = 5 then 1 else 0) + cyN t ≤ ((t.length + 1 : Nat) : Int)
    split <;> omega
end Go.Proofs.Ytnnmmojlgikdgaa

/- Touches, cuts, and steps in less wind. -/
namespace Go.Proofs.Ytnnmmojlgikdgaa

/-- When is a row of steps right? -/
theorem hauN_zero {X Y : List Int} {V : List (List Int)} {cable charge y1 y2 : Int} {L : List (Int × Int)} (h : (hauN X Y V cable charge y1 y2 L).2.2 = 0) : cwE X Y V cable charge y1 y2 = 0 ∧ L.length ≤ 100 ∧ (hauR (doB (fun l u => carB X Y V l l y1 y2 u) cable charge) L zeroH 0).2 < 0 := by
  unfold hauN at h
  split at h
  · rename_i h1
    split at h
    · rename_i h2
      split at h
      · rename_i h3
        split at h
        · simp at h
        · rename_i h4
          refine ⟨?_, h2, by omega⟩
          rw [cwE_ok h1, h3]
          rfl
      · simp at h
    · simp at h
  · rename_i h1
    exact absurd h h1
theorem touch_facts {p : HG → Int → Int → Bool} {car : Int → Int → Bool} {cable charge : Int} {L : List (Int × Int)} (hp : p = doB car cable charge) (hr : (hauR p L zeroH 0).2 < 0) :
    ∃ S : Nat → HG, S 0 = zeroH ∧ ∀ (j : Nat) (x : Int × Int) (t : Int), L[j]? = some x → TL j t (S j) → (x.1 = 4 → 0 ≤ t ∧ (j : Int) - t ≤ charge) ∧ (x.1 = 6 → j + 1 = L.length) ∧ TL ((j : Int) + 1) (if x.1 = 3 then (j : Int) else t) (S (j + 1)) := by
  refine ⟨fun j => (hauR p (L.take j) zeroH 0).1, by simp [hauR], fun j x t hx ht => ?_⟩
  obtain ⟨h1, h2⟩ := hauR_more hx hr
  have h3 : posB car cable charge (hauR p (L.take j) zeroH 0).1 x.1 x.2 = true := doB_pos (by rw [← hp]; exact h1)
  refine ⟨fun h4 => ?_, fun h6 => ?_, ?_⟩
  · rw [h4] at h3
    exact hook_touch ht h3
  · by_cases hl : j + 1 < L.length
    · obtain ⟨h5, _⟩ := hauR_more (List.getElem?_eq_getElem hl) hr
      rw [h2, h6, hp, cut_last] at h5
      cases h5
    · have := (List.getElem?_eq_some_iff.1 hx).1
      omega
  · simp only [h2]
    exact ht.play (by omega) h3
theorem half_same {X Y : List Int} {V : List (List Int)} {cable charge y1 y2 z1 : Int} {L : List (Int × Int)} (h0 : cwE X Y V cable charge y1 y2 = 0) (a : y1 ≤ z1) (b : z1 ≤ y2) (hn : L.length ≤ 100) (hr : (hauR (doB (fun l u => carB X Y V l l y1 y2 u) cable charge) L zeroH 0).2 < 0) :
    hauN X Y V cable charge z1 y2 L = ((hauR (doB (fun l u => carB X Y V l l y1 y2 u) cable charge) L zeroH 0).1, 0, 0) := by
  have hz := hz_of h0
  obtain ⟨g1, g2⟩ := hwE_of h0
  obtain ⟨hy, hya, hyb⟩ := vS_get hz.ys
  have hv : vS (z1, y2) = true := vS_mk b (by omega) (by omega)
  have hb : btB Y z1 y2 = true := by
    have e : cwE X Y V cable charge y1 y2 = 0 := h0
    unfold cwE at e
    cases h1 : hoB X Y V cable charge <;> rw [h1] at e
    · simp at e
    rw [hz.ys] at e
    cases h2 : btB Y y1 y2 <;> rw [h2] at e
    · simp at e
    unfold btB at h2 ⊢
    simp at h2 ⊢
    omega
  have e1 : hwE X Y V cable charge z1 y2 = 0 := by
    unfold hwE at g1 ⊢
    cases h1 : hoB X Y V cable charge <;> rw [h1] at g1
    · simp at g1
    rw [hv]
    rfl
  have e2 : osB Y (z1, y2) = true := by rw [osB_btB hv]; exact hb
  have e3 := hauR_same (p := doB (fun l u => carB X Y V l l y1 y2 u) cable charge) (p' := doB (fun l u => carB X Y V l l z1 y2 u) cable charge) (I := fun m s => GD cable m s) (fun m s k n h hp => h.play (by have := hz.c1; omega) (doB_pos hp)) (fun m s k n h hp => by
    have := pos_inner hz a b (Int.le_refl y2) h (doB_pos hp)
    unfold doB at hp ⊢
    rw [this]
    simp at hp ⊢
    exact hp.1) L zeroH 0 0 (Int.le_refl 0) (zero_good (by have := hz.c1; omega)) hr
  unfold hauN
  rw [if_pos e1, if_pos hn, if_pos e2, e3, if_neg (by omega)]
theorem tl_start : TL 0 (-1) zeroH := Or.inl ⟨by decide, rfl⟩
end Go.Proofs.Ytnnmmojlgikdgaa

/- The upper half of a span. -/
namespace Go.Proofs.Ytnnmmojlgikdgaa
open Go.RowKit

def halfN (y1 y2 : Int) : Int := y1 + (y2 - y1) / 2
theorem halfN_bd {y1 y2 : Int} (h : y1 ≤ y2) : y1 ≤ halfN y1 y2 ∧ halfN y1 y2 ≤ y2 := by unfold halfN; omega
set_option maxRecDepth 100000 in
theorem half_any (y1 y2 : Int) (w : World) (h : y1 ≤ y2) (h1 : -2000000 ≤ y1) (h2 : y2 ≤ 2000000) :
    Calls Try.prog 45 #[.agg #[.int .i64 y1, .int .i64 y2]] w fun e w' => e = .returned (.agg #[.int .i64 (halfN y1 y2), .int .i64 y2]) ∧ Below w.heap.size w w' := by
  have i1 : IntKind.i64.wrap (y2 - y1) = y2 - y1 := IntWalk.i64_in _ (by omega)
  have i2 : (y2 - y1).tdiv 2 = (y2 - y1) / 2 := Int.tdiv_eq_ediv_of_nonneg (by omega)
  have i3 : IntKind.i64.wrap ((y2 - y1) / 2) = (y2 - y1) / 2 := IntWalk.i64_in _ (by omega)
  have i4 : IntKind.i64.wrap (y1 + (y2 - y1) / 2) = y1 + (y2 - y1) / 2 := IntWalk.i64_in _ (by omega)
  unfold halfN
  go_enter Try.func45, Try.ntmps45
  go_wp2
  have hb : Below w.heap.size w ((w.alloc (.cells #[.int .i64 y1, .int .i64 y2] 27)).alloc (.cells #[.int .i64 (y1 + (y2 - y1) / 2), .int .i64 y2] 27)) := by go_grown
  have bk := blk_new (w.alloc (.cells #[.int .i64 y1, .int .i64 y2] 27)) (.cells #[.int .i64 (y1 + (y2 - y1) / 2), .int .i64 y2] 27) (w.heap.size + 1) (by simp)
  generalize ((w.alloc (.cells #[.int .i64 y1, .int .i64 y2] 27)).alloc (.cells #[.int .i64 (y1 + (y2 - y1) / 2), .int .i64 y2] 27)) = W9 at *
  have c0 := cellOf (o := 0) bk rfl
  have c1 := cellOf (o := 1) bk rfl
  exact bodyPost_ret (v := .agg #[.int .i64 (y1 + (y2 - y1) / 2), .int .i64 y2]) (by simp [results, Try.results45, go_sem, c0, c1]) rfl ⟨rfl, hb⟩
end Go.Proofs.Ytnnmmojlgikdgaa

/- The law of touches and cuts. -/
namespace Go.Proofs.Ytnnmmojlgikdgaa
open Go.RowKit

set_option maxRecDepth 100000 in
set_option maxHeartbeats 4000000 in
theorem law_touched (wk : WK7) (w : World) (cable : Int) (AX : Option Addr) (nx cx : Nat) (AY : Option Addr) (ny cy : Nat) (AV : Option Addr) (nv cv : Nat) (charge : Int) (X Y : List Int) (V : List (List Int)) (h : HT w w.heap.size AX AY AV nx ny nv X Y V) (y1 y2 : Int) (A : Option Addr) (na ca : Nat) (LL : List (Int × Int)) (hl : LL.length = na) (_ : na ≤ maxLen) (hr : RS w w.heap.size A LL) :
    Calls Try.prog 13 #[.agg #[.int .i64 cable, .slice AX nx cx, .slice AY ny cy, .slice AV nv cv, .int .i64 charge], .agg #[.int .i64 y1, .int .i64 y2], .slice A na ca] w fun e w' => e = .returned (.bool true) ∧ Below w.heap.size w w' := by
  have HWK := Lib.hid wk
  have HS0 := Lib.hid (AH.start (cable := cable) (AX := AX) (nx := nx) (cx := cx) (AY := AY) (ny := ny) (cy := cy) (AV := AV) (nv := nv) (cv := cv) (charge := charge) (y1 := y1) (y2 := y2) w)
  have H1 := Lib.hid (fun (W : World) (hW : Below w.heap.size w W) => haul_any cable charge y1 y2 AX AY AV A nx cx ny cy nv cv w.heap.size na ca X Y V LL W (h.below hW) hl (hr.below hW))
  have HCW := Lib.hid (fun (W : World) (hW : Below w.heap.size w W) => checkWinds_any cable charge y1 y2 AX AY AV nx cx ny cy nv cv w.heap.size X Y V W (h.below hW))
  by_cases he : (hauN X Y V cable charge y1 y2 LL).2.2 = 0
  · obtain ⟨h0, hn, hri⟩ := hauN_zero he
    rw [h0] at HCW
    have hz := hz_of h0
    obtain ⟨y12, y1a, y2a⟩ := vS_get hz.ys
    obtain ⟨hz1, hz2⟩ := halfN_bd y12
    have H2 := Lib.hid (fun (W : World) (hW : Below w.heap.size w W) => haul_any cable charge (halfN y1 y2) y2 AX AY AV A nx cx ny cy nv cv w.heap.size na ca X Y V LL W (h.below hW) hl (hr.below hW))
    rw [half_same h0 hz1 hz2 hn hri] at H2
    have e1 : hauN X Y V cable charge y1 y2 LL = ((hauR (doB (fun l u => carB X Y V l l y1 y2 u) cable charge) LL zeroH 0).1, 0, 0) := by
      obtain ⟨g1, g2⟩ := hwE_of h0
      unfold hauN
      rw [if_pos g1, if_pos hn, if_pos g2, if_neg (by omega)]
    rw [e1] at H1
    obtain ⟨P, hP⟩ : ∃ P, doB (fun l u => carB X Y V l l y1 y2 u) cable charge = P := ⟨_, rfl⟩
    rw [hP] at H1 H2 hri
    obtain ⟨S, hS0, hSS⟩ := touch_facts (car := fun l u => carB X Y V l l y1 y2 u) hP.symm hri
    have HST := Lib.hid hSS
    have HSZ := Lib.hid hS0
    have HHF := Lib.hid (fun (W : World) => half_any y1 y2 W y12 (by omega) (by omega))
    have HRS := Lib.hid (fun (W : World) (hW : Below w.heap.size w W) => hr.below hW)
    generalize (hauR P LL zeroH 0).1 = s9 at *
    generalize halfN y1 y2 = z9 at *
    obtain ⟨sl, sw, ss, sc, su, st⟩ := s9
    simp only [HA] at H1 H2
    clear wk h hr he h0 hz e1 hri hSS hS0 hP y12 y1a y2a hz1 hz2
    subst hl
    go_enter Try.func13, Try.ntmps13
    go_upto_region 2 with (go_at_call 34; refine Calls.mono (H1.out _ HS0.out.b) ?_; rintro e w2 ⟨rfl, hb2⟩; have HS2 := Lib.hid ((HS0.out.next hb2).alloc (.cells #[.int .i64 sl, .int .i64 sw, .int .i64 ss, .int .i64 sc, .bool su] 61)); have HX2 := Lib.hid (show HX (w2.alloc (.cells #[.int .i64 sl, .int .i64 sw, .int .i64 ss, .int .i64 sc, .bool su] 61)) w2.heap.size ⟨sl, sw, ss, sc, su, st⟩ from blk_new _ _ _ rfl); clear hb2)
    generalize World.alloc w2 _ = w3 at *
    have S2 := HS2.out
    have l1 := S2.l1
    obtain ⟨⟨a0, a1, a2, a3, a4⟩, a5, a6, _⟩ := S2
    go_upto_region 6 with (go_at_call 46; refine Calls.mono (HCW.out _ HS2.out.b) ?_; rintro e w4 ⟨rfl, hb4⟩; have HS4 := Lib.hid (HS2.out.next hb4); have HX4 := Lib.hid (HX2.out.stay hb4); clear hb4 a0 a1 a2 a3 a4 a5 a6 l1)
    have S4 := HS4.out
    have l1 := S4.l1
    have l2 := HX4.out.lt
    obtain ⟨⟨z0, z1, z2, z3, z4⟩, z5, z6, _⟩ := S4
    go_loopw [10, 11] (fun tt n wr => ∃ (k : Nat) (t : Int), k ≤ LL.length ∧ n = .int .i64 k ∧ tt = .int .i64 t ∧ -1 ≤ t ∧ t < k ∧ TL k t (S k) ∧ wr = w4) (fun _ n _ => LL.length - (intOf n).toNat)
    case atStart => exact ⟨0, -1, by omega, rfl, rfl, by omega, by omega, by rw [HSZ.out]; exact tl_start, rfl⟩
    case round =>
      obtain ⟨k, t, hk, rfl, rfl, ht1, ht2, htl, rfl⟩ := hrel
      by_cases hlt : k < LL.length
      · obtain ⟨b, off, xx, rfl, hb, hx, hc1, hc2⟩ := (HRS.out wr HS4.out.b).at_ hlt
        have hlb : b < wr.heap.size := World.block_lt_of_cell? _ _ hc1
        obtain ⟨f1, f2, f3⟩ := HST.out k xx t hx htl
        obtain ⟨x1, x2⟩ := xx
        simp only at hc1 hc2 f1 f2 f3
        have HF3 := Lib.hid f3
        have i1 : IntKind.i64.wrap ((LL.length : Int) - 1) = LL.length - 1 := IntWalk.i64_in _ (by omega)
        have i2 : IntKind.i64.wrap ((k : Int) - t) = k - t := IntWalk.i64_in _ (by omega)
        clear f3 hx hb htl hc2
        by_cases e3 : x1 = 3
        · subst e3
          clear f1 f2
          go_wp2
          go_roundw
          case rel => exact ⟨k + 1, k, by omega, by go_num, rfl, by omega, by omega, HF3.out, trivial⟩
          case measure => simp [intOf]; omega
        by_cases e4 : x1 = 4
        · subst e4
          obtain ⟨g1, g2⟩ := f1 rfl
          have g3 : ¬ t < 0 := by omega
          have g4 : ¬ charge < (k : Int) - t := by omega
          clear f1 f2 g1 g2 e3
          go_wp2
          go_roundw
          case rel => exact ⟨k + 1, t, by omega, by go_num, rfl, by omega, by omega, HF3.out, trivial⟩
          case measure => simp [intOf]; omega
        by_cases e6 : x1 = 6
        · subst e6
          have g5 := f2 rfl
          have g6 : ¬ ((k : Int) < (LL.length : Int) - 1) := by omega
          clear f1 f2 g5 e3 e4
          go_wp2
          go_roundw
          case rel => exact ⟨k + 1, t, by omega, by go_num, rfl, by omega, by omega, HF3.out, trivial⟩
          case measure => simp [intOf]; omega
        · have HFE := Lib.hid e3
          rw [if_neg e3] at HF3
          clear f1 f2
          go_wp2
          go_roundw
          case rel => exact ⟨k + 1, t, by omega, by go_num, rfl, by omega, by omega, HF3.out, trivial⟩
          case measure => simp [intOf]; omega
      · have hkk : ¬ ((k : Int) < LL.length) := by omega
        clear hlt htl
        go_upto_region 12 with (fail)
        have HX0 := Lib.hid HX4.out
        obtain ⟨Q, hQ⟩ : ∃ q9 : Nat → Value → World → Prop, q9 = QG [some (.agg #[.int .i64 cable, .slice AX nx cx, .slice AY ny cy, .slice AV nv cv, .int .i64 charge]), some (.agg #[.int .i64 y1, .int .i64 y2]), some (.agg #[.int .i64 z9, .int .i64 y2]), some (.slice A LL.length ca), some (.tuple #[.agg #[.int .i64 sl, .int .i64 sw, .int .i64 ss, .int .i64 sc, .bool su], .int .i64 0, .int .i64 0]), some (.tuple #[.agg #[.int .i64 sl, .int .i64 sw, .int .i64 ss, .int .i64 sc, .bool su], .int .i64 0, .int .i64 0]), some (.agg #[.int .i64 sl, .int .i64 sw, .int .i64 ss, .int .i64 sc, .bool su]), some (.int .i64 0), some (.int .i64 0), none, none, some (.int .i64 0), some (.int .i64 0)] (fun _ _ _ => True) := ⟨_, rfl⟩
        obtain ⟨E, hE⟩ : ∃ q9 : Nat → Value → World → Prop, q9 = (fun _ _ _ => True) := ⟨_, rfl⟩
        have hSt : Still Q := by rw [hQ]; exact QG.still
        have hEs : Stays E := by rw [hE]; exact fun _ _ _ _ _ _ => trivial
        have XF := Lib.hid (show ∀ j, decide (j ∈ ([] : List Nat)) = false → ∀ v0' w0', E j v0' w0' from fun j hj v0' w0' => by rw [hE]; exact trivial)
        have HQ := Lib.hid hQ
        clear hQ hE
        refine wpIn_wide.1 (region_inv2 (n := 9) (by kernel_rfl) (RB Q E wr 10 9 #[.int .i64 0, .int .i64 0, .int .i64 0, .int .i64 0, .bool false] #[.int .i64 sl, .int .i64 sw, .int .i64 ss, .int .i64 sc, .bool su] 61) (by kernel_rfl) rfl (RB.start _ _ _ _ _ _ _ _ _) ?hstep ?hend)
        case hstep =>
          intro i' o ho val L b' x hF hR hpre hl
          match i', ho with
          | 0, ho =>
            simp at ho; subst ho; refine step_plain rfl ?_; have e3 := hF.was 3 (by kernel_rfl) rfl; have hgoal := hR.go hSt hEs HQ 0 rfl (XF.out 0 (by decide)) (by decide) (by decide); have q0 := cell_keep hR.1 z0; have q1 := cell_keep hR.1 z1; have q2 := cell_keep hR.1 z2; have q3 := cell_keep hR.1 z3; have q4 := cell_keep hR.1 z4; clear hF hpre hl hR; go_simp; exact ⟨_, rfl, hgoal _ _ (Below.refl _ _) rfl⟩
          | 1, ho =>
            simp at ho; subst ho; refine step_plain rfl ?_; have e4 := hF.was 4 (by kernel_rfl) rfl; have hgoal := hR.go hSt hEs HQ 1 rfl (XF.out 1 (by decide)) (by decide) (by decide); have q0 := cell_keep hR.1 z5; have q1 := cell_keep hR.1 z6; clear hF hpre hl hR; go_simp; exact ⟨_, rfl, hgoal _ _ (Below.refl _ _) rfl⟩
          | 2, ho =>
            simp at ho; subst ho; refine step_plain rfl ?_; have e79 := hF.gv hR.2.1 HQ 1 rfl (hpre ⟨1, .data⟩ (by simp) rfl) rfl; have hgoal := hR.go hSt hEs HQ 2 rfl (XF.out 2 (by decide)) (by decide) (by decide)
            have hM := Lib.hid hR.1
            clear hF hpre hl hR; go_simp
            refine ⟨trivial, ?_⟩
            refine CallsIn.mono (callsIn_wide.2 (HHF.out _)) ?_
            rintro e w9 ⟨rfl, hb9⟩
            exact ⟨_, rfl, hgoal _ _ hb9 rfl⟩
          | 3, ho =>
            simp at ho; subst ho; refine step_plain rfl ?_; have e2 := hF.was 2 (by kernel_rfl) rfl; have hgoal := hR.go hSt hEs HQ 3 rfl (XF.out 3 (by decide)) (by decide) (by decide); clear hF hpre hl hR; go_simp; exact ⟨_, rfl, hgoal _ _ (Below.refl _ _) rfl⟩
          | 4, ho =>
            simp at ho; subst ho; refine step_plain rfl ?_; have e78 := hF.gv hR.2.1 HQ 0 rfl (hpre ⟨0, .data⟩ (by simp) rfl) rfl; have e80 := hF.gv hR.2.1 HQ 2 rfl (hpre ⟨2, .data⟩ (by simp) rfl) rfl; have e81 := hF.gv hR.2.1 HQ 3 rfl (hpre ⟨3, .data⟩ (by simp) rfl) rfl; have hgoal := hR.go hSt hEs HQ 4 rfl (XF.out 4 (by decide)) (by decide) (by decide)
            have hM := Lib.hid hR.1
            clear hF hpre hl hR; go_simp
            refine ⟨trivial, ?_⟩
            refine CallsIn.mono (callsIn_wide.2 (H2.out _ (HS4.out.b.trans (hM.out.mono HS4.out.b.size)))) ?_
            rintro e w9 ⟨rfl, hb9⟩
            exact ⟨_, rfl, hgoal _ _ hb9 rfl⟩
          | 5, ho =>
            simp at ho; subst ho; refine step_plain rfl ?_; have e82 := hF.gv hR.2.1 HQ 4 rfl (hpre ⟨4, .data⟩ (by simp) rfl) rfl; have hgoal := hR.go hSt hEs HQ 5 rfl (XF.out 5 (by decide)) (by decide) (by decide); clear hF hpre hl hR; go_simp; exact ⟨_, rfl, hgoal _ _ (Below.refl _ _) rfl⟩
          | 6, ho =>
            simp at ho; subst ho; refine step_plain rfl ?_; have e77 := hF.gv hR.2.1 HQ 5 rfl (hpre ⟨5, .data⟩ (by simp) rfl) rfl; have hgoal := hR.go hSt hEs HQ 6 rfl (XF.out 6 (by decide)) (by decide) (by decide); clear hF hpre hl hR; go_simp; exact ⟨_, rfl, hgoal _ _ (Below.refl _ _) rfl⟩
          | 7, ho =>
            simp at ho; subst ho; refine step_plain rfl ?_; have e77 := hF.gv hR.2.1 HQ 5 rfl (hpre ⟨5, .data⟩ (by simp) rfl) rfl; have hgoal := hR.go hSt hEs HQ 7 rfl (XF.out 7 (by decide)) (by decide) (by decide); clear hF hpre hl hR; go_simp; exact ⟨_, rfl, hgoal _ _ (Below.refl _ _) rfl⟩
          | 8, ho =>
            simp at ho; subst ho; refine step_plain rfl ?_; have e77 := hF.gv hR.2.1 HQ 5 rfl (hpre ⟨5, .data⟩ (by simp) rfl) rfl; have hgoal := hR.go hSt hEs HQ 8 rfl (XF.out 8 (by decide)) (by decide) (by decide); clear hF hpre hl hR; go_simp; exact ⟨_, rfl, hgoal _ _ (Below.refl _ _) rfl⟩
          | 9, ho =>
            simp at ho; subst ho; refine step_plain rfl ?_; have hN := hF.later hl 10 rfl (e := ⟨9, .data⟩) (by simp) rfl rfl; have hgoal := hR.made hSt hEs hN (by decide) (QG.none HQ 9 rfl (fun _ _ => trivial) _ _) (XF.out 9 (by decide) _ _); clear hF hpre hl hR hN; go_simp; exact ⟨_, rfl, hgoal⟩
          | 10, ho =>
            simp at ho; subst ho; refine step_plain rfl ?_; have e12 := hF.gave 9 rfl (hpre ⟨9, .data⟩ (by simp) rfl) rfl; have e83 := hF.gv hR.2.1 HQ 6 rfl (hpre ⟨6, .data⟩ (by simp) rfl) rfl
            have hls : 10 < L.size := by rw [hF.lsize]; decide
            have hN0 : L.getD 10 false = false := by rw [← getD_same hls]; exact hl
            obtain ⟨q, qe, qM, qb⟩ := hR.2.2.2 (hpre ⟨9, .data⟩ (by simp) rfl)
            rw [hN0] at qb
            simp only [Bool.false_eq_true, if_false] at qb
            rw [qe] at e12
            have g0 := cellOf (o := 0) qb rfl; have f0 := freeOf (o := 0) qb; have g1 := cellOf (o := 1) qb rfl; have f1 := freeOf (o := 1) qb; have g2 := cellOf (o := 2) qb rfl; have f2 := freeOf (o := 2) qb; have g3 := cellOf (o := 3) qb rfl; have f3 := freeOf (o := 3) qb; have g4 := cellOf (o := 4) qb rfl; have f4 := freeOf (o := 4) qb; have hgoal := RB.filled (v := undef) hR hSt hls (QG.none HQ 10 rfl (fun _ _ => trivial) _ _) qe qM (((((hR.1.setCell (p := ⟨q, 0, none⟩) qM (.int .i64 sl)).setCell (p := ⟨q, 1, none⟩) qM (.int .i64 sw)).setCell (p := ⟨q, 2, none⟩) qM (.int .i64 ss)).setCell (p := ⟨q, 3, none⟩) qM (.int .i64 sc)).setCell (p := ⟨q, 4, none⟩) qM (.bool su)) ((block_setCell (o := 4) (.bool su) (block_setCell (o := 3) (.int .i64 sc) (block_setCell (o := 2) (.int .i64 ss) (block_setCell (o := 1) (.int .i64 sw) (block_setCell (o := 0) (.int .i64 sl) qb))))).trans (by rfl)) (by decide)
            have hq := lt_of_block qb
            have HG := Lib.hid hgoal
            clear hF hpre hl hR hls hN0 qe qb hgoal; go_simp
            exact ⟨undef, HG.out⟩
          | 11, ho =>
            simp at ho; subst ho; refine step_plain rfl ?_; have e84 := hF.gv hR.2.1 HQ 7 rfl (hpre ⟨7, .data⟩ (by simp) rfl) rfl; have hgoal := hR.go hSt hEs HQ 11 rfl (XF.out 11 (by decide)) (by decide) (by decide); clear hF hpre hl hR; go_simp; exact ⟨_, rfl, hgoal _ _ (Below.refl _ _) rfl⟩
          | 12, ho =>
            simp at ho; subst ho; refine step_plain rfl ?_; have e85 := hF.gv hR.2.1 HQ 8 rfl (hpre ⟨8, .data⟩ (by simp) rfl) rfl; have hgoal := hR.go hSt hEs HQ 12 rfl (XF.out 12 (by decide)) (by decide) (by decide); clear hF hpre hl hR; go_simp; exact ⟨_, rfl, hgoal _ _ (Below.refl _ _) rfl⟩
          | i + 13, ho => simp at ho
        case hend =>
          intro val L b' x hF hall hR
          have e := hF.all (by kernel_rfl) hall
          have k11 := QG.val HQ rfl (hR.2.1 11 (hall 11 (by decide)))
          have k12 := QG.val HQ rfl (hR.2.1 12 (hall 12 (by decide)))
          obtain ⟨g, kp, hM, bk⟩ := hR.2.2.2 (hall 9 (by decide))
          rw [hall 10 (by decide)] at bk
          simp only [if_true] at bk
          have hB := Lib.hid hR.1
          clear hF hall hR hSt hEs XF HQ 
          subst e
          simp [final, dstOf, List.range, List.range.loop]
          rw [kp, k11, k12]
          clear kp k11 k12
          have HXN := Lib.hid (show HX x g ⟨sl, sw, ss, sc, su, st⟩ from bk)
          have HXO := Lib.hid (HX4.out.stay hB.out)
          have HB9 := Lib.hid (HS4.out.b.trans (hB.out.mono HS4.out.b.size))
          clear z0 z1 z2 z3 z4 z5 z6 l1 l2 bk
          have d0 := cellOf (o := 0) HXN.out rfl
          have g0 := cellOf (o := 0) HXO.out rfl
          have d1 := cellOf (o := 1) HXN.out rfl
          have g1 := cellOf (o := 1) HXO.out rfl
          have d2 := cellOf (o := 2) HXN.out rfl
          have g2 := cellOf (o := 2) HXO.out rfl
          have d3 := cellOf (o := 3) HXN.out rfl
          have g3 := cellOf (o := 3) HXO.out rfl
          have d4 := cellOf (o := 4) HXN.out rfl
          have g4 := cellOf (o := 4) HXO.out rfl
          have l7 := HXN.out.lt
          have l8 := HXO.out.lt
          go_wp2_with (go_at_call 22; refine Calls.mono (HWK.out _) ?_; rintro e w9 ⟨rfl, hb9⟩; have HX9 := Lib.hid (HB9.out.trans (hb9.mono HB9.out.size)); clear hb9)
          go_ret
          exact ⟨rfl, HX9.out⟩
  · have he' : ((hauN X Y V cable charge y1 y2 LL).2.2 != 0) = true := by rw [bne_iff_ne]; exact he
    generalize hauN X Y V cable charge y1 y2 LL = r at *
    obtain ⟨⟨rl, rw', rs, rc, ru, rt⟩, ri, re⟩ := r
    simp only [HA] at H1 he'
    clear wk h hr he HCW
    go_enter Try.func13, Try.ntmps13
    go_wp2_with (first
      | (go_at_call 34; refine Calls.mono (H1.out _ HS0.out.b) ?_; rintro e w2 ⟨rfl, hb2⟩; have HB2 := Lib.hid ((HS0.out.next hb2).alloc (.cells #[.int .i64 rl, .int .i64 rw', .int .i64 rs, .int .i64 rc, .bool ru] 61)).b; clear hb2)
      | (go_at_call 22; refine Calls.mono (HWK.out _) ?_; rintro e w9 ⟨rfl, hb9⟩; have HX9 := Lib.hid (HB2.out.trans (hb9.mono HB2.out.size)); clear hb9))
    go_ret
    exact ⟨rfl, HX9.out⟩
end Go.Proofs.Ytnnmmojlgikdgaa

/- swashplatelaw07.SlingTouched returns true at every input, and the input reads as it did: no condition. -/
namespace Go.Proofs.Ytnnmmojlgikdgaa
open Go.RowKit Go.WideShapes Go.ChangeShapes Go.ChangeAt Go.Joins

set_option maxRecDepth 100000 in
theorem touched_lifted (os : Os) (started : os.Started) (H : Type) (enc : TypeId × Value → H) :
    ReturnsInHanded {} Try.checked os 13 .any (Rows.slingTouchedSpec.pre6 enc Try.prog Try.f13 Rows.slingTouchedRow.domain false) (Rows.slingTouchedSpec.post enc Try.prog Try.f13 false true false false) := by
  refine returnsInHanded_of_change (C := Try.checked) own started (by kernel_rfl) Try.func13
    (ChangeSpec.witness6 (enc := enc) (C := Try.checked) false ⟨#[], #[.agg #[.int .i64 0, .slice none 0 0, .slice none 0 0, .slice none 0 0, .int .i64 0], .agg #[.int .i64 0, .int .i64 0], .slice none 0 0], []⟩ 8 (by kernel_rfl) (by kernel_rfl) (by kernel_rfl) (by kernel_rfl)) ?_
  intro W base args ds gs before hval0 hW hcnd _
  have hval : ∀ (j : Nat) t v, Try.f13.params[j]? = some t → args[j]? = some v → Value.okWide Try.prog W .any base t v := hval0
  have hW' := hW
  obtain ⟨p, q, hA0, hV, rfl, hfz, hnd⟩ := hW
  have hA : DataW.TrodAll enc Try.prog W 0 (fun _ => true) true Try.f13.params.toList args.toList ds p := hA0
  rw [Try.params13] at hA hval
  obtain ⟨v0, v1, v2, d0, d1, d2, p0, p1, p2, rfl, rfl, rfl, h0, h1, h2⟩ := trodAll_three hA
  obtain ⟨rfl, rfl⟩ := trodVars_none hV
  obtain ⟨cb0, AX0, nx0, cx0, AY0, ny0, cy0, AV0, nv0, cv0, ch0, X0, Y0, V0, rfl, ht0⟩ := hoist_open (hval 0 57 v0 rfl rfl) h0
  obtain ⟨a1, b1, rfl⟩ := span7_open (hval 1 27 v1 rfl rfl) h1
  obtain ⟨A2, n2, c2, l2, rfl, hl2, hn2, hr2⟩ := hauls_open (hval 2 58 v2 rfl rfl) h2
  clear hA0 hval0
  simp only [List.append_nil] at hW'
  have hlt : ∀ x ∈ p0 ++ p1 ++ p2, x.block < W.heap.size := fun x hx => hW'.lt x hx
  refine (law_touched works7_any W cb0 AX0 nx0 cx0 AY0 ny0 cy0 AV0 nv0 cv0 ch0 X0 Y0 V0 ht0 a1 b1 A2 n2 c2 l2 hl2 hn2 hr2).mono fun e W' ⟨he, hb⟩ => ?_
  subst he
  exact ⟨_, rfl, law_post hW' (by kernel_rfl) Try.underlying4 rfl rfl (fun sp hsp => (by simp only [List.append_assoc]; exact trodAll_mk3 (again (by kernel_rfl) (of_decide_eq_true (by kernel_rfl)) h0 hb (fun x hx => hlt x (List.mem_append_left _ (List.mem_append_left _ hx))) (fun x hx => hsp x (List.mem_append_left _ (List.mem_append_left _ hx)))) (again (by kernel_rfl) (of_decide_eq_true (by kernel_rfl)) h1 hb (fun x hx => hlt x (List.mem_append_left _ (List.mem_append_right _ hx))) (fun x hx => hsp x (List.mem_append_left _ (List.mem_append_right _ hx)))) (again (by kernel_rfl) (of_decide_eq_true (by kernel_rfl)) h2 hb (fun x hx => hlt x (List.mem_append_right _ hx)) (fun x hx => hsp x (List.mem_append_right _ hx))))) hb⟩

theorem touched_holds : Rows.SlingTouchedSaid :=
  OpenClaim.holds_of_wide 13 Try.f13 rfl rfl rfl rfl rfl rfl rfl ⟨rfl, rfl, rfl, rfl, rfl⟩ rfl rfl rfl rfl rfl (by kernel_rfl) Try.func13 (by kernel_rfl)
    (of_decide_eq_true (by kernel_rfl)) (by unfold Func.isWrapper; first | (rw [if_pos (by decide +kernel)]; kernel_rfl) | (rw [if_neg (by decide +kernel)]; exact ⟨rfl, rfl⟩))
    (fun os started H enc _ => touched_lifted os started H enc)
#print axioms touched_holds

end Go.Proofs.Ytnnmmojlgikdgaa

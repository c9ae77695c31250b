/- Plain mathematics of the orders: no program. -/
import Derived.Test.YtliocbjmledfbaaHQ
namespace Go.Proofs.Ytliocbjmledfbaa

/-- Of the values that are left, behind some that are chosen: how many orders have at least a trend, and how many there are. -/
def ord (least : Int) : Nat → List Int → List Int → Int × Int
  | 0, ch, _ => (if least ≤ trL ch then 1 else 0, 1)
  | f + 1, ch, lf => (List.range lf.length).foldl (fun acc i => (acc.1 + (ord least f (ch ++ [lf[i]?.getD 0]) (lf.take i ++ lf.drop (i + 1))).1, acc.2 + (ord least f (ch ++ [lf[i]?.getD 0]) (lf.take i ++ lf.drop (i + 1))).2)) (0, 0)
/-- .. over the first k of them. -/
def ordN (least : Int) (f : Nat) (ch lf : List Int) : Nat → Int × Int
  | 0 => (0, 0)
  | i + 1 => ((ordN least f ch lf i).1 + (ord least f (ch ++ [lf[i]?.getD 0]) (lf.take i ++ lf.drop (i + 1))).1, (ordN least f ch lf i).2 + (ord least f (ch ++ [lf[i]?.getD 0]) (lf.take i ++ lf.drop (i + 1))).2)
theorem ord_succ (least : Int) (f : Nat) (ch lf : List Int) : ord least (f + 1) ch lf = ordN least f ch lf lf.length := by
  have key : ∀ n, (List.range n).foldl (fun acc i => (acc.1 + (ord least f (ch ++ [lf[i]?.getD 0]) (lf.take i ++ lf.drop (i + 1))).1, acc.2 + (ord least f (ch ++ [lf[i]?.getD 0]) (lf.take i ++ lf.drop (i + 1))).2)) (0, 0) = ordN least f ch lf n := by
    intro n
    induction n with
    | zero => rfl
    | succ n ih =>
      rw [List.range_succ, List.foldl_append, ih]
      simp only [List.foldl_cons, List.foldl_nil, ordN]
  rw [← key]
  rfl
theorem ord_pos (least : Int) (f : Nat) : ∀ ch lf, lf.length = f → 1 ≤ (ord least f ch lf).2 := by
  induction f with
  | zero => intro ch lf _; simp [ord]
  | succ f ih =>
    intro ch lf hl
    have key : ∀ n : Nat, n ≤ lf.length → (n : Int) ≤ (ordN least f ch lf n).2 := by
      intro n
      induction n with
      | zero => simp [ordN]
      | succ n ihn =>
        intro hn
        have a := ihn (by omega)
        have b := ih (ch ++ [lf[n]?.getD 0]) (lf.take n ++ lf.drop (n + 1)) (by simp; omega)
        simp only [ordN]
        omega
    rw [ord_succ]
    have := key lf.length (Nat.le_refl _)
    omega

/-- The values not yet used, among the first n. -/
def unE (V : List Int) (u : List Bool) (i : Nat) : List Int := if u[i]?.getD false then [] else [V[i]?.getD 0]
def unN (V : List Int) (u : List Bool) : Nat → List Int
  | 0 => []
  | i + 1 => unN V u i ++ unE V u i
theorem unN_same (V : List Int) (u : List Bool) (n : Nat) : ∀ m, m ≤ n → unN V (u.set n true) m = unN V u m := by
  intro m
  induction m with
  | zero => intro _; rfl
  | succ m ih =>
    intro h
    simp only [unN]
    rw [ih (by omega)]
    congr 1
    unfold unE
    rw [List.getElem?_set_ne (by omega)]
theorem unN_split (V : List Int) (u : List Bool) (n : Nat) (hu : n < u.length) : ∀ N, n < N → ∃ r, unN V u N = unN V u n ++ unE V u n ++ r ∧ unN V (u.set n true) N = unN V u n ++ r := by
  intro N
  induction N with
  | zero => intro h; omega
  | succ N ih =>
    intro h
    by_cases e : n = N
    · subst e
      refine ⟨[], by simp [unN], ?_⟩
      simp only [unN]
      rw [unN_same V u n n (Nat.le_refl _)]
      unfold unE
      simp [hu]
    · obtain ⟨r, h1, h2⟩ := ih (by omega)
      refine ⟨r ++ unE V u N, by simp only [unN]; rw [h1]; simp, ?_⟩
      simp only [unN]
      rw [h2]
      have : unE V (u.set n true) N = unE V u N := by unfold unE; rw [List.getElem?_set_ne e]
      rw [this]
      simp
theorem ext_ord (V : List Int) (least : Int) (f : Nat) : ∀ o u, V.length ≤ u.length → (unN V u V.length).length = f → ext V least f o u = ord least f o (unN V u V.length) := by
  induction f with
  | zero => intro o u _ _; rfl
  | succ f ih =>
    intro o u hu hl
    rw [ext_succ, ord_succ]
    obtain ⟨lf, hlf⟩ : ∃ lf, unN V u V.length = lf := ⟨_, rfl⟩
    rw [hlf] at hl ⊢
    have key : ∀ n, n ≤ V.length → extN V least f o u n = ordN least f o lf (unN V u n).length := by
      intro n
      induction n with
      | zero => intro _; rfl
      | succ n ihn =>
        intro hn
        have h0 := ihn (by omega)
        obtain ⟨r, h1, h2⟩ := unN_split V u n (by omega) V.length (by omega)
        rw [hlf] at h1
        cases hb : u[n]?.getD false with
        | true =>
          have e : unN V u (n + 1) = unN V u n := by simp only [unN]; unfold unE; rw [hb]; simp
          simp only [extN, hb, if_true]
          rw [e, h0]
        | false =>
          have e1 : unE V u n = [V[n]?.getD 0] := by unfold unE; rw [hb]; rfl
          have e : (unN V u (n + 1)).length = (unN V u n).length + 1 := by simp only [unN]; rw [e1]; simp
          rw [e1] at h1
          have hg : lf[(unN V u n).length]?.getD 0 = V[n]?.getD 0 := by rw [h1]; simp
          have ht : lf.take (unN V u n).length ++ lf.drop ((unN V u n).length + 1) = unN V u n ++ r := by
            rw [h1]
            simp
          have hr := ih (o ++ [V[n]?.getD 0]) (u.set n true) (by simpa using hu) (by
            rw [h2]
            have := congrArg List.length h1
            simp at this
            simp
            omega)
          rw [h2] at hr
          simp only [extN, hb, Bool.false_eq_true, if_false]
          rw [e]
          simp only [ordN]
          rw [hg, ht, ← hr, h0]
    rw [key V.length (Nat.le_refl _), hlf]
theorem unN_fresh (V : List Int) (n k : Nat) (h : n ≤ V.length) : unN V (List.replicate k false) n = V.take n := by
  induction n with
  | zero => simp [unN]
  | succ n ih =>
    simp only [unN]
    rw [ih (by omega)]
    have : unE V (List.replicate k false) n = [V[n]?.getD 0] := by
      unfold unE
      rw [if_neg]
      simp only [List.getElem?_replicate]
      split <;> simp
    rw [this, List.take_add_one, List.getElem?_eq_getElem (by omega)]
    rfl
theorem lst_ord (V : List Int) (h : V.length ≤ 8) : ext V (trL V) V.length [] (List.replicate 8 false) = ord (trL V) V.length [] V := by
  have e := unN_fresh V V.length 8 (Nat.le_refl _)
  rw [List.take_length] at e
  rw [ext_ord V (trL V) V.length [] (List.replicate 8 false) (by simpa using h) (by rw [e]), e]
theorem ord_bd (least : Int) (f : Nat) : ∀ ch lf, lf.length = f → f ≤ 8 → (0 ≤ (ord least f ch lf).1 ∧ (ord least f ch lf).1 ≤ 8 ^ f) ∧ (0 ≤ (ord least f ch lf).2 ∧ (ord least f ch lf).2 ≤ 8 ^ f) := by
  induction f with
  | zero => intro ch lf _ _; simp only [ord]; split <;> simp
  | succ f ih =>
    intro ch lf hl hf
    have key : ∀ n : Nat, n ≤ lf.length → (0 ≤ (ordN least f ch lf n).1 ∧ (ordN least f ch lf n).1 ≤ n * 8 ^ f) ∧ (0 ≤ (ordN least f ch lf n).2 ∧ (ordN least f ch lf n).2 ≤ n * 8 ^ f) := by
      intro n
      induction n with
      | zero => simp [ordN]
      | succ n ihn =>
        intro hn
        have a := ihn (by omega)
        have h := ih (ch ++ [lf[n]?.getD 0]) (lf.take n ++ lf.drop (n + 1)) (by simp; omega) (by omega)
        have e : ((n + 1 : Nat) : Int) * 8 ^ f = n * 8 ^ f + 8 ^ f := by grind
        simp only [ordN]
        omega
    rw [ord_succ]
    have h := key lf.length (Nat.le_refl _)
    have p : (0 : Int) ≤ 8 ^ f := by have : (0 : Int) < 8 ^ f := Int.pow_pos (by omega); omega
    have h8 : ((lf.length : Nat) : Int) * 8 ^ f ≤ 8 * 8 ^ f := Int.mul_le_mul_of_nonneg_right (by omega) p
    have e : (8 : Int) ^ (f + 1) = 8 * 8 ^ f := by rw [Int.pow_succ]; omega
    omega
end Go.Proofs.Ytliocbjmledfbaa

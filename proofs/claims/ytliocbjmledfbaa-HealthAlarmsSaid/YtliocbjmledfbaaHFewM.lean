/- The fewest explanations: plain mathematics. -/
import Derived.Test.YtliocbjmledfbaaHPop2
namespace Go.Proofs.Ytliocbjmledfbaa

abbrev Ex := Nat × Nat
/-- The gears that are needed besides some sensors, for the first j cells. -/
def wornN (L : List (Int × Int)) (a : Nat) : Nat → Nat
  | 0 => 0
  | j + 1 => if a.testBit (L[j]?.getD (0, 0)).1.toNat then wornN L a j else wornN L a j ||| 2 ^ (L[j]?.getD (0, 0)).2.toNat
def szE (x : Ex) : Nat := pc x.1 + pc x.2
def stepE (l : List Ex) (x : Ex) : List Ex :=
  match l with
  | [] => [x]
  | y :: r => if szE x < szE y then [x] else if szE x = szE y then y :: r ++ [x] else y :: r
def fewN (L : List (Int × Int)) : Nat → List Ex
  | 0 => []
  | n + 1 => stepE (fewN L n) (n, wornN L n L.length)
theorem wornN_bd {L : List (Int × Int)} (h : ∀ p ∈ L, p.2 < 12) (a j : Nat) : wornN L a j < 4096 := by
  induction j with
  | zero => simp [wornN]
  | succ j ih =>
    simp only [wornN]
    split
    · exact ih
    · have hp : (L[j]?.getD (0, 0)).2.toNat < 12 := by
        cases e : L[j]? with
        | none => simp
        | some p => have := h p (List.mem_of_getElem? e); simp; omega
      have : 2 ^ (L[j]?.getD (0, 0)).2.toNat < 2 ^ 12 := Nat.pow_lt_pow_right (by omega) hp
      exact Nat.or_lt_two_pow (n := 12) ih this
theorem pc_le (s : Nat) : pc s ≤ 12 := Nat.le_trans (List.length_filter_le _ _) (by simp)
theorem stepE_nil (x : Ex) : stepE [] x = [x] := rfl
theorem stepE_less {l : List Ex} {x y : Ex} (h : l[0]? = some y) (hs : szE x < szE y) : stepE l x = [x] := by
  cases l with
  | nil => simp at h
  | cons z r => simp at h; subst h; simp [stepE, hs]
theorem stepE_same {l : List Ex} {x y : Ex} (h : l[0]? = some y) (hs : szE x = szE y) : stepE l x = l ++ [x] := by
  cases l with
  | nil => simp at h
  | cons z r => simp at h; subst h; simp [stepE, hs]
theorem stepE_more {l : List Ex} {x y : Ex} (h : l[0]? = some y) (hs : szE y < szE x) : stepE l x = l := by
  cases l with
  | nil => simp at h
  | cons z r => simp at h; subst h; show (if szE x < szE z then [x] else if szE x = szE z then z :: r ++ [x] else z :: r) = _; rw [if_neg (by omega), if_neg (by omega)]
theorem stepE_len (l : List Ex) (x : Ex) : (stepE l x).length ≤ l.length + 1 := by
  cases l with
  | nil => simp [stepE]
  | cons y r =>
    simp only [stepE]
    split
    · simp
    · split <;> simp
theorem fewN_len (L : List (Int × Int)) (n : Nat) : (fewN L n).length ≤ n := by
  induction n with
  | zero => simp [fewN]
  | succ n ih => simp only [fewN]; have := stepE_len (fewN L n) (n, wornN L n L.length); omega
theorem fewN_mem {L : List (Int × Int)} {n : Nat} {x : Ex} (h : x ∈ fewN L n) : x.1 < n ∧ x.2 = wornN L x.1 L.length := by
  induction n with
  | zero => simp [fewN] at h
  | succ n ih =>
    simp only [fewN] at h
    have key : x = (n, wornN L n L.length) ∨ x ∈ fewN L n := by
      cases e : fewN L n with
      | nil => rw [e] at h; simp [stepE] at h; exact .inl h
      | cons y r =>
        rw [e] at h
        simp only [stepE] at h
        split at h
        · simp at h; exact .inl h
        · split at h
          · simp at h; rcases h with h | h | h
            · exact .inr (by simp [h])
            · exact .inr (by simp [h])
            · exact .inl h
          · exact .inr h
    rcases key with rfl | h
    · exact ⟨by simp, rfl⟩
    · exact ⟨by have := (ih h).1; omega, (ih h).2⟩
end Go.Proofs.Ytliocbjmledfbaa

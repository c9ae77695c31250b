/- Plain mathematics of Changed: no program. -/
import Derived.Test.YtliocbjmledfbaaHTab
import Derived.Test.YtliocbjmledfbaaHT
namespace Go.Proofs.Ytliocbjmledfbaa

def at2 (V : List (List Int)) (s k : Nat) : Int := ((V[s]?.getD [])[k]?).getD 0
def chB (V W : List (List Int)) (p : Int) (s k : Nat) : Bool := decide (p * at2 V s k < absZ (at2 W s k - at2 V s k) * 100)
def chK (V W : List (List Int)) (p : Int) (s : Nat) : Nat → List (Int × Int)
  | 0 => []
  | k + 1 => chK V W p s k ++ if chB V W p s k then [((s : Int), (k : Int))] else []
def chS (V W : List (List Int)) (p : Int) : Nat → List (Int × Int)
  | 0 => []
  | s + 1 => chS V W p s ++ chK V W p s (hdN V)
def chN (V W : List (List Int)) (p : Int) : List (Int × Int) × Int :=
  if tabsB V W then (if decide (0 ≤ p ∧ p ≤ 10000) then (chS V W p V.length, 0) else ([], 1)) else ([], 81)
theorem chK_len (V W : List (List Int)) (p : Int) (s k : Nat) : (chK V W p s k).length ≤ k := by
  induction k with
  | zero => simp [chK]
  | succ k ih =>
    simp only [chK, List.length_append]
    split <;> simp <;> omega
theorem chS_len (V W : List (List Int)) (p : Int) (s : Nat) : (chS V W p s).length ≤ s * hdN V := by
  induction s with
  | zero => simp [chS]
  | succ s ih =>
    simp only [chS, List.length_append]
    have := chK_len V W p s (hdN V)
    rw [Nat.succ_mul]
    omega
theorem chSK_len {V W : List (List Int)} {p : Int} {s k : Nat} (hs : s ≤ 8) (hm : hdN V ≤ 12) (hk : k ≤ 12) : (chS V W p s ++ chK V W p s k).length ≤ 1000000 := by
  have h1 := chS_len V W p s
  have h2 := chK_len V W p s k
  have h3 : s * hdN V ≤ 8 * 12 := Nat.mul_le_mul hs hm
  rw [List.length_append]
  omega
/-- Tables, taken apart. -/
structure TT (V W : List (List Int)) : Prop where
  n1 : 1 ≤ V.length
  n8 : V.length ≤ 8
  n : W.length = V.length
  m1 : 1 ≤ hdN V
  m12 : hdN V ≤ 12
  v : ∀ r ∈ V, r.length = hdN V ∧ wB 0 1000000 r = true
  w : ∀ r ∈ W, r.length = hdN V ∧ wB 0 1000000 r = true
theorem TT.get {V W : List (List Int)} (h : tabsB V W = true) : TT V W := by
  unfold tabsB at h
  simp only [Bool.and_eq_true, decide_eq_true_eq, List.all_eq_true] at h
  obtain ⟨⟨⟨h1, h2⟩, h3⟩, h4, h5⟩ := h
  have ok : ∀ r, okR V r = true → (r.length = hdN V ∧ wB 0 1000000 r = true) ∧ 1 ≤ r.length ∧ r.length ≤ 12 := fun r hr => by
    unfold okR at hr
    simp only [Bool.and_eq_true, decide_eq_true_eq] at hr
    exact ⟨⟨hr.1, hr.2.2⟩, hr.2.1⟩
  have h0 := ok V[0] (h4 _ (List.getElem_mem (by omega)))
  exact ⟨h1, h2, h3, by omega, by omega, fun r hr => (ok r (h4 r hr)).1, fun r hr => (ok r (h5 r hr)).1⟩
theorem at2_of {V : List (List Int)} {s k : Nat} {r : List Int} {x : Int} (hr : V[s]? = some r) (hx : r[k]? = some x) : at2 V s k = x := by
  unfold at2
  rw [hr]
  simp [hx]
theorem chN_no {V W : List (List Int)} {p : Int} (h : tabsB V W = false) : chN V W p = ([], 81) := by unfold chN; simp [h]
theorem chN_bad {V W : List (List Int)} {p : Int} (h : tabsB V W = true) (hp : ¬ (0 ≤ p ∧ p ≤ 10000)) : chN V W p = ([], 1) := by unfold chN; rw [if_pos h, if_neg (by simpa using hp)]
theorem chN_yes {V W : List (List Int)} {p : Int} (h : tabsB V W = true) (hp : 0 ≤ p ∧ p ≤ 10000) : chN V W p = (chS V W p V.length, 0) := by unfold chN; rw [if_pos h, if_pos (by simpa using hp)]
theorem chN_len {V W : List (List Int)} {p : Int} : (chN V W p).1.length ≤ 1000000 := by
  cases h : tabsB V W with
  | false => rw [chN_no h]; simp
  | true =>
    have t := TT.get h
    by_cases hp : 0 ≤ p ∧ p ≤ 10000
    · rw [chN_yes h hp]
      have h1 := chS_len V W p V.length
      have h3 : V.length * hdN V ≤ 8 * 12 := Nat.mul_le_mul t.n8 t.m12
      show (chS V W p V.length).length ≤ 1000000
      omega
    · rw [chN_bad h hp]; simp
/-- As the reference says it. -/
theorem tabsB_ref (V W : List (List Int)) : tabsB V W = (((tabB V && tabB W) && decide (V.length = W.length)) && decide (hdN V = hdN W)) := by
  by_cases hn : W.length = V.length
  · by_cases h1 : 1 ≤ V.length ∧ V.length ≤ 8
    · by_cases hd : hdN V = hdN W
      · have e : okR W = okR V := by funext r; unfold okR; rw [hd]
        unfold tabsB tabB
        rw [e, hn]
        simp [hd, h1]
      · have : W.all (okR V) = false := by
          have h0 : 0 < W.length := by omega
          refine all_no (k := 0) (List.getElem?_eq_getElem h0) ?_
          unfold okR
          have : W[0].length = hdN W := by unfold hdN; rw [List.getElem?_eq_getElem h0]; rfl
          simp only [Bool.and_eq_false_iff, decide_eq_false_iff_not]
          left
          omega
        unfold tabsB
        simp [this, hd]
    · unfold tabsB tabB
      simp [h1]
  · unfold tabsB
    simp only [hn, decide_false, Bool.and_false, Bool.false_and]
    rw [show decide (V.length = W.length) = false by simp; omega]
    simp
end Go.Proofs.Ytliocbjmledfbaa

/- Plain mathematics of trends: no program. -/
import Derived.Test.YtliocbjmledfbaaHP
namespace Go.Proofs.Ytliocbjmledfbaa

/-- How a value compares. -/
def cmpI (a b : Int) : Int := if a < b then -1 else if a = b then 0 else 1
/-- How many more of b are less than v than greater. -/
def risN (b : List Int) (v : Int) : Int := (b.map (cmpI v)).sum
def trN (V : List Int) : Nat → Int
  | 0 => 0
  | n + 1 => trN V n + risN (V.take n) (V[n]?.getD 0)
def trL (V : List Int) : Int := trN V V.length

theorem cmpI_bd (a b : Int) : -1 ≤ cmpI a b ∧ cmpI a b ≤ 1 := by
  unfold cmpI
  split
  · omega
  · split <;> omega
theorem risN_step {b : List Int} {k : Nat} {x v : Int} (h : b[k]? = some x) : risN (b.take (k + 1)) v = risN (b.take k) v + cmpI v x := by
  unfold risN
  rw [List.take_add_one, h]
  simp
theorem risN_bd (b : List Int) (v : Int) : -(b.length : Int) ≤ risN b v ∧ risN b v ≤ b.length := by
  unfold risN
  induction b with
  | nil => simp
  | cons x b ih =>
    have := cmpI_bd v x
    simp only [List.map_cons, List.sum_cons, List.length_cons]
    omega
theorem trN_bd (V : List Int) (n : Nat) (h : n ≤ V.length) : -(n * n : Int) ≤ trN V n ∧ trN V n ≤ n * n := by
  induction n with
  | zero => simp [trN]
  | succ n ih =>
    have := ih (by omega)
    have h2 := risN_bd (V.take n) (V[n]?.getD 0)
    have h3 : (V.take n).length = n := by rw [List.length_take]; omega
    rw [h3] at h2
    simp only [trN]
    have e : ((n + 1 : Nat) : Int) * ((n + 1 : Nat) : Int) = n * n + 2 * n + 1 := by grind
    omega
theorem trN_take (V : List Int) (n m : Nat) (h : n ≤ m) : trN (V.take m) n = trN V n := by
  induction n with
  | zero => rfl
  | succ n ih =>
    simp only [trN]
    rw [ih (by omega), List.take_take, show min n m = n by omega, List.getElem?_take_of_lt (by omega)]
theorem trL_snoc (o : List Int) (v : Int) : trL (o ++ [v]) = trL o + risN o v := by
  unfold trL
  rw [List.length_append]
  show trN (o ++ [v]) o.length + _ = _
  rw [← trN_take (o ++ [v]) o.length o.length (by omega), List.take_left]
  simp

/-! ### All orders -/
/-- Of the values not yet used, behind some that are chosen: how many orders have at least a trend, and how many there are. -/
def ext (V : List Int) (least : Int) : Nat → List Int → List Bool → Int × Int
  | 0, o, _ => (if least ≤ trL o then 1 else 0, 1)
  | f + 1, o, u => (List.range V.length).foldl (fun acc i => if u[i]?.getD false then acc else (acc.1 + (ext V least f (o ++ [V[i]?.getD 0]) (u.set i true)).1, acc.2 + (ext V least f (o ++ [V[i]?.getD 0]) (u.set i true)).2)) (0, 0)
/-- .. after the first n values. -/
def extN (V : List Int) (least : Int) (f : Nat) (o : List Int) (u : List Bool) : Nat → Int × Int
  | 0 => (0, 0)
  | i + 1 => if u[i]?.getD false then extN V least f o u i else ((extN V least f o u i).1 + (ext V least f (o ++ [V[i]?.getD 0]) (u.set i true)).1, (extN V least f o u i).2 + (ext V least f (o ++ [V[i]?.getD 0]) (u.set i true)).2)
theorem ext_succ (V : List Int) (least : Int) (f : Nat) (o : List Int) (u : List Bool) : ext V least (f + 1) o u = extN V least f o u V.length := by
  have key : ∀ n, (List.range n).foldl (fun acc i => if u[i]?.getD false then acc else (acc.1 + (ext V least f (o ++ [V[i]?.getD 0]) (u.set i true)).1, acc.2 + (ext V least f (o ++ [V[i]?.getD 0]) (u.set i true)).2)) (0, 0) = extN V least f o u n := by
    intro n
    induction n with
    | zero => rfl
    | succ n ih =>
      rw [List.range_succ, List.foldl_append, ih]
      simp only [List.foldl_cons, List.foldl_nil, extN]
  rw [← key]
  rfl
/-- The orders of n values are at most n^n. -/
theorem ext_bd (V : List Int) (least : Int) (hV : V.length ≤ 8) (f : Nat) : ∀ o u, (0 ≤ (ext V least f o u).1 ∧ (ext V least f o u).1 ≤ 8 ^ f) ∧ (0 ≤ (ext V least f o u).2 ∧ (ext V least f o u).2 ≤ 8 ^ f) := by
  induction f with
  | zero => intro o u; simp only [ext]; split <;> simp
  | succ f ih =>
    intro o u
    have key : ∀ n : Nat, (0 ≤ (extN V least f o u n).1 ∧ (extN V least f o u n).1 ≤ n * 8 ^ f) ∧ (0 ≤ (extN V least f o u n).2 ∧ (extN V least f o u n).2 ≤ n * 8 ^ f) := by
      intro n
      induction n with
      | zero => simp [extN]
      | succ n ihn =>
        have h := ih (o ++ [V[n]?.getD 0]) (u.set n true)
        have e : ((n + 1 : Nat) : Int) * 8 ^ f = n * 8 ^ f + 8 ^ f := by grind
        have p : (0 : Int) ≤ 8 ^ f := by have : (0 : Int) < 8 ^ f := Int.pow_pos (by omega); omega
        unfold extN
        generalize (8 : Int) ^ f = E at *
        generalize (n : Int) * E = F at *
        rw [e]
        split
        · omega
        · dsimp only
          omega
    have h := key V.length
    rw [ext_succ]
    have e : (8 : Int) ^ (f + 1) = 8 * 8 ^ f := by grind
    have p : (0 : Int) ≤ 8 ^ f := by have : (0 : Int) < 8 ^ f := Int.pow_pos (by omega); omega
    have : (V.length : Int) * 8 ^ f ≤ 8 * 8 ^ f := Int.mul_le_mul_of_nonneg_right (by omega) p
    omega
theorem extN_bd (V : List Int) (least : Int) (hV : V.length ≤ 8) (f : Nat) (o : List Int) (u : List Bool) (n : Nat) :
    (0 ≤ (extN V least f o u n).1 ∧ (extN V least f o u n).1 ≤ n * 8 ^ f) ∧ (0 ≤ (extN V least f o u n).2 ∧ (extN V least f o u n).2 ≤ n * 8 ^ f) := by
  induction n with
  | zero => simp [extN]
  | succ n ihn =>
    have h := ext_bd V least hV f (o ++ [V[n]?.getD 0]) (u.set n true)
    have e : ((n + 1 : Nat) : Int) * 8 ^ f = n * 8 ^ f + 8 ^ f := by grind
    have p : (0 : Int) ≤ 8 ^ f := by have : (0 : Int) < 8 ^ f := Int.pow_pos (by omega); omega
    unfold extN
    generalize (8 : Int) ^ f = E at *
    generalize (n : Int) * E = F at *
    rw [e]
    split
    · omega
    · dsimp only
      omega
theorem extN_used {V : List Int} {least : Int} {f : Nat} {o : List Int} {u : List Bool} {k : Nat} (h : u[k]? = some true) : extN V least f o u (k + 1) = extN V least f o u k := by
  simp only [extN, h, Option.getD_some, if_true]
theorem extN_free {V : List Int} {least : Int} {f : Nat} {o : List Int} {u : List Bool} {k : Nat} {x : Int} (h : u[k]? = some false) (hx : V[k]? = some x) : extN V least f o u (k + 1) = ((extN V least f o u k).1 + (ext V least f (o ++ [x]) (u.set k true)).1, (extN V least f o u k).2 + (ext V least f (o ++ [x]) (u.set k true)).2) := by
  simp only [extN, h, hx, Option.getD_some]
  simp
end Go.Proofs.Ytliocbjmledfbaa

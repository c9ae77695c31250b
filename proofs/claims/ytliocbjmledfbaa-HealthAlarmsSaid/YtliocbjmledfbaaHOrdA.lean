/- A row that grows from operation to operation, in a drawn region. -/
import Derived.Test.YtliocbjmledfbaaHTrendR
import Derived.Test.YtliocbjmledfbaaHTailA
import Derived.Test.YtliocbjmledfbaaHRes
import Derived.Laws.OwnMore
namespace Go.Proofs.Ytliocbjmledfbaa
open Go.RowKit

/-- append(s, y..), s the call's own, y any row. -/
theorem step_app {F : Fence} {n : Nat} {w : World} {o : Oper} {a : Act} {K : Act → World → Prop} {Q : Exit → Act → World → Prop} (s x : Operand)
    (hop : o.op = .call { callee := .builtin .append, args := #[s, x], argTypes := #[22, 22] }) (base : Nat) (v : Value) (xs : List Int) (hs : a.eval s = v) (hown : OI base v xs w)
    (b off c : Nat) (l : List Int) (hx : a.eval x = .slice (some ⟨b, off, none⟩) l.length c) (hc : ∀ j y, l[j]? = some y → w.cell? ⟨b, off + j, none⟩ = some (.int .i64 y)) (hlen : xs.length + l.length ≤ 1000000) (hbase : base ≤ w.heap.size)
    (h : ∀ v' w', OI base v' (xs ++ l) w' → w.grownBy w' v.ownBlock → K (a.put o.dst v') w') : o.wpIn F n Try.prog a w K Q := by
  obtain ⟨i0, hi0, hz0, hz1, hz2⟩ := info_parts info_int
  obtain ⟨v', w', hrun, r1, r2, _⟩ := run_append_own (P := Try.prog) w base 22 o.type 3 i0 (.int .i64 0) 1 8 Try.underlying22 hi0 hz0 hz1 hz2 rfl (by decide) v xs.length _ hown ⟨b, off, none⟩ l.length c (l.map (Value.int .i64)) (by simp) (fun j u hu => (by
    simp only [List.getElem?_map, Option.map_eq_some_iff] at hu
    obtain ⟨y, hy, rfl⟩ := hu
    by_cases hj0 : j = 0
    · subst hj0
      simpa [Addr.add] using hc 0 y hy
    · simpa [Addr.add, hj0] using hc j y hy)) (fun u hu => (by simp only [List.mem_map] at hu; obtain ⟨y, _, rfl⟩ := hu; rfl)) (by unfold maxLen; omega) (by omega) hbase
  have r1' : OI base v' (xs ++ l) w' := by simpa [OI] using r1
  unfold Oper.wpIn
  refine ⟨?_, ?_⟩
  · simp [Oper.about, hop, resolve, Target.leads, Sem.run_pure]
  · rw [Oper.semAt_plain F _ _ (by rw [hop]; intro c hc'; cases hc')]
    simp [execOp, hop, resolve, invoke, builtin, hs, hx, hrun, Result.andThen]
    exact h _ _ r1' r2

theorem step_app_none {F : Fence} {n : Nat} {w : World} {o : Oper} {a : Act} {K : Act → World → Prop} {Q : Exit → Act → World → Prop} (s x : Operand)
    (hop : o.op = .call { callee := .builtin .append, args := #[s, x], argTypes := #[22, 22] }) (base : Nat) (v : Value) (xs : List Int) (hs : a.eval s = v) (hown : OI base v xs w) (hx : a.eval x = .slice none 0 0)
    (h : K (a.put o.dst v) w) : o.wpIn F n Try.prog a w K Q := by
  obtain ⟨i0, hi0, hz0, hz1, hz2⟩ := info_parts info_int
  have hrun := run_append_owned_none (P := Try.prog) (w := w) base 22 o.type 3 i0 1 Try.underlying22 hi0 v xs.length _ hown
  unfold Oper.wpIn
  refine ⟨?_, ?_⟩
  · simp [Oper.about, hop, resolve, Target.leads, Sem.run_pure]
  · rw [Oper.semAt_plain F _ _ (by rw [hop]; intro c hc'; cases hc')]
    simp [execOp, hop, resolve, invoke, builtin, hs, hx, hrun, Result.andThen]
    exact h
/-- A row, or none. -/
def QN (l : List Int) (v : Value) (W : World) : Prop := (v = .slice none 0 0 ∧ l = []) ∨ ∃ b off c, v = .slice (some ⟨b, off, none⟩) l.length c ∧ l.length ≤ c ∧ RI W W.heap.size (some ⟨b, off, none⟩) l
theorem QN.qi {l : List Int} {v : Value} {W : World} (h : QN l v W) : ∃ A c, v = .slice A l.length c ∧ l.length ≤ c ∧ RI W W.heap.size A l := by
  rcases h with ⟨rfl, rfl⟩ | ⟨b, off, c, e, hr⟩
  · exact ⟨none, 0, rfl, Nat.le_refl _, RV.nil⟩
  · exact ⟨_, c, e, hr⟩
theorem QN.stay {l : List Int} {v : Value} {W W' : World} (h : QN l v W) (hb : Below W.heap.size W W') : QN l v W' := by
  rcases h with h | ⟨b, off, c, e, hlc, hr⟩
  · exact .inl h
  · exact .inr ⟨b, off, c, e, hlc, (hr.below hb).more hb.size⟩
theorem OI.qn {base : Nat} {v : Value} {l : List Int} {w : World} (h : OI base v l w) : QN l v w := by
  rcases h.2 with ⟨rfl, e⟩ | ⟨g, cap, cur, rfl, _, _, _, _⟩
  · exact .inl ⟨rfl, by simpa using e⟩
  · obtain ⟨A, c, e, hlc, hr⟩ := h.ri
    cases e
    exact .inr ⟨g, 0, _, rfl, hlc, hr⟩
/-- append(nil, y..), y a row or none. -/
theorem step_copy {F : Fence} {n : Nat} {w : World} {o : Oper} {a : Act} {K : Act → World → Prop} {Q : Exit → Act → World → Prop} (x : Operand)
    (hop : o.op = .call { callee := .builtin .append, args := #[.const (.slice none 0 0), x], argTypes := #[22, 22] }) (base : Nat) (l : List Int) (y : Value) (hx : a.eval x = y) (hy : QN l y w) (hlen : l.length ≤ 1000000) (hbase : base ≤ w.heap.size)
    (h : ∀ v' w', OI base v' l w' → Below w.heap.size w w' → K (a.put o.dst v') w') : o.wpIn F n Try.prog a w K Q := by
  rcases hy with ⟨rfl, rfl⟩ | ⟨b, off, c, rfl, _, hr⟩
  · exact step_app_none _ x hop base (.slice none 0 0) [] rfl OI.nil hx (h _ _ OI.nil (Below.refl _ _))
  · refine step_app _ x hop base (.slice none 0 0) [] rfl OI.nil b off c l hx (fun j u hu => ?_) (by simpa using hlen) hbase fun v' w' ho hg => h v' w' (by simpa using ho) (OI.below (OI.nil (base := w.heap.size)) hg (Below.refl _ _) (Nat.le_refl _) (Nat.le_refl _))
    have hj := (List.getElem?_eq_some_iff.1 hu).1
    obtain ⟨b', off', z, e, _, hx', hc⟩ := hr.at_ (k := j) hj
    obtain ⟨rfl, rfl⟩ : b = b' ∧ off = off' := by simpa using e
    rw [hu] at hx'
    cases hx'
    exact hc

/-- The row's life: empty before operation i, l1 behind it, l1 ++ l2 behind operation j; the integer x that operation m makes a row of, until j; and operation q assigns the row. -/
structure RO (Q : Nat → Value → Prop) (W0 : World) (i j m q : Nat) (x : Int) (l1 l2 : List Int) (val : Nat → Value) (L : Array Bool) (W : World) : Prop where
  below : Below W0.heap.size W0 W
  vals : ∀ k, L.getD k false = true → Q k (val k)
  one : L.getD i false = true → L.getD j false = false → OI W0.heap.size (val i) l1 W
  new : L.getD m false = true → L.getD j false = false → HasOne (val m) x W
  two : L.getD j false = true → OI W0.heap.size (val j) (l1 ++ l2) W
  asg : L.getD q false = true → val q = val j
section
variable {Q : Nat → Value → Prop} {W0 W W' : World} {i j m q k : Nat} {x : Int} {l1 l2 : List Int} {v : Value} {val : Nat → Value} {L : Array Bool}
theorem RO.start (Q : Nat → Value → Prop) (W0 : World) (i j m q : Nat) (x : Int) (l1 l2 : List Int) (n : Nat) : RO Q W0 i j m q x l1 l2 (fun _ => undef) (Array.replicate n false) W0.drew :=
  ⟨(Below.refl _ _).drew, fun k h => (by rw [getD_replicate_no] at h; cases h), fun h => (by rw [getD_replicate_no] at h; cases h), fun h => (by rw [getD_replicate_no] at h; cases h), fun h => (by rw [getD_replicate_no] at h; cases h), fun _ => rfl⟩
theorem RO.vals_step (h : RO Q W0 i j m q x l1 l2 val L W) (hq : Q k v) : ∀ m, (L.setIfInBounds k true).getD m false = true → Q m (upd val k v m) := fun m hm => by
  by_cases e : m = k
  · subst e
    rw [upd_same]
    exact hq
  · rw [upd_other e]
    rw [getD_set_other (fun h => e h.symm)] at hm
    exact h.vals m hm
theorem RO.step (h : RO Q W0 i j m q x l1 l2 val L W) (hi : k ≠ i) (hj : k ≠ j) (hm : k ≠ m) (hqk : k ≠ q) (hb : Below W.heap.size W W') (hq : Q k v) : RO Q W0 i j m q x l1 l2 (upd val k v) (L.setIfInBounds k true) W' := by
  refine ⟨h.below.trans (hb.mono h.below.size), h.vals_step hq, fun h1 h2 => ?_, fun h1 h2 => ?_, fun h1 => ?_, fun h1 => ?_⟩
  · rw [getD_set_other hi] at h1
    rw [getD_set_other hj] at h2
    rw [upd_other (fun e => hi e.symm)]
    exact (h.one h1 h2).stay hb
  · rw [getD_set_other hm] at h1
    rw [getD_set_other hj] at h2
    rw [upd_other (fun e => hm e.symm)]
    exact (h.new h1 h2).stay hb
  · rw [getD_set_other hj] at h1
    rw [upd_other (fun e => hj e.symm)]
    exact (h.two h1).stay hb
  · rw [getD_set_other hqk] at h1
    rw [upd_other (fun e => hqk e.symm), upd_other (fun e => hj e.symm)]
    exact h.asg h1
theorem RO.first (h : RO Q W0 i j m q x l1 l2 val L W) (hij : i ≠ j) (him : i ≠ m) (hiq : i ≠ q) (hN : L.getD j false = false) (hb : Below W.heap.size W W') (hq : Q i v) (ho : OI W0.heap.size v l1 W') : RO Q W0 i j m q x l1 l2 (upd val i v) (L.setIfInBounds i true) W' := by
  refine ⟨h.below.trans (hb.mono h.below.size), h.vals_step hq, fun _ _ => ?_, fun h1 h2 => ?_, fun h1 => ?_, fun h1 => ?_⟩
  · rw [upd_same]
    exact ho
  · rw [getD_set_other him] at h1
    rw [getD_set_other hij] at h2
    rw [upd_other (fun e => him e.symm)]
    exact (h.new h1 h2).stay hb
  · rw [getD_set_other hij, hN] at h1
    cases h1
  · rw [getD_set_other hiq] at h1
    rw [upd_other (fun e => hiq e.symm), upd_other (fun e => hij e.symm)]
    exact h.asg h1
theorem RO.made (h : RO Q W0 i j m q x l1 l2 val L W) (hmj : m ≠ j) (him : m ≠ i) (hmq : m ≠ q) (hb : Below W.heap.size W W') (hq : Q m v) (ho : HasOne v x W') : RO Q W0 i j m q x l1 l2 (upd val m v) (L.setIfInBounds m true) W' := by
  refine ⟨h.below.trans (hb.mono h.below.size), h.vals_step hq, fun h1 h2 => ?_, fun _ _ => ?_, fun h1 => ?_, fun h1 => ?_⟩
  · rw [getD_set_other him] at h1
    rw [getD_set_other hmj] at h2
    rw [upd_other (fun e => him e.symm)]
    exact (h.one h1 h2).stay hb
  · rw [upd_same]
    exact ho
  · rw [getD_set_other hmj] at h1
    rw [upd_other (fun e => hmj e.symm)]
    exact (h.two h1).stay hb
  · rw [getD_set_other hmq] at h1
    rw [upd_other (fun e => hmq e.symm), upd_other (fun e => hmj e.symm)]
    exact h.asg h1
theorem RO.second (h : RO Q W0 i j m q x l1 l2 val L W) (hjq : j ≠ q) (hj : j < L.size) (hN : L.getD q false = false) (hb : Below W0.heap.size W0 W') (hq : Q j v) (ho : OI W0.heap.size v (l1 ++ l2) W') : RO Q W0 i j m q x l1 l2 (upd val j v) (L.setIfInBounds j true) W' := by
  refine ⟨hb, h.vals_step hq, fun _ h2 => ?_, fun _ h2 => ?_, fun _ => ?_, fun h1 => ?_⟩
  · rw [getD_set_eq hj] at h2
    cases h2
  · rw [getD_set_eq hj] at h2
    cases h2
  · rw [upd_same]
    exact ho
  · rw [getD_set_other hjq, hN] at h1
    cases h1
theorem RO.assign (h : RO Q W0 i j m q x l1 l2 val L W) (hqi : q ≠ i) (hqj : q ≠ j) (hqm : q ≠ m) (hq : Q q (val j)) : RO Q W0 i j m q x l1 l2 (upd val q (val j)) (L.setIfInBounds q true) W := by
  refine ⟨h.below, h.vals_step hq, fun h1 h2 => ?_, fun h1 h2 => ?_, fun h1 => ?_, fun _ => ?_⟩
  · rw [getD_set_other hqi] at h1
    rw [getD_set_other hqj] at h2
    rw [upd_other (fun e => hqi e.symm)]
    exact h.one h1 h2
  · rw [getD_set_other hqm] at h1
    rw [getD_set_other hqj] at h2
    rw [upd_other (fun e => hqm e.symm)]
    exact h.new h1 h2
  · rw [getD_set_other hqj] at h1
    rw [upd_other (fun e => hqj e.symm)]
    exact h.two h1
  · rw [upd_same, upd_other (fun e => hqj e.symm)]
theorem getD_out {L : Array Bool} {k : Nat} (h : L.size ≤ k) : L.getD k false = false := by simp [Array.getElem?_eq_none h]
end
theorem RI.drop {w : World} {B b off : Nat} {xs : List Int} (h : RI w B (some ⟨b, off, none⟩) xs) (k : Nat) {j : Nat} {y : Int} (hy : (xs.drop k)[j]? = some y) : w.cell? ⟨b, off + k + j, none⟩ = some (.int .i64 y) := by
  rw [List.getElem?_drop] at hy
  have hj := (List.getElem?_eq_some_iff.1 hy).1
  obtain ⟨b', off', x, e, _, hx, hc⟩ := h.at_ (k := k + j) hj
  obtain ⟨rfl, rfl⟩ : b = b' ∧ off = off' := by simpa using e
  rw [hy] at hx
  cases hx
  rw [Nat.add_assoc]
  exact hc
/-- What a slice's part reads as. -/
theorem RI.part {w : World} {B b off : Nat} {xs : List Int} (h : RI w B (some ⟨b, off, none⟩) xs) {j : Nat} {y : Int} (hy : xs[j]? = some y) : w.cell? ⟨b, off + j, none⟩ = some (.int .i64 y) := by
  have hj := (List.getElem?_eq_some_iff.1 hy).1
  obtain ⟨b', off', x, e, _, hx, hc⟩ := h.at_ (k := j) hj
  obtain ⟨rfl, rfl⟩ : b = b' ∧ off = off' := by simpa using e
  rw [hy] at hx
  cases hx
  exact hc
theorem ordN_bd (least : Int) (f : Nat) (ch lf : List Int) (hl : lf.length = f + 1) (hf : f + 1 ≤ 8) (n : Nat) (hn : n ≤ lf.length) : (0 ≤ (ordN least f ch lf n).1 ∧ (ordN least f ch lf n).1 ≤ 16777216) ∧ (0 ≤ (ordN least f ch lf n).2 ∧ (ordN least f ch lf n).2 ≤ 16777216) := by
  have p : (0 : Int) ≤ 8 ^ f := by have : (0 : Int) < 8 ^ f := Int.pow_pos (by omega); omega
  have key : ∀ n : Nat, n ≤ lf.length → (0 ≤ (ordN least f ch lf n).1 ∧ (ordN least f ch lf n).1 ≤ n * 8 ^ f) ∧ (0 ≤ (ordN least f ch lf n).2 ∧ (ordN least f ch lf n).2 ≤ n * 8 ^ f) := by
    intro n
    induction n with
    | zero => simp [ordN]
    | succ n ihn =>
      intro hn
      have a := ihn (by omega)
      have h := ord_bd least f (ch ++ [lf[n]?.getD 0]) (lf.take n ++ lf.drop (n + 1)) (by simp; omega) (by omega)
      have e : ((n + 1 : Nat) : Int) * 8 ^ f = n * 8 ^ f + 8 ^ f := by grind
      simp only [ordN]
      omega
  have h := key n hn
  have h1 : ((n : Nat) : Int) * 8 ^ f ≤ 8 * 8 ^ f := Int.mul_le_mul_of_nonneg_right (by omega) p
  have h2 : (8 : Int) ^ f ≤ 2097152 := by
    rcases (by omega : f = 0 ∨ f = 1 ∨ f = 2 ∨ f = 3 ∨ f = 4 ∨ f = 5 ∨ f = 6 ∨ f = 7) with e | e | e | e | e | e | e | e <;> rw [e] <;> decide
  omega
end Go.Proofs.Ytliocbjmledfbaa

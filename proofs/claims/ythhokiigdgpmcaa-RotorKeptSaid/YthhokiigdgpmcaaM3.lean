/- Contracts of the functions that the statement reaches: Copy, Rcorn, Comp, Rval. -/
import Derived.Test.YthhokiigdgpmcaaM2
import Derived.Test.YthhokiigdgpmcaaM1

/- Copy of a table. -/
namespace Go.Proofs.Ythhokiigdgpmcaa
open Go.RowKit

section own
variable {W W' : World} {M s n : Nat} {T : TypeId} {v : Value} {xs : List Value}

theorem own_same (h : W.ownsRow M T s v n xs) (hs : ∀ g, v.ownBlock = some g → W'.heap[g]? = W.heap[g]?) : W'.ownsRow M T s v n xs := by
  obtain ⟨h1, h2⟩ := h
  refine ⟨h1, ?_⟩
  rcases h2 with h2 | ⟨g, cap, cur, rfl, hg, hc, h3⟩
  · exact .inl h2
  · exact .inr ⟨g, cap, cur, rfl, hg, (hs g rfl).trans hc, h3⟩
theorem cell_same {g o : Nat} (h : W'.heap[g]? = W.heap[g]?) : W'.cell? ⟨g, o, none⟩ = W.cell? ⟨g, o, none⟩ := by simp only [World.cell?, h]
theorem frozen_same {g o : Nat} (h : W'.heap[g]? = W.heap[g]?) : W'.frozen? ⟨g, o, none⟩ = W.frozen? ⟨g, o, none⟩ := by simp only [World.frozen?, h]
theorem heap_alloc_old {o : Obj} {g : Nat} (h : g < W.heap.size) : (W.alloc o).heap[g]? = W.heap[g]? := by
  show (W.heap.push o)[g]? = _
  rw [Array.getElem?_push]
  have : g ≠ W.heap.size := by omega
  simp [this]
end own

/-- A list of integers that the call owns, at block g. -/
def XF (M : Nat) (W : World) (g : Nat) (v : Value) (xs : List Int) : Prop :=
  M ≤ g ∧ g < W.heap.size ∧ v.ownBlock = some g ∧ W.ownsRow M 3 1 v xs.length (xs.map (Value.int .i64))
theorem XF.same {M : Nat} {W W' : World} {g : Nat} {v : Value} {xs : List Int} (h : XF M W g v xs) (hs : W'.heap[g]? = W.heap[g]?) (hz : W.heap.size ≤ W'.heap.size) : XF M W' g v xs :=
  ⟨h.1, by have := h.2.1; omega, h.2.2.1, own_same h.2.2.2 (fun q hq => by rw [h.2.2.1] at hq; cases hq; exact hs)⟩
theorem XF.alloc {M : Nat} {W : World} {g : Nat} {v : Value} {xs : List Int} (h : XF M W g v xs) (o : Obj) : XF M (W.alloc o) g v xs := h.same (heap_alloc_old h.2.1) (by simp)
theorem XF.new (M : Nat) (W : World) (h : M ≤ W.heap.size) : XF M (W.alloc (.cells #[] 3)) W.heap.size (.slice (some ⟨W.heap.size, 0, none⟩) 0 0) [] :=
  ⟨h, by simp, rfl, by
    have := World.ownsRow_lit (base := M) (e := 3) (size := 1) W #[] 0 h (le_maxLen (by omega)) (by simp)
    simpa using this⟩
theorem XF.slice {M : Nat} {W : World} {g : Nat} {v : Value} {xs : List Int} (h : XF M W g v xs) : ∃ c, v = .slice (some ⟨g, 0, none⟩) xs.length c ∧ RI W W.heap.size (some ⟨g, 0, none⟩) xs := by
  obtain ⟨_, _, h3, h4⟩ := h
  rcases h4.2 with ⟨e, _⟩ | ⟨g', cap, cur, rfl, hg, hcur, hn, hm, hs, ht⟩
  · rw [e] at h3; cases h3
  · have : g' = g := by simpa [Value.ownBlock] using h3
    subst this
    exact ⟨cap, rfl, RI.of_own h4⟩
theorem ints_one (xs : List Int) : ∀ u ∈ xs.map (Value.int .i64), u.oneCell' = true := by
  intro u hu
  obtain ⟨x, _, rfl⟩ := List.mem_map.1 hu
  rfl
theorem RI.cells {w : World} {B : Nat} {A : Option Addr} {l : List Int} (h : RI w B A l) : Cells w A (l.map (Value.int .i64)) := fun hp => by
  obtain ⟨b, off, rfl, hb, hc⟩ := h hp
  exact ⟨_, rfl, fun j u hu => by rw [Go.WideShapes.add_plain]; exact hc j u hu⟩

/-- The new table's box. -/
def OF (M : Nat) (W : World) (g : Nat) (u0 u1 : Value) : Prop := M ≤ g ∧ W.heap[g]? = some (.cells #[u0, u1, .slice none 0 0] 25 (0, 0))
theorem OF.lt {M : Nat} {W : World} {g : Nat} {u0 u1 : Value} (h : OF M W g u0 u1) : g < W.heap.size := (Array.getElem?_eq_some_iff.1 h.2).1
theorem OF.same {M : Nat} {W W' : World} {g : Nat} {u0 u1 : Value} (h : OF M W g u0 u1) (hs : W'.heap[g]? = W.heap[g]?) : OF M W' g u0 u1 := ⟨h.1, hs.trans h.2⟩
theorem OF.alloc {M : Nat} {W : World} {g : Nat} {u0 u1 : Value} (h : OF M W g u0 u1) (o : Obj) : OF M (W.alloc o) g u0 u1 := h.same (heap_alloc_old h.lt)
theorem block_cell {W : World} {g o : Nat} {cs : Array Value} {T : TypeId} (h : W.heap[g]? = some (.cells cs T (0, 0))) : W.cell? ⟨g, o, none⟩ = cs[o]? := by simp [World.cell?, h]
theorem block_frozen {W : World} {g o : Nat} {cs : Array Value} {T : TypeId} (h : W.heap[g]? = some (.cells cs T (0, 0))) : W.frozen? ⟨g, o, none⟩ = false := by simp [World.frozen?, h]

/-- The state of the region that makes the copy's axes. -/
def CR (W0 : World) (X Y : List Int) (x0 x3 y4 y7 o9 : Value) (l0 l3 l4 l7 l9 l10 : Bool) (W : World) : Prop :=
  Below W0.heap.size W0 W ∧ ∃ bx by_ bo : Nat,
    (l0 = true → XF W0.heap.size W bx (if l3 then x3 else x0) (if l3 then X else [])) ∧
    (l4 = true → XF W0.heap.size W by_ (if l7 then y7 else y4) (if l7 then Y else [])) ∧
    (l9 = true → o9 = .pointer (some ⟨bo, 0, none⟩) ∧ OF W0.heap.size W bo (if l10 then x3 else .slice none 0 0) (if l10 then y7 else .slice none 0 0)) ∧
    (l0 = true → l4 = true → bx ≠ by_) ∧ (l0 = true → l9 = true → bx ≠ bo) ∧ (l4 = true → l9 = true → by_ ≠ bo)

theorem XF.grown {M : Nat} {W W' : World} {g : Nat} {v : Value} {xs : List Int} {row : Option Nat} (h : XF M W g v xs) (hg : W.grownBy W' row) (hne : some g ≠ row) : XF M W' g v xs := h.same (hg.block g h.2.1 hne) hg.size
theorem OF.grown {M : Nat} {W W' : World} {g : Nat} {u0 u1 : Value} {row : Option Nat} (h : OF M W g u0 u1) (hg : W.grownBy W' row) (hne : some g ≠ row) : OF M W' g u0 u1 := h.same (hg.block g h.lt hne)

section steps
variable {W0 W W' : World} {X Y : List Int} {x0 x3 y4 y7 o9 v : Value} {l0 l3 l4 l7 l9 l10 : Bool}
theorem CR.op0 (h : CR W0 X Y x0 x3 y4 y7 o9 false false l4 l7 l9 l10 W) : CR W0 X Y (.slice (some ⟨W.heap.size, 0, none⟩) 0 0) x3 y4 y7 o9 true false l4 l7 l9 l10 (W.alloc (.cells #[] 3)) := by
  obtain ⟨hb, bx, by_, bo, r1, r2, r3, r4, r5, r6⟩ := h
  refine ⟨hb.alloc hb.size _, W.heap.size, by_, bo, fun _ => XF.new _ _ hb.size, fun e => (r2 e).alloc _, fun e => ⟨(r3 e).1, (r3 e).2.alloc _⟩, fun _ e h => ?_, fun _ e h => ?_, r6⟩
  · have := (r2 e).2.1; omega
  · have := (r3 e).2.lt; omega
theorem CR.op4 (h : CR W0 X Y x0 x3 y4 y7 o9 l0 l3 false false l9 l10 W) : CR W0 X Y x0 x3 (.slice (some ⟨W.heap.size, 0, none⟩) 0 0) y7 o9 l0 l3 true false l9 l10 (W.alloc (.cells #[] 3)) := by
  obtain ⟨hb, bx, by_, bo, r1, r2, r3, r4, r5, r6⟩ := h
  refine ⟨hb.alloc hb.size _, bx, W.heap.size, bo, fun e => (r1 e).alloc _, fun _ => XF.new _ _ hb.size, fun e => ⟨(r3 e).1, (r3 e).2.alloc _⟩, fun e _ h => ?_, r5, fun _ e h => ?_⟩
  · have := (r1 e).2.1; omega
  · have := (r3 e).2.lt; omega
theorem CR.op9 (h : CR W0 X Y x0 x3 y4 y7 v l0 l3 l4 l7 false false W) : CR W0 X Y x0 x3 y4 y7 (.pointer (some ⟨W.heap.size, 0, none⟩)) l0 l3 l4 l7 true false (W.alloc (.cells #[.slice none 0 0, .slice none 0 0, .slice none 0 0] 25)) := by
  obtain ⟨hb, bx, by_, bo, r1, r2, r3, r4, r5, r6⟩ := h
  refine ⟨hb.alloc hb.size _, bx, by_, W.heap.size, fun e => (r1 e).alloc _, fun e => (r2 e).alloc _, fun _ => ⟨rfl, hb.size, by show (W.heap.push _)[W.heap.size]? = _; simp⟩, r4, fun e _ h => ?_, fun e _ h => ?_⟩
  · have := (r1 e).2.1; omega
  · have := (r2 e).2.1; omega
theorem CR.op3 (h : CR W0 X Y x0 x3 y4 y7 o9 true false l4 l7 l9 false W) (hg : W.grownBy W' x0.ownBlock) (hown : W'.ownsRow W0.heap.size 3 1 v X.length (X.map (Value.int .i64))) (hat : v.ownBlock = x0.ownBlock ∨ v.ownBlock = some W.heap.size) :
    CR W0 X Y x0 v y4 y7 o9 true true l4 l7 l9 false W' := by
  obtain ⟨hb, bx, by_, bo, r1, r2, r3, r4, r5, r6⟩ := h
  obtain ⟨x1, x2, x5, x4⟩ := r1 rfl
  simp only [Bool.false_eq_true, if_false] at x5 x4
  rw [x5] at hg hat
  obtain ⟨q, hq, hq'⟩ : ∃ q, v.ownBlock = some q ∧ (q = bx ∨ q = W.heap.size) := by
    rcases hat with e | e
    · exact ⟨bx, e, .inl rfl⟩
    · exact ⟨_, e, .inr rfl⟩
  have hlt : q < W'.heap.size := by
    rcases hown.2 with ⟨e, _⟩ | ⟨g, cap, cur, rfl, hg1, hcur, _⟩
    · rw [e] at hq; cases hq
    · have : g = q := by simpa [Value.ownBlock] using hq
      subst this
      exact (Array.getElem?_eq_some_iff.1 hcur).1
  refine ⟨hb.grown hg hb.size (fun k hk => by cases hk; exact x1), q, by_, bo, fun _ => ⟨by have := hb.size; omega, hlt, hq, hown⟩, fun e => (r2 e).grown hg (fun h => by cases h; exact r4 rfl e rfl), fun e => ⟨(r3 e).1, (r3 e).2.grown hg (fun h => by cases h; exact r5 rfl e rfl)⟩, fun _ e h => ?_, fun _ e h => ?_, r6⟩
  · have := r4 rfl e; have := (r2 e).2.1; omega
  · have := r5 rfl e; have := (r3 e).2.lt; omega
theorem CR.op7 (h : CR W0 X Y x0 x3 y4 y7 o9 l0 l3 true false l9 false W) (hg : W.grownBy W' y4.ownBlock) (hown : W'.ownsRow W0.heap.size 3 1 v Y.length (Y.map (Value.int .i64))) (hat : v.ownBlock = y4.ownBlock ∨ v.ownBlock = some W.heap.size) :
    CR W0 X Y x0 x3 y4 v o9 l0 l3 true true l9 false W' := by
  obtain ⟨hb, bx, by_, bo, r1, r2, r3, r4, r5, r6⟩ := h
  obtain ⟨x1, x2, x5, x4⟩ := r2 rfl
  simp only [Bool.false_eq_true, if_false] at x5 x4
  rw [x5] at hg hat
  obtain ⟨q, hq, hq'⟩ : ∃ q, v.ownBlock = some q ∧ (q = by_ ∨ q = W.heap.size) := by
    rcases hat with e | e
    · exact ⟨by_, e, .inl rfl⟩
    · exact ⟨_, e, .inr rfl⟩
  have hlt : q < W'.heap.size := by
    rcases hown.2 with ⟨e, _⟩ | ⟨g, cap, cur, rfl, hg1, hcur, _⟩
    · rw [e] at hq; cases hq
    · have : g = q := by simpa [Value.ownBlock] using hq
      subst this
      exact (Array.getElem?_eq_some_iff.1 hcur).1
  refine ⟨hb.grown hg hb.size (fun k hk => by cases hk; exact x1), bx, q, bo, fun e => (r1 e).grown hg (fun h => by cases h; exact r4 e rfl rfl), fun _ => ⟨by have := hb.size; omega, hlt, hq, hown⟩, fun e => ⟨(r3 e).1, (r3 e).2.grown hg (fun h => by cases h; exact r6 rfl e rfl)⟩, fun e _ h => ?_, r5, fun _ e h => ?_⟩
  · have := r4 e rfl; have := (r1 e).2.1; omega
  · have := r6 rfl e; have := (r3 e).2.lt; omega
theorem heap_set3 {g : Nat} {a b c a' b' c' : Value} {T : TypeId} (h : W.heap[g]? = some (.cells #[a, b, c] T (0, 0))) :
    (((W.setCell ⟨g, 0, none⟩ a').setCell ⟨g, 1, none⟩ b').setCell ⟨g, 2, none⟩ c').heap[g]? = some (.cells #[a', b', c'] T (0, 0)) := by
  have h1 := heap_setCell_same W g 0 _ T a' h
  have h2 := heap_setCell_same _ g 1 _ T b' h1
  have h3 := heap_setCell_same _ g 2 _ T c' h2
  rw [h3]
  simp
theorem CR.op10 (h : CR W0 X Y x0 x3 y4 y7 o9 true true true true true false W) : ∃ bo, o9 = .pointer (some ⟨bo, 0, none⟩) ∧ W.heap[bo]? = some (.cells #[.slice none 0 0, .slice none 0 0, .slice none 0 0] 25 (0, 0)) ∧
    CR W0 X Y x0 x3 y4 y7 o9 true true true true true true (((W.setCell ⟨bo, 0, none⟩ x3).setCell ⟨bo, 1, none⟩ y7).setCell ⟨bo, 2, none⟩ (.slice none 0 0)) := by
  obtain ⟨hb, bx, by_, bo, r1, r2, r3, r4, r5, r6⟩ := h
  obtain ⟨e9, o1, o2⟩ := r3 rfl
  have hother : ∀ k, k ≠ bo → (((W.setCell ⟨bo, 0, none⟩ x3).setCell ⟨bo, 1, none⟩ y7).setCell ⟨bo, 2, none⟩ (.slice none 0 0)).heap[k]? = W.heap[k]? := fun k hk => by
    rw [heap_setCell_other _ _ _ _ hk, heap_setCell_other _ _ _ _ hk, heap_setCell_other _ _ _ _ hk]
  have hz : (((W.setCell ⟨bo, 0, none⟩ x3).setCell ⟨bo, 1, none⟩ y7).setCell ⟨bo, 2, none⟩ (.slice none 0 0)).heap.size = W.heap.size := by simp [World.setCell]
  exact ⟨bo, e9, o2, ((hb.setCell (p := ⟨bo, 0, none⟩) o1 _).setCell (p := ⟨bo, 1, none⟩) o1 _).setCell (p := ⟨bo, 2, none⟩) o1 _, bx, by_, bo, fun e => (r1 e).same (hother _ (r5 rfl rfl)) (by omega), fun e => (r2 e).same (hother _ (r6 rfl rfl)) (by omega),
    fun _ => ⟨e9, o1, by simpa using heap_set3 o2⟩, r4, r5, r6⟩
end steps

theorem fx_step {fx : Nat → Option Value} {val : Nat → Value} {L : Array Bool} {i : Nat} {v : Value} (h : ∀ j u, fx j = some u → L.getD j false = true → val j = u) (hv : ∀ u, fx i = some u → v = u) :
    ∀ j u, fx j = some u → (L.setIfInBounds i true).getD j false = true → upd val i v j = u := by
  intro j u hj hl
  by_cases e : j = i
  · subst e
    rw [upd_same]
    exact hv u hj
  · rw [upd_other e]
    rw [getD_set_other (fun h => e h.symm)] at hl
    exact h j u hj hl

theorem grown_far {W W' : World} {row : Option Nat} {wr : World} {row' : Option Nat} (h : wr.grownBy W row) (hg : W.grownBy W' row') (hr : ∀ k, row' = some k → row' = row ∨ wr.heap.size ≤ k) : wr.grownBy W' row :=
  ⟨hg.os.trans h.os, hg.tape.trans h.tape, hg.output.trans h.output, Nat.le_trans h.size hg.size, fun k hk hne => by
    have hs := h.size
    refine (hg.block k (by omega) (fun e => ?_)).trans (h.block k hk hne)
    rcases hr k e.symm with e' | e'
    · exact hne (e.trans e')
    · omega⟩
theorem grown_alloc (W : World) (o : Obj) : W.grownBy (W.alloc o) none := ⟨rfl, rfl, rfl, by simp, fun k hk _ => heap_alloc_old hk⟩
theorem own_lt {W : World} {M s n q : Nat} {T : TypeId} {v : Value} {xs : List Value} (h : W.ownsRow M T s v n xs) (hq : v.ownBlock = some q) : q < W.heap.size := by
  rcases h.2 with ⟨e, _⟩ | ⟨g, cap, cur, rfl, hg1, hcur, _⟩
  · rw [e] at hq; cases hq
  · have : g = q := by simpa [Value.ownBlock] using hq
    subst this
    exact (Array.getElem?_eq_some_iff.1 hcur).1

theorem own_base {W : World} {M s n q : Nat} {T : TypeId} {v : Value} {xs : List Value} (h : W.ownsRow M T s v n xs) (hq : v.ownBlock = some q) : M ≤ q := by
  rcases h.2 with ⟨e, _⟩ | ⟨g, cap, cur, rfl, hg1, hcur, _⟩
  · rw [e] at hq; cases hq
  · have : g = q := by simpa [Value.ownBlock] using hq
    omega
theorem RI.cells_grown {W W' : World} {B : Nat} {A : Option Addr} {l : List Int} {row : Option Nat} (h : RI W B A l) (hg : W.grownBy W' row) (hB : B ≤ W.heap.size) (hr : ∀ q, row = some q → B ≤ q) : Cells W' A (l.map (Value.int .i64)) :=
  RI.cells (B := B) (RV.keep h (fun p hp => World.cell?_of_block (hg.block p.block (by omega) (fun e => by have := hr _ e.symm; omega))))
theorem getD_no_of {ops : Array Oper} {T : Array Value} {val : Nat → Value} {L : Array Bool} {a : Act} (h : Fr ops T val L a) (j i : Nat) {o : Oper} (ho : ops[j]? = some o) {e : Edge} (he : e ∈ o.after) (hb : Region.binds .any e = true) (hi : e.on = i) (hl : L.getD i false = false) : L.getD j false = false := by
  cases hj : L.getD j false with
  | false => rfl
  | true =>
    have := h.closed j o ho hj e he hb
    rw [hi, hl] at this
    cases this

/-- The state of the region that copies a row. -/
def S5 (wr : World) (M k : Nat) (rv : Value) (vs : List Value) (r : List Int) (v2 v8 v9 v10 : Value) (l2 l8 l9 l10 : Bool) (W : World) : Prop :=
  wr.grownBy W rv.ownBlock ∧ (l10 = false → W.ownsRow M 22 1 rv k vs) ∧ ∃ g, wr.heap.size ≤ g ∧ (l2 = true → XF M W g (if l8 then v8 else v2) (if l8 then r else [])) ∧
    (l9 = true → l10 = false → ∃ q, v9 = .slice (some ⟨q, 0, none⟩) 1 1 ∧ W.cell? ⟨q, 0, none⟩ = some v8) ∧
    (l10 = true → W.ownsRow M 22 1 v10 (k + 1) (vs ++ [v8]) ∧ v10.ownBlock ≠ some g ∧ (v10.ownBlock = rv.ownBlock ∨ ∃ h, v10.ownBlock = some h ∧ wr.heap.size ≤ h))
section steps5
variable {wr W W' : World} {M k : Nat} {rv : Value} {vs : List Value} {r : List Int} {v2 v8 v9 v10 v : Value} {l2 l8 l9 l10 : Bool}
theorem S5.start (h : wr.ownsRow M 22 1 rv k vs) : S5 wr M k rv vs r v2 v8 v9 v10 false false false false wr.drew :=
  ⟨⟨rfl, rfl, rfl, Nat.le_refl _, fun _ _ _ => rfl⟩, fun _ => h, wr.heap.size, Nat.le_refl _, fun e => (by cases e), fun e => (by cases e), fun e => (by cases e)⟩
theorem S5.op2 (h : S5 wr M k rv vs r v2 v8 v9 v10 false false false false W) (hM : M ≤ wr.heap.size) : S5 wr M k rv vs r (.slice (some ⟨W.heap.size, 0, none⟩) 0 0) v8 v9 v10 true false false false (W.alloc (.cells #[] 3)) := by
  obtain ⟨h1, h2, g, h3, h4, h5, h6⟩ := h
  have hs := h1.size
  exact ⟨grown_far h1 (grown_alloc _ _) (fun k hk => (by cases hk)), fun e => own_same (h2 e) (fun q hq => heap_alloc_old (own_lt (h2 e) hq)), W.heap.size, hs, fun _ => XF.new _ _ (by omega), fun e => (by cases e), fun e => (by cases e)⟩
theorem S5.op8 (h : S5 wr M k rv vs r v2 v8 v9 v10 true false false false W) (hlt : ∀ q, rv.ownBlock = some q → q < wr.heap.size) (hg : W.grownBy W' v2.ownBlock) (hown : W'.ownsRow M 3 1 v r.length (r.map (Value.int .i64))) (hat : v.ownBlock = v2.ownBlock ∨ v.ownBlock = some W.heap.size) :
    S5 wr M k rv vs r v2 v v9 v10 true true false false W' := by
  obtain ⟨h1, h2, g, h3, h4, h5, h6⟩ := h
  obtain ⟨x1, x2, x3, x4⟩ := h4 rfl
  simp only [Bool.false_eq_true, if_false] at x3 x4
  rw [x3] at hg hat
  have hs := h1.size
  obtain ⟨q, hq, hq'⟩ : ∃ q, v.ownBlock = some q ∧ (q = g ∨ q = W.heap.size) := by
    rcases hat with e | e
    · exact ⟨g, e, .inl rfl⟩
    · exact ⟨_, e, .inr rfl⟩
  refine ⟨grown_far h1 hg (fun k hk => by cases hk; exact .inr h3), fun e => own_same (h2 e) (fun q hq => hg.block q (own_lt (h2 e) hq) (fun h => ?_)), q, by omega, fun _ => ⟨by omega, own_lt hown hq, hq, hown⟩, fun e => (by cases e), fun e => (by cases e)⟩
  cases h
  have := hlt g hq
  omega
theorem S5.op9 (h : S5 wr M k rv vs r v2 v8 v v10 true true false false W) : S5 wr M k rv vs r v2 v8 (.slice (some ⟨W.heap.size, 0, none⟩) 1 1) v10 true true true false (W.alloc (.cells #[v8] 22)) := by
  obtain ⟨h1, h2, g, h3, h4, h5, h6⟩ := h
  exact ⟨grown_far h1 (grown_alloc _ _) (fun k hk => (by cases hk)), fun e => own_same (h2 e) (fun q hq => heap_alloc_old (own_lt (h2 e) hq)), g, h3, fun e => (h4 e).alloc _, fun _ _ => ⟨_, rfl, by rw [cell_newest]; rfl⟩, fun e => by cases e⟩
theorem S5.op10 (h : S5 wr M k rv vs r v2 v8 v9 v10 true true true false W) (hlt : ∀ q, rv.ownBlock = some q → q < wr.heap.size) (hg : W.grownBy W' rv.ownBlock) (hown : W'.ownsRow M 22 1 v (k + 1) (vs ++ [v8])) (hat : v.ownBlock = rv.ownBlock ∨ v.ownBlock = some W.heap.size) :
    S5 wr M k rv vs r v2 v8 v9 v true true true true W' := by
  obtain ⟨h1, h2, g, h3, h4, h5, h6⟩ := h
  have x := h4 rfl
  simp only [if_true] at x
  have hs := h1.size
  refine ⟨grown_far h1 hg (fun k hk => .inl rfl), fun e => (by cases e), g, h3, fun _ => ?_, fun _ e => (by cases e), fun _ => ⟨hown, fun e => ?_, ?_⟩⟩
  · simp only [if_true]
    exact x.grown hg (fun e => by have := hlt g e.symm; omega)
  · rcases hat with h | h
    · rw [h] at e; have := hlt g e; omega
    · rw [h] at e; cases e; have := x.2.1; omega
  · rcases hat with h | h
    · exact .inl h
    · exact .inr ⟨_, h, hs⟩
end steps5

/-- The rows that are copied so far. -/
def Rows_ (M : Nat) (W : World) (V : List (List Int)) (rv : Value) (vs : List Value) : Prop :=
  vs.length = V.length ∧ ∀ (j : Nat) (r : List Int), V[j]? = some r → ∃ g v, vs[j]? = some v ∧ XF M W g v r ∧ rv.ownBlock ≠ some g
theorem Rows_.step {M k : Nat} {wr W : World} {V : List (List Int)} {rv v2 v8 v9 v10 : Value} {vs : List Value} {r : List Int} (h : Rows_ M wr (V.take k) rv vs) (hr : V[k]? = some r) (hS : S5 wr M k rv vs r v2 v8 v9 v10 true true true true W) :
    Rows_ M W (V.take (k + 1)) v10 (vs ++ [v8]) := by
  obtain ⟨h1, h2, g, h3, h4, h5, h6⟩ := hS
  obtain ⟨h7, h8, h9⟩ := h6 rfl
  have x := h4 rfl
  simp only [if_true] at x
  obtain ⟨hl, hall⟩ := h
  have hk : k < V.length := (List.getElem?_eq_some_iff.1 hr).1
  have hlk : vs.length = k := by rw [hl]; simp; omega
  refine ⟨by simp [hl]; omega, fun j q hj => ?_⟩
  rw [List.take_add_one, hr] at hj
  by_cases e : j < k
  · rw [List.getElem?_append_left (by simp; omega)] at hj
    obtain ⟨g', v, e1, e2, e3⟩ := hall j q hj
    refine ⟨g', v, by rw [List.getElem?_append_left (by omega)]; exact e1, e2.grown h1 (fun h => e3 h.symm), ?_⟩
    rcases h9 with h9 | ⟨h, h9, h10⟩
    · rw [h9]; exact e3
    · rw [h9]; intro e'; cases e'; have := e2.2.1; omega
  · rw [List.getElem?_append_right (by simp; omega)] at hj
    have hj0 : j - (V.take k).length = 0 := by
      rcases Nat.eq_zero_or_pos (j - (V.take k).length) with h | h
      · exact h
      · simp only [Option.toList_some] at hj
        rw [List.getElem?_eq_none (by simp; simp at h; omega)] at hj
        cases hj
    have hjk : j = k := by simp at hj0; omega
    rw [hj0] at hj
    simp at hj
    subst hj hjk
    exact ⟨g, v8, by rw [List.getElem?_append_right (by omega)]; simp [hlk], x, h8⟩

theorem info_ints : (Try.prog.info? 22).map (fun i => (i.zero, i.size, i.bytes)) = some (some (.slice none 0 0), 1, 24) := by kernel_rfl
theorem Rows_.same {M : Nat} {W W' : World} {V : List (List Int)} {rv : Value} {vs : List Value} (h : Rows_ M W V rv vs) (hs : ∀ g, M ≤ g → W'.heap[g]? = W.heap[g]?) (hz : W.heap.size ≤ W'.heap.size) : Rows_ M W' V rv vs :=
  ⟨h.1, fun j r hj => by
    obtain ⟨g, v, e1, e2, e3⟩ := h.2 j r hj
    exact ⟨g, v, e1, e2.same (hs g e2.1) hz, e3⟩⟩
theorem Rows_.rows {M k : Nat} {W : World} {V : List (List Int)} {rv : Value} {vs : List Value} (h : Rows_ M W V rv vs) (ho : W.ownsRow M 22 1 rv k vs) : ∃ A c, rv = .slice A V.length c ∧ RR W W.heap.size A V := by
  have hk : k = V.length := by have := ho.1; have := h.1; omega
  subst hk
  rcases ho.2 with ⟨e, e0⟩ | ⟨g, cap, cur, rfl, hg1, hcur, _⟩
  · exact ⟨none, 0, by rw [e, e0], fun hp => by omega⟩
  · refine ⟨_, cap, rfl, fun hp => ⟨g, 0, rfl, own_lt ho rfl, fun j r hj => ?_⟩⟩
    obtain ⟨g', v, e1, e2, _⟩ := h.2 j r hj
    obtain ⟨c, rfl, hri⟩ := e2.slice
    have hj' : j < V.length := (List.getElem?_eq_some_iff.1 hj).1
    refine ⟨_, c, ?_, hri⟩
    rw [Nat.zero_add, ho.cellAt j (by omega)]
    exact e1

def fxC (w : World) (AX AY : Option Addr) (X Y : List Int) (cx cy : Nat) : Nat → Option Value
  | 1 => some (.pointer (some ⟨w.heap.size, 0, none⟩))
  | 2 => some (.slice AX X.length cx)
  | 5 => some (.pointer (some ⟨w.heap.size, 1, none⟩))
  | 6 => some (.slice AY Y.length cy)
  | _ => none
def RC (w : World) (AX AY : Option Addr) (X Y : List Int) (cx cy : Nat) (W0 : World) (val : Nat → Value) (L : Array Bool) (W : World) : Prop :=
  (∀ j u, fxC w AX AY X Y cx cy j = some u → L.getD j false = true → val j = u) ∧ (L.getD 8 false = true → val 8 = .agg #[val 3, val 7, .slice none 0 0]) ∧
  CR W0 X Y (val 0) (val 3) (val 4) (val 7) (val 9) (L.getD 0 false) (L.getD 3 false) (L.getD 4 false) (L.getD 7 false) (L.getD 9 false) (L.getD 10 false) W

def fx5 (g b off n c k : Nat) (A' : Option Addr) (rl c' bo : Nat) (rv : Value) : Nat → Option Value
  | 0 => some (.pointer (some ⟨bo, 2, none⟩))
  | 1 => some rv
  | 3 => some (.pointer (some ⟨g, 2, none⟩))
  | 4 => some (.slice (some ⟨b, off, none⟩) n c)
  | 5 => some (.int .i64 k)
  | 6 => some (.pointer (some ⟨b, off + k, none⟩))
  | 7 => some (.slice A' rl c')
  | 11 => some (.pointer (some ⟨bo, 2, none⟩))
  | _ => none
def R5 (fx : Nat → Option Value) (wr : World) (M k : Nat) (rv : Value) (vs : List Value) (r : List Int) (bo : Nat) (val : Nat → Value) (L : Array Bool) (W : World) : Prop :=
  (∀ j u, fx j = some u → L.getD j false = true → val j = u) ∧
  (L.getD 12 false = false → S5 wr M k rv vs r (val 2) (val 8) (val 9) (val 10) (L.getD 2 false) (L.getD 8 false) (L.getD 9 false) (L.getD 10 false) W) ∧
  (L.getD 12 false = true → ∃ W1, S5 wr M k rv vs r (val 2) (val 8) (val 9) (val 10) true true true true W1 ∧ W = W1.setCell ⟨bo, 2, none⟩ (val 10))

set_option maxRecDepth 100000 in
set_option maxHeartbeats 1000000 in
theorem copy_any (AX AY AV : Option Addr) (nx cx ny cy nv cv B : Nat) (X Y : List Int) (V : List (List Int)) (w : World) (hx : X.length = nx) (hy : Y.length = ny) (hv : V.length = nv) (hnx : nx ≤ 1000000) (hny : ny ≤ 1000000) (hnv : nv ≤ 1000000) (hnr : ∀ r ∈ V, r.length ≤ 1000000)
    (hB : B ≤ w.heap.size) (h : TB w B AX AY AV X Y V) :
    Calls Try.prog 108 #[.agg #[.slice AX nx cx, .slice AY ny cy, .slice AV nv cv]] w fun e w' =>
      ∃ AX' cx' AY' cy' AV' cv', e = .returned (.agg #[.slice AX' nx cx', .slice AY' ny cy', .slice AV' nv cv']) ∧ TB w' w'.heap.size AX' AY' AV' X Y V ∧ Below w.heap.size w w' := by
  subst hx hy hv
  obtain ⟨i0, hi0, hz0, hz1, hz2⟩ := info_parts info_int
  obtain ⟨i1, hi1, hy0, hy1, hy2⟩ := info_parts info_ints
  go_enter Try.func108, Try.ntmps108
  go_upto_region 1 with fail
  generalize hW0 : ((w.alloc _).alloc _) = W0
  have k0 : W0.cell? ⟨w.heap.size, 0, none⟩ = some (.slice AX X.length cx) := by rw [← hW0]; clear hW0; go_simp
  have k1 : W0.cell? ⟨w.heap.size, 1, none⟩ = some (.slice AY Y.length cy) := by rw [← hW0]; clear hW0; go_simp
  have k2 : W0.cell? ⟨w.heap.size, 2, none⟩ = some (.slice AV V.length cv) := by rw [← hW0]; clear hW0; go_simp
  have k3 : ∀ k, k < 3 → W0.cell? ⟨w.heap.size + 1, k, none⟩ = some (.slice none 0 0) := by rw [← hW0]; clear hW0; intro k hk; match k, hk with | 0, _ => go_simp | 1, _ => go_simp | 2, _ => go_simp
  have k4 : ∀ k, k < 3 → W0.frozen? ⟨w.heap.size + 1, k, none⟩ = false := by rw [← hW0]; clear hW0; intro k hk; match k, hk with | 0, _ => simp [go_sem] | 1, _ => simp [go_sem] | 2, _ => simp [go_sem]
  have hB0 : Below w.heap.size w W0 := by rw [← hW0]; clear hW0; go_grown
  have hz : W0.heap.size = w.heap.size + 2 := by rw [← hW0]; clear hW0; simp
  have HZ := Lib.hid hz
  have HB0 := Lib.hid hB0
  have HX := Lib.hid (h.x.below (hB0.mono hB))
  have HY := Lib.hid (h.y.below (hB0.mono hB))
  have HV := Lib.hid (h.v.below (hB0.mono hB))
  clear hW0 hz hB0 h
  refine wpIn_wide.1 (region_inv2 (n := 9) (by kernel_rfl) (RC w AX AY X Y cx cy W0) (by kernel_rfl) rfl ⟨(by intro j u _ hl; rw [getD_replicate_no] at hl; cases hl), (by intro hl; rw [getD_replicate_no] at hl; cases hl), (Below.refl _ _).drew, 0, 0, 0, (by intro hl; rw [getD_replicate_no] at hl; cases hl), (by intro hl; rw [getD_replicate_no] at hl; cases hl), (by intro hl; rw [getD_replicate_no] at hl; cases hl), (by intro hl; rw [getD_replicate_no] at hl; cases hl), (by intro hl; rw [getD_replicate_no] at hl; cases hl), (by intro hl _; rw [getD_replicate_no] at hl; cases hl)⟩ ?hstep ?hend)
  case hstep =>
    intro i' o ho val L b' W hF hR hpre hl
    match i', ho with
    | 0, ho =>
      simp at ho
      subst ho
      refine step_plain rfl ?_
      have hs : 0 < L.size := by rw [hF.lsize]; decide
      obtain ⟨hfx, h8, hC⟩ := hR
      have l3 := hF.later hl 3 rfl (e := ⟨0, .data⟩) (by simp) rfl rfl
      have lk : L.getD 0 false = false := by rw [← getD_same hs]; exact hl
      have hgoal : RC w AX AY X Y cx cy W0 (upd val 0 (.slice (some ⟨W.heap.size, 0, none⟩) 0 0)) (L.setIfInBounds 0 true) (W.alloc (.cells #[] 3)) := by
        refine ⟨fx_step hfx (by intro u hu; simp [fxC] at hu), ?_, ?_⟩
        · simpa only [upd_other (show (3 : Nat) ≠ 0 by decide), upd_other (show (4 : Nat) ≠ 0 by decide), upd_other (show (7 : Nat) ≠ 0 by decide), upd_other (show (8 : Nat) ≠ 0 by decide), upd_other (show (9 : Nat) ≠ 0 by decide), upd_same, getD_set_other (show (0 : Nat) ≠ 3 by decide), getD_set_other (show (0 : Nat) ≠ 4 by decide), getD_set_other (show (0 : Nat) ≠ 7 by decide), getD_set_other (show (0 : Nat) ≠ 8 by decide), getD_set_other (show (0 : Nat) ≠ 9 by decide), getD_set_other (show (0 : Nat) ≠ 10 by decide), getD_set_eq hs] using h8
        · simp only [upd_other (show (3 : Nat) ≠ 0 by decide), upd_other (show (4 : Nat) ≠ 0 by decide), upd_other (show (7 : Nat) ≠ 0 by decide), upd_other (show (9 : Nat) ≠ 0 by decide), upd_same, getD_set_other (show (0 : Nat) ≠ 3 by decide), getD_set_other (show (0 : Nat) ≠ 4 by decide), getD_set_other (show (0 : Nat) ≠ 7 by decide), getD_set_other (show (0 : Nat) ≠ 9 by decide), getD_set_other (show (0 : Nat) ≠ 10 by decide), getD_set_eq hs]
          rw [lk, l3] at hC
          rw [l3]
          exact hC.op0
      clear hF hpre hl hfx h8 hC hs
      go_simp
      exact ⟨_, rfl, hgoal⟩
    | 1, ho =>
      simp at ho
      subst ho
      refine step_plain rfl ?_
      have e1 := hF.was 1 (by kernel_rfl) rfl
      have hs : 1 < L.size := by rw [hF.lsize]; decide
      obtain ⟨hfx, h8, hC⟩ := hR
      have hgoal : ∀ v, (∀ u, fxC w AX AY X Y cx cy 1 = some u → v = u) → RC w AX AY X Y cx cy W0 (upd val 1 v) (L.setIfInBounds 1 true) W := fun v hv => by
        refine ⟨fx_step hfx hv, ?_, ?_⟩
        · simpa only [upd_other (show (0 : Nat) ≠ 1 by decide), upd_other (show (3 : Nat) ≠ 1 by decide), upd_other (show (4 : Nat) ≠ 1 by decide), upd_other (show (7 : Nat) ≠ 1 by decide), upd_other (show (8 : Nat) ≠ 1 by decide), upd_other (show (9 : Nat) ≠ 1 by decide), upd_same, getD_set_other (show (1 : Nat) ≠ 0 by decide), getD_set_other (show (1 : Nat) ≠ 3 by decide), getD_set_other (show (1 : Nat) ≠ 4 by decide), getD_set_other (show (1 : Nat) ≠ 7 by decide), getD_set_other (show (1 : Nat) ≠ 8 by decide), getD_set_other (show (1 : Nat) ≠ 9 by decide), getD_set_other (show (1 : Nat) ≠ 10 by decide), getD_set_eq hs] using h8
        · simpa only [upd_other (show (0 : Nat) ≠ 1 by decide), upd_other (show (3 : Nat) ≠ 1 by decide), upd_other (show (4 : Nat) ≠ 1 by decide), upd_other (show (7 : Nat) ≠ 1 by decide), upd_other (show (8 : Nat) ≠ 1 by decide), upd_other (show (9 : Nat) ≠ 1 by decide), upd_same, getD_set_other (show (1 : Nat) ≠ 0 by decide), getD_set_other (show (1 : Nat) ≠ 3 by decide), getD_set_other (show (1 : Nat) ≠ 4 by decide), getD_set_other (show (1 : Nat) ≠ 7 by decide), getD_set_other (show (1 : Nat) ≠ 8 by decide), getD_set_other (show (1 : Nat) ≠ 9 by decide), getD_set_other (show (1 : Nat) ≠ 10 by decide), getD_set_eq hs] using hC
      clear hF hpre hl hfx h8 hC hs
      go_simp
      exact ⟨_, rfl, hgoal _ (by intro u hu; simpa [fxC] using hu)⟩
    | 2, ho =>
      simp at ho
      subst ho
      refine step_plain rfl ?_
      have e6 := hF.gave 1 rfl (hpre ⟨1, .data⟩ (by simp) rfl) rfl
      have hs : 2 < L.size := by rw [hF.lsize]; decide
      obtain ⟨hfx, h8, hC⟩ := hR
      have v1 := hfx 1 _ rfl (hpre ⟨1, .data⟩ (by simp) rfl)
      rw [v1] at e6
      have q0 := cell_keep hC.1 k0
      have hgoal : ∀ v, (∀ u, fxC w AX AY X Y cx cy 2 = some u → v = u) → RC w AX AY X Y cx cy W0 (upd val 2 v) (L.setIfInBounds 2 true) W := fun v hv => by
        refine ⟨fx_step hfx hv, ?_, ?_⟩
        · simpa only [upd_other (show (0 : Nat) ≠ 2 by decide), upd_other (show (3 : Nat) ≠ 2 by decide), upd_other (show (4 : Nat) ≠ 2 by decide), upd_other (show (7 : Nat) ≠ 2 by decide), upd_other (show (8 : Nat) ≠ 2 by decide), upd_other (show (9 : Nat) ≠ 2 by decide), upd_same, getD_set_other (show (2 : Nat) ≠ 0 by decide), getD_set_other (show (2 : Nat) ≠ 3 by decide), getD_set_other (show (2 : Nat) ≠ 4 by decide), getD_set_other (show (2 : Nat) ≠ 7 by decide), getD_set_other (show (2 : Nat) ≠ 8 by decide), getD_set_other (show (2 : Nat) ≠ 9 by decide), getD_set_other (show (2 : Nat) ≠ 10 by decide), getD_set_eq hs] using h8
        · simpa only [upd_other (show (0 : Nat) ≠ 2 by decide), upd_other (show (3 : Nat) ≠ 2 by decide), upd_other (show (4 : Nat) ≠ 2 by decide), upd_other (show (7 : Nat) ≠ 2 by decide), upd_other (show (8 : Nat) ≠ 2 by decide), upd_other (show (9 : Nat) ≠ 2 by decide), upd_same, getD_set_other (show (2 : Nat) ≠ 0 by decide), getD_set_other (show (2 : Nat) ≠ 3 by decide), getD_set_other (show (2 : Nat) ≠ 4 by decide), getD_set_other (show (2 : Nat) ≠ 7 by decide), getD_set_other (show (2 : Nat) ≠ 8 by decide), getD_set_other (show (2 : Nat) ≠ 9 by decide), getD_set_other (show (2 : Nat) ≠ 10 by decide), getD_set_eq hs] using hC
      clear hF hpre hl hfx h8 hC hs
      go_simp
      exact ⟨_, rfl, hgoal _ (by intro u hu; simpa [fxC] using hu)⟩
    | 3, ho =>
      simp at ho
      subst ho
      refine step_plain rfl ?_
      have e5 := hF.gave 0 rfl (hpre ⟨0, .data⟩ (by simp) rfl) rfl
      have e7 := hF.gave 2 rfl (hpre ⟨2, .data⟩ (by simp) rfl) rfl
      have hs : 3 < L.size := by rw [hF.lsize]; decide
      obtain ⟨hfx, h8, hC⟩ := hR
      have lk : L.getD 3 false = false := by rw [← getD_same hs]; exact hl
      have la := hpre ⟨0, .data⟩ (by simp) rfl
      have vl := hfx 2 _ rfl (hpre ⟨2, .data⟩ (by simp) rfl)
      have l8 := hF.later hl 8 rfl (e := ⟨3, .data⟩) (by simp) rfl rfl
      have l10 := hF.later hl 10 rfl (e := ⟨3, .phase⟩) (by simp) rfl rfl
      rw [vl] at e7
      rw [la, lk, l10] at hC
      have hC' := hC
      obtain ⟨hbel, bx, by_, bo, r1, r2, _⟩ := hC'
      have r := r1 rfl
      simp only [Bool.false_eq_true, if_false] at r
      refine wpIn_append_all _ _ _ 22 rfl W0.heap.size 3 i0 (.int .i64 0) 1 8 Try.underlying22 hi0 hz0 hz1 hz2 rfl (by decide) _ 0 [] (by rw [Act.eval, Array.getD_eq_getD_getElem?]; exact e5) r.2.2.2 AX X.length cx (X.map (Value.int .i64)) (by rw [Act.eval, Array.getD_eq_getD_getElem?]; exact e7) (by simp) (HX.out.below (hbel.mono (Nat.le_trans hB HB0.out.size))).cells (ints_one _) ?c1 ?c2 hbel.size _ rfl ?_
      case c1 => unfold maxLen; omega
      case c2 => omega
      intro v' w1 hown' hgrow hat hnn
      refine ⟨_, rfl, fx_step hfx (by intro u hu; simp [fxC] at hu), ?_, ?_⟩
      · simp only [upd_other (show (7 : Nat) ≠ 3 by decide), upd_other (show (8 : Nat) ≠ 3 by decide), upd_same, getD_set_other (show (3 : Nat) ≠ 8 by decide)]
        intro h; rw [l8] at h; cases h
      · simp only [upd_other (show (0 : Nat) ≠ 3 by decide), upd_other (show (4 : Nat) ≠ 3 by decide), upd_other (show (7 : Nat) ≠ 3 by decide), upd_other (show (9 : Nat) ≠ 3 by decide), upd_same, getD_set_other (show (3 : Nat) ≠ 0 by decide), getD_set_other (show (3 : Nat) ≠ 4 by decide), getD_set_other (show (3 : Nat) ≠ 7 by decide), getD_set_other (show (3 : Nat) ≠ 9 by decide), getD_set_other (show (3 : Nat) ≠ 10 by decide), getD_set_eq hs]
        rw [la, l10]
        exact hC.op3 hgrow (by simpa using hown') hat
    | 4, ho =>
      simp at ho
      subst ho
      refine step_plain rfl ?_
      have hs : 4 < L.size := by rw [hF.lsize]; decide
      obtain ⟨hfx, h8, hC⟩ := hR
      have l7 := hF.later hl 7 rfl (e := ⟨4, .data⟩) (by simp) rfl rfl
      have lk : L.getD 4 false = false := by rw [← getD_same hs]; exact hl
      have hgoal : RC w AX AY X Y cx cy W0 (upd val 4 (.slice (some ⟨W.heap.size, 0, none⟩) 0 0)) (L.setIfInBounds 4 true) (W.alloc (.cells #[] 3)) := by
        refine ⟨fx_step hfx (by intro u hu; simp [fxC] at hu), ?_, ?_⟩
        · simpa only [upd_other (show (0 : Nat) ≠ 4 by decide), upd_other (show (3 : Nat) ≠ 4 by decide), upd_other (show (7 : Nat) ≠ 4 by decide), upd_other (show (8 : Nat) ≠ 4 by decide), upd_other (show (9 : Nat) ≠ 4 by decide), upd_same, getD_set_other (show (4 : Nat) ≠ 0 by decide), getD_set_other (show (4 : Nat) ≠ 3 by decide), getD_set_other (show (4 : Nat) ≠ 7 by decide), getD_set_other (show (4 : Nat) ≠ 8 by decide), getD_set_other (show (4 : Nat) ≠ 9 by decide), getD_set_other (show (4 : Nat) ≠ 10 by decide), getD_set_eq hs] using h8
        · simp only [upd_other (show (0 : Nat) ≠ 4 by decide), upd_other (show (3 : Nat) ≠ 4 by decide), upd_other (show (7 : Nat) ≠ 4 by decide), upd_other (show (9 : Nat) ≠ 4 by decide), upd_same, getD_set_other (show (4 : Nat) ≠ 0 by decide), getD_set_other (show (4 : Nat) ≠ 3 by decide), getD_set_other (show (4 : Nat) ≠ 7 by decide), getD_set_other (show (4 : Nat) ≠ 9 by decide), getD_set_other (show (4 : Nat) ≠ 10 by decide), getD_set_eq hs]
          rw [lk, l7] at hC
          rw [l7]
          exact hC.op4
      clear hF hpre hl hfx h8 hC hs
      go_simp
      exact ⟨_, rfl, hgoal⟩
    | 5, ho =>
      simp at ho
      subst ho
      refine step_plain rfl ?_
      have e1 := hF.was 1 (by kernel_rfl) rfl
      have hs : 5 < L.size := by rw [hF.lsize]; decide
      obtain ⟨hfx, h8, hC⟩ := hR
      have hgoal : ∀ v, (∀ u, fxC w AX AY X Y cx cy 5 = some u → v = u) → RC w AX AY X Y cx cy W0 (upd val 5 v) (L.setIfInBounds 5 true) W := fun v hv => by
        refine ⟨fx_step hfx hv, ?_, ?_⟩
        · simpa only [upd_other (show (0 : Nat) ≠ 5 by decide), upd_other (show (3 : Nat) ≠ 5 by decide), upd_other (show (4 : Nat) ≠ 5 by decide), upd_other (show (7 : Nat) ≠ 5 by decide), upd_other (show (8 : Nat) ≠ 5 by decide), upd_other (show (9 : Nat) ≠ 5 by decide), upd_same, getD_set_other (show (5 : Nat) ≠ 0 by decide), getD_set_other (show (5 : Nat) ≠ 3 by decide), getD_set_other (show (5 : Nat) ≠ 4 by decide), getD_set_other (show (5 : Nat) ≠ 7 by decide), getD_set_other (show (5 : Nat) ≠ 8 by decide), getD_set_other (show (5 : Nat) ≠ 9 by decide), getD_set_other (show (5 : Nat) ≠ 10 by decide), getD_set_eq hs] using h8
        · simpa only [upd_other (show (0 : Nat) ≠ 5 by decide), upd_other (show (3 : Nat) ≠ 5 by decide), upd_other (show (4 : Nat) ≠ 5 by decide), upd_other (show (7 : Nat) ≠ 5 by decide), upd_other (show (8 : Nat) ≠ 5 by decide), upd_other (show (9 : Nat) ≠ 5 by decide), upd_same, getD_set_other (show (5 : Nat) ≠ 0 by decide), getD_set_other (show (5 : Nat) ≠ 3 by decide), getD_set_other (show (5 : Nat) ≠ 4 by decide), getD_set_other (show (5 : Nat) ≠ 7 by decide), getD_set_other (show (5 : Nat) ≠ 8 by decide), getD_set_other (show (5 : Nat) ≠ 9 by decide), getD_set_other (show (5 : Nat) ≠ 10 by decide), getD_set_eq hs] using hC
      clear hF hpre hl hfx h8 hC hs
      go_simp
      exact ⟨_, rfl, hgoal _ (by intro u hu; simpa [fxC] using hu)⟩
    | 6, ho =>
      simp at ho
      subst ho
      refine step_plain rfl ?_
      have e10 := hF.gave 5 rfl (hpre ⟨5, .data⟩ (by simp) rfl) rfl
      have hs : 6 < L.size := by rw [hF.lsize]; decide
      obtain ⟨hfx, h8, hC⟩ := hR
      have v5 := hfx 5 _ rfl (hpre ⟨5, .data⟩ (by simp) rfl)
      rw [v5] at e10
      have q0 := cell_keep hC.1 k1
      have hgoal : ∀ v, (∀ u, fxC w AX AY X Y cx cy 6 = some u → v = u) → RC w AX AY X Y cx cy W0 (upd val 6 v) (L.setIfInBounds 6 true) W := fun v hv => by
        refine ⟨fx_step hfx hv, ?_, ?_⟩
        · simpa only [upd_other (show (0 : Nat) ≠ 6 by decide), upd_other (show (3 : Nat) ≠ 6 by decide), upd_other (show (4 : Nat) ≠ 6 by decide), upd_other (show (7 : Nat) ≠ 6 by decide), upd_other (show (8 : Nat) ≠ 6 by decide), upd_other (show (9 : Nat) ≠ 6 by decide), upd_same, getD_set_other (show (6 : Nat) ≠ 0 by decide), getD_set_other (show (6 : Nat) ≠ 3 by decide), getD_set_other (show (6 : Nat) ≠ 4 by decide), getD_set_other (show (6 : Nat) ≠ 7 by decide), getD_set_other (show (6 : Nat) ≠ 8 by decide), getD_set_other (show (6 : Nat) ≠ 9 by decide), getD_set_other (show (6 : Nat) ≠ 10 by decide), getD_set_eq hs] using h8
        · simpa only [upd_other (show (0 : Nat) ≠ 6 by decide), upd_other (show (3 : Nat) ≠ 6 by decide), upd_other (show (4 : Nat) ≠ 6 by decide), upd_other (show (7 : Nat) ≠ 6 by decide), upd_other (show (8 : Nat) ≠ 6 by decide), upd_other (show (9 : Nat) ≠ 6 by decide), upd_same, getD_set_other (show (6 : Nat) ≠ 0 by decide), getD_set_other (show (6 : Nat) ≠ 3 by decide), getD_set_other (show (6 : Nat) ≠ 4 by decide), getD_set_other (show (6 : Nat) ≠ 7 by decide), getD_set_other (show (6 : Nat) ≠ 8 by decide), getD_set_other (show (6 : Nat) ≠ 9 by decide), getD_set_other (show (6 : Nat) ≠ 10 by decide), getD_set_eq hs] using hC
      clear hF hpre hl hfx h8 hC hs
      go_simp
      exact ⟨_, rfl, hgoal _ (by intro u hu; simpa [fxC] using hu)⟩
    | 7, ho =>
      simp at ho
      subst ho
      refine step_plain rfl ?_
      have e9 := hF.gave 4 rfl (hpre ⟨4, .data⟩ (by simp) rfl) rfl
      have e11 := hF.gave 6 rfl (hpre ⟨6, .data⟩ (by simp) rfl) rfl
      have hs : 7 < L.size := by rw [hF.lsize]; decide
      obtain ⟨hfx, h8, hC⟩ := hR
      have lk : L.getD 7 false = false := by rw [← getD_same hs]; exact hl
      have la := hpre ⟨4, .data⟩ (by simp) rfl
      have vl := hfx 6 _ rfl (hpre ⟨6, .data⟩ (by simp) rfl)
      have l8 := hF.later hl 8 rfl (e := ⟨7, .data⟩) (by simp) rfl rfl
      have l10 := hF.later hl 10 rfl (e := ⟨7, .chain⟩) (by simp) rfl rfl
      rw [vl] at e11
      rw [la, lk, l10] at hC
      have hC' := hC
      obtain ⟨hbel, bx, by_, bo, r1, r2, _⟩ := hC'
      have r := r2 rfl
      simp only [Bool.false_eq_true, if_false] at r
      refine wpIn_append_all _ _ _ 22 rfl W0.heap.size 3 i0 (.int .i64 0) 1 8 Try.underlying22 hi0 hz0 hz1 hz2 rfl (by decide) _ 0 [] (by rw [Act.eval, Array.getD_eq_getD_getElem?]; exact e9) r.2.2.2 AY Y.length cy (Y.map (Value.int .i64)) (by rw [Act.eval, Array.getD_eq_getD_getElem?]; exact e11) (by simp) (HY.out.below (hbel.mono (Nat.le_trans hB HB0.out.size))).cells (ints_one _) ?c1 ?c2 hbel.size _ rfl ?_
      case c1 => unfold maxLen; omega
      case c2 => omega
      intro v' w1 hown' hgrow hat hnn
      refine ⟨_, rfl, fx_step hfx (by intro u hu; simp [fxC] at hu), ?_, ?_⟩
      · simp only [upd_other (show (3 : Nat) ≠ 7 by decide), upd_other (show (8 : Nat) ≠ 7 by decide), upd_same, getD_set_other (show (7 : Nat) ≠ 8 by decide)]
        intro h; rw [l8] at h; cases h
      · simp only [upd_other (show (0 : Nat) ≠ 7 by decide), upd_other (show (3 : Nat) ≠ 7 by decide), upd_other (show (4 : Nat) ≠ 7 by decide), upd_other (show (9 : Nat) ≠ 7 by decide), upd_same, getD_set_other (show (7 : Nat) ≠ 0 by decide), getD_set_other (show (7 : Nat) ≠ 3 by decide), getD_set_other (show (7 : Nat) ≠ 4 by decide), getD_set_other (show (7 : Nat) ≠ 9 by decide), getD_set_other (show (7 : Nat) ≠ 10 by decide), getD_set_eq hs]
        rw [la, l10]
        exact hC.op7 hgrow (by simpa using hown') hat
    | 8, ho =>
      simp at ho
      subst ho
      refine step_plain rfl ?_
      have e8 := hF.gave 3 rfl (hpre ⟨3, .data⟩ (by simp) rfl) rfl
      have e12 := hF.gave 7 rfl (hpre ⟨7, .data⟩ (by simp) rfl) rfl
      have hs : 8 < L.size := by rw [hF.lsize]; decide
      obtain ⟨hfx, h8, hC⟩ := hR
      have l3 := hpre ⟨3, .data⟩ (by simp) rfl
      have l7 := hpre ⟨7, .data⟩ (by simp) rfl
      have l0 := hF.closed 3 _ rfl l3 ⟨0, .data⟩ (by simp) rfl
      have l4 := hF.closed 7 _ rfl l7 ⟨4, .data⟩ (by simp) rfl
      have hC' := hC
      obtain ⟨_, bx, by_, bo, r1, r2, _⟩ := hC'
      have r1' := r1 l0
      have r2' := r2 l4
      rw [if_pos l3, if_pos l3] at r1'
      rw [if_pos l7, if_pos l7] at r2'
      obtain ⟨c3, e3, _⟩ := r1'.slice
      obtain ⟨c7, e7, _⟩ := r2'.slice
      have hgoal : ∀ v, v = .agg #[val 3, val 7, .slice none 0 0] → RC w AX AY X Y cx cy W0 (upd val 8 v) (L.setIfInBounds 8 true) W := fun v hv => by
        refine ⟨fx_step hfx (by intro u hu; simp [fxC] at hu), ?_, ?_⟩
        · simpa only [upd_other (show (0 : Nat) ≠ 8 by decide), upd_other (show (3 : Nat) ≠ 8 by decide), upd_other (show (4 : Nat) ≠ 8 by decide), upd_other (show (7 : Nat) ≠ 8 by decide), upd_other (show (9 : Nat) ≠ 8 by decide), upd_same, getD_set_other (show (8 : Nat) ≠ 0 by decide), getD_set_other (show (8 : Nat) ≠ 3 by decide), getD_set_other (show (8 : Nat) ≠ 4 by decide), getD_set_other (show (8 : Nat) ≠ 7 by decide), getD_set_other (show (8 : Nat) ≠ 9 by decide), getD_set_other (show (8 : Nat) ≠ 10 by decide), getD_set_eq hs] using fun _ => hv
        · simpa only [upd_other (show (0 : Nat) ≠ 8 by decide), upd_other (show (3 : Nat) ≠ 8 by decide), upd_other (show (4 : Nat) ≠ 8 by decide), upd_other (show (7 : Nat) ≠ 8 by decide), upd_other (show (9 : Nat) ≠ 8 by decide), upd_same, getD_set_other (show (8 : Nat) ≠ 0 by decide), getD_set_other (show (8 : Nat) ≠ 3 by decide), getD_set_other (show (8 : Nat) ≠ 4 by decide), getD_set_other (show (8 : Nat) ≠ 7 by decide), getD_set_other (show (8 : Nat) ≠ 9 by decide), getD_set_other (show (8 : Nat) ≠ 10 by decide), getD_set_eq hs] using hC
      rw [e3, e7] at hgoal
      rw [e3] at e8
      rw [e7] at e12
      clear hF hpre hl hfx h8 hC hs r1 r2 r1' r2' e3 e7 l0 l3 l4 l7
      go_simp
      exact ⟨_, rfl, hgoal _ rfl⟩
    | 9, ho =>
      simp at ho
      subst ho
      refine step_plain rfl ?_
      have hs : 9 < L.size := by rw [hF.lsize]; decide
      obtain ⟨hfx, h8, hC⟩ := hR
      have lk : L.getD 9 false = false := by rw [← getD_same hs]; exact hl
      have l10 := hF.later hl 10 rfl (e := ⟨9, .data⟩) (by simp) rfl rfl
      have hgoal : RC w AX AY X Y cx cy W0 (upd val 9 (.pointer (some ⟨W.heap.size, 0, none⟩))) (L.setIfInBounds 9 true) (W.alloc (.cells #[.slice none 0 0, .slice none 0 0, .slice none 0 0] 25)) := by
        refine ⟨fx_step hfx (by intro u hu; simp [fxC] at hu), ?_, ?_⟩
        · simpa only [upd_other (show (0 : Nat) ≠ 9 by decide), upd_other (show (3 : Nat) ≠ 9 by decide), upd_other (show (4 : Nat) ≠ 9 by decide), upd_other (show (7 : Nat) ≠ 9 by decide), upd_other (show (8 : Nat) ≠ 9 by decide), upd_same, getD_set_other (show (9 : Nat) ≠ 0 by decide), getD_set_other (show (9 : Nat) ≠ 3 by decide), getD_set_other (show (9 : Nat) ≠ 4 by decide), getD_set_other (show (9 : Nat) ≠ 7 by decide), getD_set_other (show (9 : Nat) ≠ 8 by decide), getD_set_other (show (9 : Nat) ≠ 10 by decide), getD_set_eq hs] using h8
        · simp only [upd_other (show (0 : Nat) ≠ 9 by decide), upd_other (show (3 : Nat) ≠ 9 by decide), upd_other (show (4 : Nat) ≠ 9 by decide), upd_other (show (7 : Nat) ≠ 9 by decide), upd_same, getD_set_other (show (9 : Nat) ≠ 0 by decide), getD_set_other (show (9 : Nat) ≠ 3 by decide), getD_set_other (show (9 : Nat) ≠ 4 by decide), getD_set_other (show (9 : Nat) ≠ 7 by decide), getD_set_other (show (9 : Nat) ≠ 10 by decide), getD_set_eq hs]
          rw [lk, l10] at hC
          rw [l10]
          exact hC.op9
      clear hF hpre hl hfx h8 hC hs
      go_simp
      exact ⟨_, rfl, hgoal⟩
    | 10, ho =>
      simp at ho
      subst ho
      refine step_plain rfl ?_
      have e3 := hF.gave 9 rfl (hpre ⟨9, .data⟩ (by simp) rfl) rfl
      have e13 := hF.gave 8 rfl (hpre ⟨8, .data⟩ (by simp) rfl) rfl
      have hs : 10 < L.size := by rw [hF.lsize]; decide
      obtain ⟨hfx, h8, hC⟩ := hR
      have lk : L.getD 10 false = false := by rw [← getD_same hs]; exact hl
      have l9 := hpre ⟨9, .data⟩ (by simp) rfl
      have l8 := hpre ⟨8, .data⟩ (by simp) rfl
      have l7 := hpre ⟨7, .chain⟩ (by simp) rfl
      have l3 := hpre ⟨3, .phase⟩ (by simp) rfl
      have l0 := hpre ⟨0, .phase⟩ (by simp) rfl
      have l4 := hpre ⟨4, .phase⟩ (by simp) rfl
      rw [l0, l3, l4, l7, l9, lk] at hC
      have v8 := h8 l8
      rw [v8] at e13
      obtain ⟨bo, e9, hbl, hC1⟩ := hC.op10
      rw [e9] at e3
      have c0 : W.cell? ⟨bo, 0, none⟩ = some (.slice none 0 0) := block_cell hbl
      have c1 : W.cell? ⟨bo, 1, none⟩ = some (.slice none 0 0) := block_cell hbl
      have c2 : W.cell? ⟨bo, 2, none⟩ = some (.slice none 0 0) := block_cell hbl
      have z0 : W.frozen? ⟨bo, 0, none⟩ = false := block_frozen hbl
      have z1 : W.frozen? ⟨bo, 1, none⟩ = false := block_frozen hbl
      have z2 : W.frozen? ⟨bo, 2, none⟩ = false := block_frozen hbl
      have hgoal : RC w AX AY X Y cx cy W0 (upd val 10 undef) (L.setIfInBounds 10 true) (((W.setCell ⟨bo, 0, none⟩ (val 3)).setCell ⟨bo, 1, none⟩ (val 7)).setCell ⟨bo, 2, none⟩ (.slice none 0 0)) := by
        refine ⟨fx_step hfx (by intro u hu; simp [fxC] at hu), ?_, ?_⟩
        · simpa only [upd_other (show (0 : Nat) ≠ 10 by decide), upd_other (show (3 : Nat) ≠ 10 by decide), upd_other (show (4 : Nat) ≠ 10 by decide), upd_other (show (7 : Nat) ≠ 10 by decide), upd_other (show (8 : Nat) ≠ 10 by decide), upd_other (show (9 : Nat) ≠ 10 by decide), upd_same, getD_set_other (show (10 : Nat) ≠ 0 by decide), getD_set_other (show (10 : Nat) ≠ 3 by decide), getD_set_other (show (10 : Nat) ≠ 4 by decide), getD_set_other (show (10 : Nat) ≠ 7 by decide), getD_set_other (show (10 : Nat) ≠ 8 by decide), getD_set_other (show (10 : Nat) ≠ 9 by decide), getD_set_eq hs] using h8
        · simp only [upd_other (show (0 : Nat) ≠ 10 by decide), upd_other (show (3 : Nat) ≠ 10 by decide), upd_other (show (4 : Nat) ≠ 10 by decide), upd_other (show (7 : Nat) ≠ 10 by decide), upd_other (show (9 : Nat) ≠ 10 by decide), getD_set_other (show (10 : Nat) ≠ 0 by decide), getD_set_other (show (10 : Nat) ≠ 3 by decide), getD_set_other (show (10 : Nat) ≠ 4 by decide), getD_set_other (show (10 : Nat) ≠ 7 by decide), getD_set_other (show (10 : Nat) ≠ 9 by decide), getD_set_eq hs]
          rw [l0, l3, l4, l7, l9]
          exact hC1
      have hC' := hC1
      obtain ⟨_, bx, by_, _, r1, r2, _⟩ := hC'
      have r1' := r1 rfl
      have r2' := r2 rfl
      rw [if_pos rfl, if_pos rfl] at r1' r2'
      obtain ⟨c3, e3', _⟩ := r1'.slice
      obtain ⟨c7, e7', _⟩ := r2'.slice
      rw [e3', e7'] at hgoal e13
      clear hF hpre hl hfx h8 hC hs hC1 hbl e9 v8 r1 r2 r1' r2' e3' e7' l0 l3 l4 l7 l8 l9 lk
      go_simp
      exact ⟨undef, hgoal⟩
    | i + 11, ho => simp at ho
  case hend =>
    intro val L b W hF hall hR
    obtain ⟨hfx, h8, hC⟩ := hR
    have e := hF.all (by kernel_rfl) hall
    have l0 := hall 0 (by decide)
    have l3 := hall 3 (by decide)
    have l4 := hall 4 (by decide)
    have l7 := hall 7 (by decide)
    have l9 := hall 9 (by decide)
    have l10 := hall 10 (by decide)
    rw [l0, l3, l4, l7, l9, l10] at hC
    obtain ⟨hbel, bx, by_, bo, r1, r2, r3, r4, r5, r6⟩ := hC
    have r1' := r1 rfl
    have r2' := r2 rfl
    obtain ⟨e9, o1, o2⟩ := r3 rfl
    rw [if_pos rfl, if_pos rfl] at r1' r2'
    rw [if_pos rfl, if_pos rfl] at o2
    have nxo := r5 rfl rfl
    have nyo := r6 rfl rfl
    obtain ⟨c3, e3, rx⟩ := r1'.slice
    obtain ⟨c7, e7, ry⟩ := r2'.slice
    rw [e3, e7] at o2
    have hbW : Below w.heap.size w W := HB0.out.trans (hbel.mono HB0.out.size)
    have t0 : W.cell? ⟨w.heap.size, 2, none⟩ = some (.slice AV V.length cv) := cell_keep hbel k2
    have hRR : RR W B AV V := HV.out.below (hbel.mono (Nat.le_trans hB HB0.out.size))
    have hxl : bx < W.heap.size := r1'.2.1
    have hxb : w.heap.size + 2 ≤ bx := by have := HZ.out; have := r1'.1; omega
    have hyb : w.heap.size + 2 ≤ by_ := by have := HZ.out; have := r2'.1; omega
    have hyl : by_ < W.heap.size := r2'.2.1
    have hol : bo < W.heap.size := (Array.getElem?_eq_some_iff.1 o2).1
    have hbo : w.heap.size + 2 ≤ bo := by have := HZ.out; omega
    have tz : ∀ k, k < 3 → W.cell? ⟨w.heap.size + 1, k, none⟩ = some (.slice none 0 0) := fun k hk => cell_keep hbel (k3 k hk)
    have tf : ∀ k, k < 3 → W.frozen? ⟨w.heap.size + 1, k, none⟩ = false := fun k hk => (hbel.frozen (p := ⟨w.heap.size + 1, k, none⟩) (by have := HZ.out; simp; omega)).trans (k4 k hk)
    have HRX := Lib.hid rx
    have HRY := Lib.hid ry
    have HRR := Lib.hid hRR
    have HBW := Lib.hid hbW
    have HO := Lib.hid o2
    have hle : w.heap.size + 2 ≤ W.heap.size := by have := HZ.out; have := hbel.size; omega
    have HLE := Lib.hid hle
    clear hF hall hfx h8 hbel r1 r2 r3 r4 r5 r6 r1' r2' o1 o2 rx ry hRR hbW l0 l3 l4 l7 l9 l10 k0 k1 k2 k3 k4 HX HY HV HZ HB0 hle
    subst e
    simp [final, dstOf, List.range, List.range.loop]
    rw [e9, e3, e7]
    clear e9 e3 e7
    generalize val 0 = v0, val 1 = v1, val 2 = v2, val 4 = v4, val 5 = v5, val 6 = v6, val 8 = v8
    go_wp2_with fail
    go_loopw [4] (fun i wr => ∃ k : Nat, k ≤ V.length ∧ i = .int .i64 k ∧ ∃ rv vs, wr.ownsRow W.heap.size 22 1 rv k vs ∧ Rows_ W.heap.size wr (V.take k) rv vs ∧
      wr.heap[bo]? = some (.cells #[.slice (some ⟨bx, 0, none⟩) X.length c3, .slice (some ⟨by_, 0, none⟩) Y.length c7, rv] 25 (0, 0)) ∧ (∀ b, b < W.heap.size → b ≠ bo → wr.heap[b]? = W.heap[b]?) ∧ W.heap.size ≤ wr.heap.size ∧ Below w.heap.size w wr) (fun i _ => V.length - (intOf i).toNat)
    case atStart => exact ⟨0, by omega, rfl, .slice none 0 0, [], ⟨by simp, .inl ⟨rfl, rfl⟩⟩, ⟨by simp, by simp⟩, HO.out, fun _ _ _ => rfl, Nat.le_refl _, HBW.out⟩
    case round =>
      obtain ⟨k, hk, rfl, rv, vs, hown, hrows, hbox, hkeep, hsz, hbw⟩ := hrel
      have hle := HLE.out
      have hwl : w.heap.size < W.heap.size := by omega
      have q2 : wr.cell? ⟨w.heap.size, 2, none⟩ = some (.slice AV V.length cv) := (cell_same (hkeep _ hwl (by omega))).trans t0
      have hrvM : ∀ q, rv.ownBlock = some q → W.heap.size ≤ q := fun q hq => own_base hown hq
      have hrvlt : ∀ q, rv.ownBlock = some q → q < wr.heap.size := fun q hq => own_lt hown hq
      have hcell : ∀ {x' : World} {g o : Nat} {v : Value}, wr.grownBy x' rv.ownBlock → g < W.heap.size → wr.cell? ⟨g, o, none⟩ = some v → x'.cell? ⟨g, o, none⟩ = some v := fun {x' g o v} hg hlt hc =>
        (cell_same (hg.block g (by omega) (fun h => by have := hrvM g h.symm; omega))).trans hc
      by_cases hlt : k < V.length
      · obtain ⟨b, off, r, A', c', rfl, hb, hr, hc, hri⟩ := HRR.out.at_ hlt
        have hbl : b < W.heap.size := by omega
        have hc' : wr.cell? ⟨b, off + k, none⟩ = some (.slice A' r.length c') := (cell_same (hkeep b hbl (by omega))).trans hc
        have hri' : RI wr B A' r := RV.keep hri (fun p hp => World.cell?_of_block (hkeep p.block (by omega) (by omega)))
        have hrl : r.length ≤ 1000000 := hnr r (List.mem_of_getElem? hr)
        have HR := Lib.hid hr
        have HKP := Lib.hid hkeep
        have HOW := Lib.hid hown
        have HRO := Lib.hid hrows
        have HBR := Lib.hid hbw
        clear hr hc hri hkeep hown hrows hbw
        go_upto_region 5 with fail
        refine wpIn_wide.1 (region_inv2 (n := 9) (by kernel_rfl) (R5 (fx5 w.heap.size b off V.length cv k A' r.length c' bo rv) wr W.heap.size k rv vs r bo) (by kernel_rfl) rfl ⟨(by intro j u _ hl; rw [getD_replicate_no] at hl; cases hl), (fun _ => by simp only [getD_replicate_no]; exact S5.start HOW.out), (by intro hl; rw [getD_replicate_no] at hl; cases hl)⟩ ?hstep ?hend)
        case hstep =>
          intro i' o ho val L b' x' hF hR hpre hl
          match i', ho with
          | 0, ho =>
            simp at ho
            subst ho
            refine step_plain rfl ?_
            have e3 := hF.was 3 (by kernel_rfl) rfl
            have hs : 0 < L.size := by rw [hF.lsize]; decide
            obtain ⟨hfx, hA, hZ⟩ := hR
            have l12 := hF.later hl 12 rfl (e := ⟨0, .phase⟩) (by simp) rfl rfl
            have hS := hA l12
            have hgoal : ∀ v, (∀ u, fx5 w.heap.size b off V.length cv k A' r.length c' bo rv 0 = some u → v = u) → R5 (fx5 w.heap.size b off V.length cv k A' r.length c' bo rv) wr W.heap.size k rv vs r bo (upd val 0 v) (L.setIfInBounds 0 true) x' := fun v hv => by
              refine ⟨fx_step hfx hv, ?_, ?_⟩
              · simpa only [upd_other (show (2 : Nat) ≠ 0 by decide), upd_other (show (8 : Nat) ≠ 0 by decide), upd_other (show (9 : Nat) ≠ 0 by decide), upd_other (show (10 : Nat) ≠ 0 by decide), upd_same, getD_set_other (show (0 : Nat) ≠ 2 by decide), getD_set_other (show (0 : Nat) ≠ 8 by decide), getD_set_other (show (0 : Nat) ≠ 9 by decide), getD_set_other (show (0 : Nat) ≠ 10 by decide), getD_set_other (show (0 : Nat) ≠ 12 by decide), getD_set_eq hs] using hA
              · simpa only [upd_other (show (2 : Nat) ≠ 0 by decide), upd_other (show (8 : Nat) ≠ 0 by decide), upd_other (show (9 : Nat) ≠ 0 by decide), upd_other (show (10 : Nat) ≠ 0 by decide), upd_same, getD_set_other (show (0 : Nat) ≠ 2 by decide), getD_set_other (show (0 : Nat) ≠ 8 by decide), getD_set_other (show (0 : Nat) ≠ 9 by decide), getD_set_other (show (0 : Nat) ≠ 10 by decide), getD_set_other (show (0 : Nat) ≠ 12 by decide), getD_set_eq hs] using hZ
            clear hF hpre hl hfx hA hZ hS hs l12
            go_simp
            exact ⟨_, rfl, hgoal _ (by intro u hu; simpa [fx5] using hu)⟩
          | 1, ho =>
            simp at ho
            subst ho
            refine step_plain rfl ?_
            have e21 := hF.gave 0 rfl (hpre ⟨0, .data⟩ (by simp) rfl) rfl
            have hs : 1 < L.size := by rw [hF.lsize]; decide
            obtain ⟨hfx, hA, hZ⟩ := hR
            have l12 := hF.later hl 12 rfl (e := ⟨1, .phase⟩) (by simp) rfl rfl
            have hS := hA l12
            have v0 := hfx 0 _ rfl (hpre ⟨0, .data⟩ (by simp) rfl)
            rw [v0] at e21
            have q0 := hcell hS.1 hol (block_cell (o := 2) hbox)
            have hgoal : ∀ v, (∀ u, fx5 w.heap.size b off V.length cv k A' r.length c' bo rv 1 = some u → v = u) → R5 (fx5 w.heap.size b off V.length cv k A' r.length c' bo rv) wr W.heap.size k rv vs r bo (upd val 1 v) (L.setIfInBounds 1 true) x' := fun v hv => by
              refine ⟨fx_step hfx hv, ?_, ?_⟩
              · simpa only [upd_other (show (2 : Nat) ≠ 1 by decide), upd_other (show (8 : Nat) ≠ 1 by decide), upd_other (show (9 : Nat) ≠ 1 by decide), upd_other (show (10 : Nat) ≠ 1 by decide), upd_same, getD_set_other (show (1 : Nat) ≠ 2 by decide), getD_set_other (show (1 : Nat) ≠ 8 by decide), getD_set_other (show (1 : Nat) ≠ 9 by decide), getD_set_other (show (1 : Nat) ≠ 10 by decide), getD_set_other (show (1 : Nat) ≠ 12 by decide), getD_set_eq hs] using hA
              · simpa only [upd_other (show (2 : Nat) ≠ 1 by decide), upd_other (show (8 : Nat) ≠ 1 by decide), upd_other (show (9 : Nat) ≠ 1 by decide), upd_other (show (10 : Nat) ≠ 1 by decide), upd_same, getD_set_other (show (1 : Nat) ≠ 2 by decide), getD_set_other (show (1 : Nat) ≠ 8 by decide), getD_set_other (show (1 : Nat) ≠ 9 by decide), getD_set_other (show (1 : Nat) ≠ 10 by decide), getD_set_other (show (1 : Nat) ≠ 12 by decide), getD_set_eq hs] using hZ
            clear hF hpre hl hfx hA hZ hS hs l12
            go_simp
            exact ⟨_, rfl, hgoal _ (by intro u hu; simpa [fx5] using hu)⟩
          | 2, ho =>
            simp at ho
            subst ho
            refine step_plain rfl ?_
            have hs : 2 < L.size := by rw [hF.lsize]; decide
            obtain ⟨hfx, hA, hZ⟩ := hR
            have l12 := hF.later hl 12 rfl (e := ⟨2, .phase⟩) (by simp) rfl rfl
            have hS := hA l12
            have lk : L.getD 2 false = false := by rw [← getD_same hs]; exact hl
            have l8 := hF.later hl 8 rfl (e := ⟨2, .data⟩) (by simp) rfl rfl
            have l9 : L.getD 9 false = false := getD_no_of hF 9 8 rfl (e := ⟨8, .data⟩) (by simp) rfl rfl l8
            have l10 : L.getD 10 false = false := getD_no_of hF 10 9 rfl (e := ⟨9, .data⟩) (by simp) rfl rfl l9
            rw [lk, l8, l9, l10] at hS
            have hgoal : R5 (fx5 w.heap.size b off V.length cv k A' r.length c' bo rv) wr W.heap.size k rv vs r bo (upd val 2 (.slice (some ⟨x'.heap.size, 0, none⟩) 0 0)) (L.setIfInBounds 2 true) (x'.alloc (.cells #[] 3)) := by
              refine ⟨fx_step hfx (by intro u hu; simp [fx5] at hu), ?_, ?_⟩
              · simp only [upd_other (show (8 : Nat) ≠ 2 by decide), upd_other (show (9 : Nat) ≠ 2 by decide), upd_other (show (10 : Nat) ≠ 2 by decide), upd_same, getD_set_other (show (2 : Nat) ≠ 8 by decide), getD_set_other (show (2 : Nat) ≠ 9 by decide), getD_set_other (show (2 : Nat) ≠ 10 by decide), getD_set_other (show (2 : Nat) ≠ 12 by decide), getD_set_eq hs]
                intro _
                rw [l8, l9, l10]
                exact hS.op2 hsz
              · simp only [upd_other (show (8 : Nat) ≠ 2 by decide), upd_other (show (9 : Nat) ≠ 2 by decide), upd_other (show (10 : Nat) ≠ 2 by decide), upd_same, getD_set_other (show (2 : Nat) ≠ 12 by decide)]
                intro h; rw [l12] at h; cases h
            clear hF hpre hl hfx hA hZ hS hs l12 lk l8 l9 l10
            go_simp
            exact ⟨_, rfl, hgoal⟩
          | 3, ho =>
            simp at ho
            subst ho
            refine step_plain rfl ?_
            have e1 := hF.was 1 (by kernel_rfl) rfl
            have hs : 3 < L.size := by rw [hF.lsize]; decide
            obtain ⟨hfx, hA, hZ⟩ := hR
            have l12 := hF.later hl 12 rfl (e := ⟨3, .phase⟩) (by simp) rfl rfl
            have hS := hA l12
            have hgoal : ∀ v, (∀ u, fx5 w.heap.size b off V.length cv k A' r.length c' bo rv 3 = some u → v = u) → R5 (fx5 w.heap.size b off V.length cv k A' r.length c' bo rv) wr W.heap.size k rv vs r bo (upd val 3 v) (L.setIfInBounds 3 true) x' := fun v hv => by
              refine ⟨fx_step hfx hv, ?_, ?_⟩
              · simpa only [upd_other (show (2 : Nat) ≠ 3 by decide), upd_other (show (8 : Nat) ≠ 3 by decide), upd_other (show (9 : Nat) ≠ 3 by decide), upd_other (show (10 : Nat) ≠ 3 by decide), upd_same, getD_set_other (show (3 : Nat) ≠ 2 by decide), getD_set_other (show (3 : Nat) ≠ 8 by decide), getD_set_other (show (3 : Nat) ≠ 9 by decide), getD_set_other (show (3 : Nat) ≠ 10 by decide), getD_set_other (show (3 : Nat) ≠ 12 by decide), getD_set_eq hs] using hA
              · simpa only [upd_other (show (2 : Nat) ≠ 3 by decide), upd_other (show (8 : Nat) ≠ 3 by decide), upd_other (show (9 : Nat) ≠ 3 by decide), upd_other (show (10 : Nat) ≠ 3 by decide), upd_same, getD_set_other (show (3 : Nat) ≠ 2 by decide), getD_set_other (show (3 : Nat) ≠ 8 by decide), getD_set_other (show (3 : Nat) ≠ 9 by decide), getD_set_other (show (3 : Nat) ≠ 10 by decide), getD_set_other (show (3 : Nat) ≠ 12 by decide), getD_set_eq hs] using hZ
            clear hF hpre hl hfx hA hZ hS hs l12
            go_simp
            exact ⟨_, rfl, hgoal _ (by intro u hu; simpa [fx5] using hu)⟩
          | 4, ho =>
            simp at ho
            subst ho
            refine step_plain rfl ?_
            have e24 := hF.gave 3 rfl (hpre ⟨3, .data⟩ (by simp) rfl) rfl
            have hs : 4 < L.size := by rw [hF.lsize]; decide
            obtain ⟨hfx, hA, hZ⟩ := hR
            have l12 := hF.later hl 12 rfl (e := ⟨4, .phase⟩) (by simp) rfl rfl
            have hS := hA l12
            have v3 := hfx 3 _ rfl (hpre ⟨3, .data⟩ (by simp) rfl)
            rw [v3] at e24
            have q0 := hcell hS.1 hwl q2
            have hgoal : ∀ v, (∀ u, fx5 w.heap.size b off V.length cv k A' r.length c' bo rv 4 = some u → v = u) → R5 (fx5 w.heap.size b off V.length cv k A' r.length c' bo rv) wr W.heap.size k rv vs r bo (upd val 4 v) (L.setIfInBounds 4 true) x' := fun v hv => by
              refine ⟨fx_step hfx hv, ?_, ?_⟩
              · simpa only [upd_other (show (2 : Nat) ≠ 4 by decide), upd_other (show (8 : Nat) ≠ 4 by decide), upd_other (show (9 : Nat) ≠ 4 by decide), upd_other (show (10 : Nat) ≠ 4 by decide), upd_same, getD_set_other (show (4 : Nat) ≠ 2 by decide), getD_set_other (show (4 : Nat) ≠ 8 by decide), getD_set_other (show (4 : Nat) ≠ 9 by decide), getD_set_other (show (4 : Nat) ≠ 10 by decide), getD_set_other (show (4 : Nat) ≠ 12 by decide), getD_set_eq hs] using hA
              · simpa only [upd_other (show (2 : Nat) ≠ 4 by decide), upd_other (show (8 : Nat) ≠ 4 by decide), upd_other (show (9 : Nat) ≠ 4 by decide), upd_other (show (10 : Nat) ≠ 4 by decide), upd_same, getD_set_other (show (4 : Nat) ≠ 2 by decide), getD_set_other (show (4 : Nat) ≠ 8 by decide), getD_set_other (show (4 : Nat) ≠ 9 by decide), getD_set_other (show (4 : Nat) ≠ 10 by decide), getD_set_other (show (4 : Nat) ≠ 12 by decide), getD_set_eq hs] using hZ
            clear hF hpre hl hfx hA hZ hS hs l12
            go_simp
            exact ⟨_, rfl, hgoal _ (by intro u hu; simpa [fx5] using hu)⟩
          | 5, ho =>
            simp at ho
            subst ho
            refine step_plain rfl ?_
            have e4 := hF.was 4 (by kernel_rfl) rfl
            have hs : 5 < L.size := by rw [hF.lsize]; decide
            obtain ⟨hfx, hA, hZ⟩ := hR
            have l12 := hF.later hl 12 rfl (e := ⟨5, .phase⟩) (by simp) rfl rfl
            have hS := hA l12
            have hgoal : ∀ v, (∀ u, fx5 w.heap.size b off V.length cv k A' r.length c' bo rv 5 = some u → v = u) → R5 (fx5 w.heap.size b off V.length cv k A' r.length c' bo rv) wr W.heap.size k rv vs r bo (upd val 5 v) (L.setIfInBounds 5 true) x' := fun v hv => by
              refine ⟨fx_step hfx hv, ?_, ?_⟩
              · simpa only [upd_other (show (2 : Nat) ≠ 5 by decide), upd_other (show (8 : Nat) ≠ 5 by decide), upd_other (show (9 : Nat) ≠ 5 by decide), upd_other (show (10 : Nat) ≠ 5 by decide), upd_same, getD_set_other (show (5 : Nat) ≠ 2 by decide), getD_set_other (show (5 : Nat) ≠ 8 by decide), getD_set_other (show (5 : Nat) ≠ 9 by decide), getD_set_other (show (5 : Nat) ≠ 10 by decide), getD_set_other (show (5 : Nat) ≠ 12 by decide), getD_set_eq hs] using hA
              · simpa only [upd_other (show (2 : Nat) ≠ 5 by decide), upd_other (show (8 : Nat) ≠ 5 by decide), upd_other (show (9 : Nat) ≠ 5 by decide), upd_other (show (10 : Nat) ≠ 5 by decide), upd_same, getD_set_other (show (5 : Nat) ≠ 2 by decide), getD_set_other (show (5 : Nat) ≠ 8 by decide), getD_set_other (show (5 : Nat) ≠ 9 by decide), getD_set_other (show (5 : Nat) ≠ 10 by decide), getD_set_other (show (5 : Nat) ≠ 12 by decide), getD_set_eq hs] using hZ
            clear hF hpre hl hfx hA hZ hS hs l12
            go_simp
            exact ⟨_, rfl, hgoal _ (by intro u hu; simpa [fx5] using hu)⟩
          | 6, ho =>
            simp at ho
            subst ho
            refine step_plain rfl ?_
            have e25 := hF.gave 4 rfl (hpre ⟨4, .data⟩ (by simp) rfl) rfl
            have e26 := hF.gave 5 rfl (hpre ⟨5, .data⟩ (by simp) rfl) rfl
            have hs : 6 < L.size := by rw [hF.lsize]; decide
            obtain ⟨hfx, hA, hZ⟩ := hR
            have l12 := hF.later hl 12 rfl (e := ⟨6, .phase⟩) (by simp) rfl rfl
            have hS := hA l12
            have v4 := hfx 4 _ rfl (hpre ⟨4, .data⟩ (by simp) rfl)
            rw [v4] at e25
            have v5 := hfx 5 _ rfl (hpre ⟨5, .data⟩ (by simp) rfl)
            rw [v5] at e26
            have hgoal : ∀ v, (∀ u, fx5 w.heap.size b off V.length cv k A' r.length c' bo rv 6 = some u → v = u) → R5 (fx5 w.heap.size b off V.length cv k A' r.length c' bo rv) wr W.heap.size k rv vs r bo (upd val 6 v) (L.setIfInBounds 6 true) x' := fun v hv => by
              refine ⟨fx_step hfx hv, ?_, ?_⟩
              · simpa only [upd_other (show (2 : Nat) ≠ 6 by decide), upd_other (show (8 : Nat) ≠ 6 by decide), upd_other (show (9 : Nat) ≠ 6 by decide), upd_other (show (10 : Nat) ≠ 6 by decide), upd_same, getD_set_other (show (6 : Nat) ≠ 2 by decide), getD_set_other (show (6 : Nat) ≠ 8 by decide), getD_set_other (show (6 : Nat) ≠ 9 by decide), getD_set_other (show (6 : Nat) ≠ 10 by decide), getD_set_other (show (6 : Nat) ≠ 12 by decide), getD_set_eq hs] using hA
              · simpa only [upd_other (show (2 : Nat) ≠ 6 by decide), upd_other (show (8 : Nat) ≠ 6 by decide), upd_other (show (9 : Nat) ≠ 6 by decide), upd_other (show (10 : Nat) ≠ 6 by decide), upd_same, getD_set_other (show (6 : Nat) ≠ 2 by decide), getD_set_other (show (6 : Nat) ≠ 8 by decide), getD_set_other (show (6 : Nat) ≠ 9 by decide), getD_set_other (show (6 : Nat) ≠ 10 by decide), getD_set_other (show (6 : Nat) ≠ 12 by decide), getD_set_eq hs] using hZ
            clear hF hpre hl hfx hA hZ hS hs l12
            go_simp
            exact ⟨_, rfl, hgoal _ (by intro u hu; simpa [fx5] using hu)⟩
          | 7, ho =>
            simp at ho
            subst ho
            refine step_plain rfl ?_
            have e27 := hF.gave 6 rfl (hpre ⟨6, .data⟩ (by simp) rfl) rfl
            have hs : 7 < L.size := by rw [hF.lsize]; decide
            obtain ⟨hfx, hA, hZ⟩ := hR
            have l12 := hF.later hl 12 rfl (e := ⟨7, .phase⟩) (by simp) rfl rfl
            have hS := hA l12
            have v6 := hfx 6 _ rfl (hpre ⟨6, .data⟩ (by simp) rfl)
            rw [v6] at e27
            have q0 := hcell hS.1 hbl hc'
            have hgoal : ∀ v, (∀ u, fx5 w.heap.size b off V.length cv k A' r.length c' bo rv 7 = some u → v = u) → R5 (fx5 w.heap.size b off V.length cv k A' r.length c' bo rv) wr W.heap.size k rv vs r bo (upd val 7 v) (L.setIfInBounds 7 true) x' := fun v hv => by
              refine ⟨fx_step hfx hv, ?_, ?_⟩
              · simpa only [upd_other (show (2 : Nat) ≠ 7 by decide), upd_other (show (8 : Nat) ≠ 7 by decide), upd_other (show (9 : Nat) ≠ 7 by decide), upd_other (show (10 : Nat) ≠ 7 by decide), upd_same, getD_set_other (show (7 : Nat) ≠ 2 by decide), getD_set_other (show (7 : Nat) ≠ 8 by decide), getD_set_other (show (7 : Nat) ≠ 9 by decide), getD_set_other (show (7 : Nat) ≠ 10 by decide), getD_set_other (show (7 : Nat) ≠ 12 by decide), getD_set_eq hs] using hA
              · simpa only [upd_other (show (2 : Nat) ≠ 7 by decide), upd_other (show (8 : Nat) ≠ 7 by decide), upd_other (show (9 : Nat) ≠ 7 by decide), upd_other (show (10 : Nat) ≠ 7 by decide), upd_same, getD_set_other (show (7 : Nat) ≠ 2 by decide), getD_set_other (show (7 : Nat) ≠ 8 by decide), getD_set_other (show (7 : Nat) ≠ 9 by decide), getD_set_other (show (7 : Nat) ≠ 10 by decide), getD_set_other (show (7 : Nat) ≠ 12 by decide), getD_set_eq hs] using hZ
            clear hF hpre hl hfx hA hZ hS hs l12
            go_simp
            exact ⟨_, rfl, hgoal _ (by intro u hu; simpa [fx5] using hu)⟩
          | 8, ho =>
            simp at ho
            subst ho
            refine step_plain rfl ?_
            have e23 := hF.gave 2 rfl (hpre ⟨2, .data⟩ (by simp) rfl) rfl
            have e28 := hF.gave 7 rfl (hpre ⟨7, .data⟩ (by simp) rfl) rfl
            have hs : 8 < L.size := by rw [hF.lsize]; decide
            obtain ⟨hfx, hA, hZ⟩ := hR
            have l12 := hF.later hl 12 rfl (e := ⟨8, .phase⟩) (by simp) rfl rfl
            have hS := hA l12
            have v7 := hfx 7 _ rfl (hpre ⟨7, .data⟩ (by simp) rfl)
            rw [v7] at e28
            have lk : L.getD 8 false = false := by rw [← getD_same hs]; exact hl
            have l2 := hpre ⟨2, .data⟩ (by simp) rfl
            have l9 := hF.later hl 9 rfl (e := ⟨8, .data⟩) (by simp) rfl rfl
            have l10 := hF.later hl 10 rfl (e := ⟨8, .chain⟩) (by simp) rfl rfl
            rw [lk, l2, l9, l10] at hS
            have hS' := hS
            obtain ⟨hgr, _, g, hg3, hg4, _⟩ := hS'
            have hx := hg4 rfl
            rw [if_neg (by decide), if_neg (by decide)] at hx
            have hle := hgr.size
            refine wpIn_append_all _ _ _ 22 rfl W.heap.size 3 i0 (.int .i64 0) 1 8 Try.underlying22 hi0 hz0 hz1 hz2 rfl (by decide) _ 0 [] (by rw [Act.eval, Array.getD_eq_getD_getElem?]; exact e23) hx.2.2.2 A' r.length c' (r.map (Value.int .i64)) (by rw [Act.eval, Array.getD_eq_getD_getElem?]; exact e28) (by simp) (hri'.cells_grown hgr (by omega) (fun q hq => by have := hrvM q hq; omega)) (ints_one _) ?c1 ?c2 (by omega) _ rfl ?_
            case c1 => unfold maxLen; omega
            case c2 => omega
            intro v' w1 hown' hgrow hat hnn
            refine ⟨_, rfl, fx_step hfx (by intro u hu; simp [fx5] at hu), ?_, ?_⟩
            · simp only [upd_other (show (2 : Nat) ≠ 8 by decide), upd_other (show (9 : Nat) ≠ 8 by decide), upd_other (show (10 : Nat) ≠ 8 by decide), upd_same, getD_set_other (show (8 : Nat) ≠ 2 by decide), getD_set_other (show (8 : Nat) ≠ 9 by decide), getD_set_other (show (8 : Nat) ≠ 10 by decide), getD_set_other (show (8 : Nat) ≠ 12 by decide), getD_set_eq hs]
              intro _
              rw [l2, l9, l10]
              exact hS.op8 hrvlt hgrow (by simpa using hown') hat
            · simp only [upd_other (show (2 : Nat) ≠ 8 by decide), upd_other (show (9 : Nat) ≠ 8 by decide), upd_other (show (10 : Nat) ≠ 8 by decide), upd_same, getD_set_other (show (8 : Nat) ≠ 12 by decide)]
              intro h; rw [l12] at h; cases h
          | 9, ho =>
            simp at ho
            subst ho
            refine step_plain rfl ?_
            have e29 := hF.gave 8 rfl (hpre ⟨8, .data⟩ (by simp) rfl) rfl
            have hs : 9 < L.size := by rw [hF.lsize]; decide
            obtain ⟨hfx, hA, hZ⟩ := hR
            have l12 := hF.later hl 12 rfl (e := ⟨9, .phase⟩) (by simp) rfl rfl
            have hS := hA l12
            have lk : L.getD 9 false = false := by rw [← getD_same hs]; exact hl
            have l8 := hpre ⟨8, .data⟩ (by simp) rfl
            have l2 := hF.closed 8 _ rfl l8 ⟨2, .data⟩ (by simp) rfl
            have l10 := hF.later hl 10 rfl (e := ⟨9, .data⟩) (by simp) rfl rfl
            rw [lk, l8, l2, l10] at hS
            have hx8 := hS.2.2
            obtain ⟨g8, _, hx8, _⟩ := hx8
            have hx8' := hx8 rfl
            rw [if_pos rfl, if_pos rfl] at hx8'
            obtain ⟨c8, e8, _⟩ := hx8'.slice
            have hgoal : R5 (fx5 w.heap.size b off V.length cv k A' r.length c' bo rv) wr W.heap.size k rv vs r bo (upd val 9 (.slice (some ⟨x'.heap.size, 0, none⟩) 1 1)) (L.setIfInBounds 9 true) (x'.alloc (.cells #[val 8] 22)) := by
              refine ⟨fx_step hfx (by intro u hu; simp [fx5] at hu), ?_, ?_⟩
              · simp only [upd_other (show (2 : Nat) ≠ 9 by decide), upd_other (show (8 : Nat) ≠ 9 by decide), upd_other (show (10 : Nat) ≠ 9 by decide), upd_same, getD_set_other (show (9 : Nat) ≠ 2 by decide), getD_set_other (show (9 : Nat) ≠ 8 by decide), getD_set_other (show (9 : Nat) ≠ 10 by decide), getD_set_other (show (9 : Nat) ≠ 12 by decide), getD_set_eq hs]
                intro _
                rw [l8, l2, l10]
                exact hS.op9
              · simp only [upd_other (show (2 : Nat) ≠ 9 by decide), upd_other (show (8 : Nat) ≠ 9 by decide), upd_other (show (10 : Nat) ≠ 9 by decide), upd_same, getD_set_other (show (9 : Nat) ≠ 12 by decide)]
                intro h; rw [l12] at h; cases h
            rw [e8] at hgoal e29
            clear hF hpre hl hfx hA hZ hS hs l12 lk l8 l2 l10 hx8 hx8' e8
            go_simp
            exact ⟨_, rfl, hgoal⟩
          | 10, ho =>
            simp at ho
            subst ho
            refine step_plain rfl ?_
            have e22 := hF.gave 1 rfl (hpre ⟨1, .data⟩ (by simp) rfl) rfl
            have e30 := hF.gave 9 rfl (hpre ⟨9, .data⟩ (by simp) rfl) rfl
            have hs : 10 < L.size := by rw [hF.lsize]; decide
            obtain ⟨hfx, hA, hZ⟩ := hR
            have l12 := hF.later hl 12 rfl (e := ⟨10, .data⟩) (by simp) rfl rfl
            have hS := hA l12
            have v1 := hfx 1 _ rfl (hpre ⟨1, .data⟩ (by simp) rfl)
            rw [v1] at e22
            have lk : L.getD 10 false = false := by rw [← getD_same hs]; exact hl
            have l9 := hpre ⟨9, .data⟩ (by simp) rfl
            have l8 := hpre ⟨8, .chain⟩ (by simp) rfl
            have l2 := hF.closed 8 _ rfl l8 ⟨2, .data⟩ (by simp) rfl
            rw [lk, l2, l9, l8] at hS
            have hS' := hS
            obtain ⟨hgr, hrvo, g, hg3, hg4, hg5, _⟩ := hS'
            obtain ⟨q9, e9, hc9⟩ := hg5 rfl rfl
            rw [e9] at e30
            have hx8' := hg4 rfl
            rw [if_pos rfl, if_pos rfl] at hx8'
            obtain ⟨c8, e8, _⟩ := hx8'.slice
            have hle := hgr.size
            refine wpIn_append_all _ _ _ 23 rfl W.heap.size 22 i1 (.slice none 0 0) 1 24 Try.underlying23 hi1 hy0 hy1 hy2 rfl (by decide) _ k vs (by rw [Act.eval, Array.getD_eq_getD_getElem?]; exact e22) (hrvo rfl) (some ⟨q9, 0, none⟩) 1 1 [val 8] (by rw [Act.eval, Array.getD_eq_getD_getElem?]; exact e30) rfl (fun _ => ⟨_, rfl, fun j u hu => by match j, hu with | 0, hu => (simp at hu; subst hu; simpa [Addr.add] using hc9)⟩) (by intro u hu; simp at hu; subst hu; rw [e8]; rfl) ?c1 ?c2 (by omega) _ rfl ?_
            case c1 => unfold maxLen; omega
            case c2 => omega
            intro v' w1 hown' hgrow hat hnn
            refine ⟨_, rfl, fx_step hfx (by intro u hu; simp [fx5] at hu), ?_, ?_⟩
            · simp only [upd_other (show (2 : Nat) ≠ 10 by decide), upd_other (show (8 : Nat) ≠ 10 by decide), upd_other (show (9 : Nat) ≠ 10 by decide), upd_same, getD_set_other (show (10 : Nat) ≠ 2 by decide), getD_set_other (show (10 : Nat) ≠ 8 by decide), getD_set_other (show (10 : Nat) ≠ 9 by decide), getD_set_other (show (10 : Nat) ≠ 12 by decide), getD_set_eq hs]
              intro _
              rw [l2, l9, l8]
              exact hS.op10 hrvlt hgrow hown' hat
            · simp only [upd_other (show (2 : Nat) ≠ 10 by decide), upd_other (show (8 : Nat) ≠ 10 by decide), upd_other (show (9 : Nat) ≠ 10 by decide), upd_same, getD_set_other (show (10 : Nat) ≠ 12 by decide)]
              intro h; rw [l12] at h; cases h
          | 11, ho =>
            simp at ho
            subst ho
            refine step_plain rfl ?_
            have e3 := hF.was 3 (by kernel_rfl) rfl
            have hs : 11 < L.size := by rw [hF.lsize]; decide
            obtain ⟨hfx, hA, hZ⟩ := hR
            have l12 := hF.later hl 12 rfl (e := ⟨11, .data⟩) (by simp) rfl rfl
            have hS := hA l12
            have hgoal : ∀ v, (∀ u, fx5 w.heap.size b off V.length cv k A' r.length c' bo rv 11 = some u → v = u) → R5 (fx5 w.heap.size b off V.length cv k A' r.length c' bo rv) wr W.heap.size k rv vs r bo (upd val 11 v) (L.setIfInBounds 11 true) x' := fun v hv => by
              refine ⟨fx_step hfx hv, ?_, ?_⟩
              · simpa only [upd_other (show (2 : Nat) ≠ 11 by decide), upd_other (show (8 : Nat) ≠ 11 by decide), upd_other (show (9 : Nat) ≠ 11 by decide), upd_other (show (10 : Nat) ≠ 11 by decide), upd_same, getD_set_other (show (11 : Nat) ≠ 2 by decide), getD_set_other (show (11 : Nat) ≠ 8 by decide), getD_set_other (show (11 : Nat) ≠ 9 by decide), getD_set_other (show (11 : Nat) ≠ 10 by decide), getD_set_other (show (11 : Nat) ≠ 12 by decide), getD_set_eq hs] using hA
              · simpa only [upd_other (show (2 : Nat) ≠ 11 by decide), upd_other (show (8 : Nat) ≠ 11 by decide), upd_other (show (9 : Nat) ≠ 11 by decide), upd_other (show (10 : Nat) ≠ 11 by decide), upd_same, getD_set_other (show (11 : Nat) ≠ 2 by decide), getD_set_other (show (11 : Nat) ≠ 8 by decide), getD_set_other (show (11 : Nat) ≠ 9 by decide), getD_set_other (show (11 : Nat) ≠ 10 by decide), getD_set_other (show (11 : Nat) ≠ 12 by decide), getD_set_eq hs] using hZ
            clear hF hpre hl hfx hA hZ hS hs l12
            go_simp
            exact ⟨_, rfl, hgoal _ (by intro u hu; simpa [fx5] using hu)⟩
          | 12, ho =>
            simp at ho
            subst ho
            refine step_plain rfl ?_
            have e32 := hF.gave 11 rfl (hpre ⟨11, .data⟩ (by simp) rfl) rfl
            have e31 := hF.gave 10 rfl (hpre ⟨10, .data⟩ (by simp) rfl) rfl
            have hs : 12 < L.size := by rw [hF.lsize]; decide
            obtain ⟨hfx, hA, hZ⟩ := hR
            have v11 := hfx 11 _ rfl (hpre ⟨11, .data⟩ (by simp) rfl)
            rw [v11] at e32
            have lk : L.getD 12 false = false := by rw [← getD_same hs]; exact hl
            have hS := hA lk
            have l10 := hpre ⟨10, .data⟩ (by simp) rfl
            have l9 := hpre ⟨9, .phase⟩ (by simp) rfl
            have l8 := hpre ⟨8, .phase⟩ (by simp) rfl
            have l2 := hpre ⟨2, .phase⟩ (by simp) rfl
            rw [l10, l9, l8, l2] at hS
            have hS' := hS
            obtain ⟨hgr, _, g, hg3, hg4, hg5, hg6⟩ := hS'
            obtain ⟨hg7, _, _⟩ := hg6 rfl
            obtain ⟨g10, c10, e10⟩ := ownsRow_succ hg7
            have q0 : x'.cell? ⟨bo, 2, none⟩ = some rv := hcell hgr hol (block_cell (o := 2) hbox)
            have q1 : x'.frozen? ⟨bo, 2, none⟩ = false := (frozen_same (hgr.block bo (by omega) (fun h => by have := hrvM bo h.symm; omega))).trans (block_frozen (o := 2) hbox)
            have hgoal : R5 (fx5 w.heap.size b off V.length cv k A' r.length c' bo rv) wr W.heap.size k rv vs r bo (upd val 12 undef) (L.setIfInBounds 12 true) (x'.setCell ⟨bo, 2, none⟩ (val 10)) := by
              refine ⟨fx_step hfx (by intro u hu; simp [fx5] at hu), ?_, ?_⟩
              · simp only [upd_other (show (2 : Nat) ≠ 12 by decide), upd_other (show (8 : Nat) ≠ 12 by decide), upd_other (show (9 : Nat) ≠ 12 by decide), upd_other (show (10 : Nat) ≠ 12 by decide), getD_set_other (show (12 : Nat) ≠ 2 by decide), getD_set_other (show (12 : Nat) ≠ 8 by decide), getD_set_other (show (12 : Nat) ≠ 9 by decide), getD_set_other (show (12 : Nat) ≠ 10 by decide), getD_set_eq hs]
                intro h; cases h
              · simp only [upd_other (show (2 : Nat) ≠ 12 by decide), upd_other (show (8 : Nat) ≠ 12 by decide), upd_other (show (9 : Nat) ≠ 12 by decide), upd_other (show (10 : Nat) ≠ 12 by decide), getD_set_eq hs]
                exact fun _ => ⟨x', hS, rfl⟩
            rw [e10] at hgoal e31
            clear hF hpre hl hfx hA hZ hS hs lk l10 l9 l8 l2 hgr hg3 hg4 hg5 hg6 hg7 e10
            go_simp
            exact ⟨undef, hgoal⟩
          | i + 13, ho => simp at ho
        case hend =>
          intro val L b' x' hF hall hR
          obtain ⟨hfx, hA, hZ⟩ := hR
          have e := hF.all (by kernel_rfl) hall
          obtain ⟨W1, hS, hWe⟩ := hZ (hall 12 (by decide))
          have hrs := Rows_.step HRO.out HR.out hS
          have hS' := hS
          obtain ⟨hgr, _, g, hg3, hg4, hg5, hg6⟩ := hS'
          obtain ⟨hg7, _, _⟩ := hg6 rfl
          have hgz := hgr.size
          have hb1 : W1.heap[bo]? = some (.cells #[.slice (some ⟨bx, 0, none⟩) X.length c3, .slice (some ⟨by_, 0, none⟩) Y.length c7, rv] 25 (0, 0)) := (hgr.block bo (by omega) (fun h => by have := hrvM bo h.symm; omega)).trans hbox
          have hoth : ∀ q, q ≠ bo → (W1.setCell ⟨bo, 2, none⟩ (val 10)).heap[q]? = W1.heap[q]? := fun q hq => heap_setCell_other _ _ _ _ hq
          have hsz' : (W1.setCell ⟨bo, 2, none⟩ (val 10)).heap.size = W1.heap.size := by simp [World.setCell]
          rw [← hWe] at hoth hsz'
          have r1 : x'.ownsRow W.heap.size 22 1 (val 10) (k + 1) (vs ++ [val 8]) := own_same hg7 (fun q hq => hoth q (by have := own_base hg7 hq; omega))
          have r2 : Rows_ W.heap.size x' (V.take (k + 1)) (val 10) (vs ++ [val 8]) := hrs.same (fun q hq => hoth q (by omega)) (by omega)
          have r3 : x'.heap[bo]? = some (.cells #[.slice (some ⟨bx, 0, none⟩) X.length c3, .slice (some ⟨by_, 0, none⟩) Y.length c7, val 10] 25 (0, 0)) := by
            rw [hWe, heap_setCell_same _ bo 2 _ _ (val 10) hb1]
            simp
          have r4 : ∀ q, q < W.heap.size → q ≠ bo → x'.heap[q]? = W.heap[q]? := fun q hq hne => ((hoth q hne).trans (hgr.block q (by omega) (fun h => by have := hrvM q h.symm; omega))).trans (HKP.out q hq hne)
          have r6 : Below w.heap.size w x' := by
            rw [hWe]
            exact (HBR.out.grown hgr (by omega) (fun q hq => by have := hrvM q hq; omega)).setCell (p := ⟨bo, 2, none⟩) (by simp; omega) _
          have r5 : W.heap.size ≤ x'.heap.size := by omega
          have HH := Lib.hid (And.intro r1 (And.intro r2 (And.intro r3 (And.intro r4 (And.intro r5 r6)))))
          clear hF hall hfx hA hZ hS hWe hrs hgr hg3 hg4 hg5 hg6 hg7 hb1 hoth hsz' r1 r2 r3 r4 r5 r6 HKP HOW HRO HBR hgz
          subst e
          simp [final, dstOf, List.range, List.range.loop]
          generalize val 0 = v0, val 1 = v1, val 2 = v2, val 3 = v3, val 4 = v4, val 5 = v5, val 6 = v6, val 7 = v7, val 8 = v8, val 9 = v9, val 10 = v10, val 11 = v11 at *
          go_wp2
          go_roundw
          case rel => exact ⟨k + 1, by omega, by go_num, _, _, HH.out⟩
          case measure => simp [intOf]; omega
      · obtain rfl : k = V.length := by omega
        rw [List.take_of_length_le (Nat.le_refl _)] at hrows
        have hrve : ∃ AV' cv', rv = .slice AV' V.length cv' := by
          obtain ⟨AV', cv', e, _⟩ := hrows.rows hown
          exact ⟨AV', cv', e⟩
        obtain ⟨AV', cv', rfl⟩ := hrve
        generalize hWF : ((wr.setCell ⟨w.heap.size + 1, 0, none⟩ (.slice (some ⟨bx, 0, none⟩) X.length c3)).setCell ⟨w.heap.size + 1, 1, none⟩ (.slice (some ⟨by_, 0, none⟩) Y.length c7)).setCell ⟨w.heap.size + 1, 2, none⟩ (.slice AV' V.length cv') = WF
        have hoth : ∀ q, q ≠ w.heap.size + 1 → WF.heap[q]? = wr.heap[q]? := fun q hq => by
          rw [← hWF, heap_setCell_other _ _ _ _ hq, heap_setCell_other _ _ _ _ hq, heap_setCell_other _ _ _ _ hq]
        have hFz : WF.heap.size = wr.heap.size := by rw [← hWF]; simp [World.setCell]
        have hbF : Below w.heap.size w WF := by
          rw [← hWF]
          exact ((hbw.setCell (p := ⟨w.heap.size + 1, 0, none⟩) (by simp) _).setCell (p := ⟨w.heap.size + 1, 1, none⟩) (by simp) _).setCell (p := ⟨w.heap.size + 1, 2, none⟩) (by simp) _
        obtain ⟨AV'', cv'', e'', hrr⟩ := (hrows.same (W' := WF) (fun q hq => hoth q (by omega)) (by omega)).rows (own_same hown (fun q hq => hoth q (by have := own_base hown hq; omega)))
        have hxw : ∀ (b : Nat) (l : List Int), w.heap.size + 2 ≤ b → b < W.heap.size → b ≠ bo → RI W W.heap.size (some ⟨b, 0, none⟩) l → RI WF WF.heap.size (some ⟨b, 0, none⟩) l := fun b l hw hb hne hri hp => by
          obtain ⟨b', off, e, _, hc⟩ := hri hp
          simp at e
          obtain ⟨rfl, rfl⟩ := e
          exact ⟨b, 0, rfl, by omega, fun j u hu => ((cell_same (hoth b (by omega))).trans (cell_same (hkeep b hb hne))).trans (hc j u hu)⟩
        have htb : TB WF WF.heap.size (some ⟨bx, 0, none⟩) (some ⟨by_, 0, none⟩) AV' X Y V := ⟨hxw bx X hxb hxl nxo HRX.out, hxw by_ Y hyb hyl nyo HRY.out, by simp at e''; rw [e''.1]; exact hrr⟩
        have HTB := Lib.hid (And.intro htb hbF)
        rw [← hWF] at HTB
        clear hoth hFz hbF hrr hxw htb e'' hWF
        have q3 : wr.cell? ⟨bo, 0, none⟩ = some (.slice (some ⟨bx, 0, none⟩) X.length c3) := block_cell (o := 0) hbox
        have q4 : wr.cell? ⟨bo, 1, none⟩ = some (.slice (some ⟨by_, 0, none⟩) Y.length c7) := block_cell (o := 1) hbox
        have q5 : wr.cell? ⟨bo, 2, none⟩ = some (.slice AV' V.length cv') := block_cell (o := 2) hbox
        have hk1 : ∀ o, wr.cell? ⟨w.heap.size + 1, o, none⟩ = W.cell? ⟨w.heap.size + 1, o, none⟩ := fun o => cell_same (hkeep _ (by omega) (by omega))
        have hk2 : ∀ o, wr.frozen? ⟨w.heap.size + 1, o, none⟩ = W.frozen? ⟨w.heap.size + 1, o, none⟩ := fun o => frozen_same (hkeep _ (by omega) (by omega))
        have y0 := (hk1 0).trans (tz 0 (by omega))
        have y1 := (hk1 1).trans (tz 1 (by omega))
        have y2 := (hk1 2).trans (tz 2 (by omega))
        have z0 := (hk2 0).trans (tf 0 (by omega))
        have z1 := (hk2 1).trans (tf 1 (by omega))
        have z2 := (hk2 2).trans (tf 2 (by omega))
        have hg1 : w.heap.size + 1 < wr.heap.size := by omega
        have s0 : (wr.setCell ⟨w.heap.size + 1, 0, none⟩ (.slice (some ⟨bx, 0, none⟩) X.length c3)).cell? ⟨w.heap.size + 1, 0, none⟩ = some (.slice (some ⟨bx, 0, none⟩) X.length c3) := World.cell?_setCell_same' _ _ _ (by rw [y0]; rfl)
        have s1 : ((wr.setCell ⟨w.heap.size + 1, 0, none⟩ (.slice (some ⟨bx, 0, none⟩) X.length c3)).setCell ⟨w.heap.size + 1, 1, none⟩ (.slice (some ⟨by_, 0, none⟩) Y.length c7)).cell? ⟨w.heap.size + 1, 1, none⟩ = some (.slice (some ⟨by_, 0, none⟩) Y.length c7) := World.cell?_setCell_same' _ _ _ (by go_simp)
        have s2 : (((wr.setCell ⟨w.heap.size + 1, 0, none⟩ (.slice (some ⟨bx, 0, none⟩) X.length c3)).setCell ⟨w.heap.size + 1, 1, none⟩ (.slice (some ⟨by_, 0, none⟩) Y.length c7)).setCell ⟨w.heap.size + 1, 2, none⟩ (.slice AV' V.length cv')).cell? ⟨w.heap.size + 1, 2, none⟩ = some (.slice AV' V.length cv') := World.cell?_setCell_same' _ _ _ (by go_simp)
        clear hk1 hk2 hrows hown hkeep hbox HRX HRY HRR HO hbw tz tf hrvM hrvlt hcell
        go_wp2
        refine bodyPost_ret (v := .agg #[.slice (some ⟨bx, 0, none⟩) X.length c3, .slice (some ⟨by_, 0, none⟩) Y.length c7, .slice AV' V.length cv']) (by simp [results, Try.results108, go_sem, s0, s1, s2]) rfl ?_
        exact ⟨_, _, _, _, _, _, rfl, HTB.out⟩

end Go.Proofs.Ythhokiigdgpmcaa

/- The reference's corners. -/
namespace Go.Proofs.Ythhokiigdgpmcaa
open Go.RowKit

set_option maxHeartbeats 1000000 in
theorem rcorners_any (A : Option Addr) (n c B : Nat) (X : List Int) (lo hi : Int) (w : World) (hx : X.length = n) (hn : n ≤ 1000000) (hB : B ≤ w.heap.size) (h : RI w B A X) :
    Calls Try.prog 131 #[.slice A n c, .agg #[.int .i64 lo, .int .i64 hi]] w (GivesInts w (endsL X lo hi)) := by
  subst hx
  obtain ⟨i0, hi0, hz0, hz1, hz2⟩ := info_parts info_int
  have HI := Lib.hid (h.more hB)
  clear h
  go_enter Try.func131, Try.ntmps131
  go_wp2_with fail
  have hown0 : ((w.alloc (.cells #[.int .i64 lo, .int .i64 hi] 34)).alloc (.cells #[.int .i64 lo] 3)).ownsRow (w.heap.size + 1) 3 1 (.slice (some ⟨w.heap.size + 1, 0, none⟩) 1 1) 1 [.int .i64 lo] := by
    have := World.ownsRow_lit (base := w.heap.size + 1) (e := 3) (size := 1) (w.alloc (.cells #[.int .i64 lo, .int .i64 hi] 34)) #[.int .i64 lo] 1 (by simp) (le_maxLen (by omega)) (by simp)
    simpa using this
  go_loopw [5, 6] (fun v i wr => ∃ k : Nat, k ≤ X.length ∧ i = .int .i64 k ∧ wr.ownsRow (w.heap.size + 1) 3 1 v (endK X lo hi k).length ((endK X lo hi k).map (Value.int .i64)) ∧
      wr.cell? ⟨w.heap.size, 0, none⟩ = some (.int .i64 lo) ∧ wr.cell? ⟨w.heap.size, 1, none⟩ = some (.int .i64 hi) ∧ w.heap.size < wr.heap.size ∧ Below w.heap.size w wr) (fun _ i _ => X.length - (intOf i).toNat)
  case atStart => exact ⟨0, Nat.zero_le _, rfl, by simpa [endK] using hown0, by go_simp, by go_simp, by simp; omega, by go_grown⟩
  case round =>
    obtain ⟨k, hk, rfl, hown, hc1, hc2, hsz, hbw⟩ := hrel
    have hel := endK_len X lo hi k
    have HOW := Lib.hid hown
    have HBW := Lib.hid hbw
    clear hown0
    by_cases hlt : k < X.length
    · obtain ⟨b, off, x, rfl, hb, hx, hc⟩ := (HI.out.below hbw).at_ hlt
      have HX := Lib.hid hx
      have hk0 : (k : Int) < X.length := by omega
      clear hx hown hbw
      by_cases h1 : lo < x
      · by_cases h2 : x < hi
        · go_upto_region 5 with fail
          go_quiet (fail)
          have hbq : Below wr.heap.size wr (wr.drewN nq) := below_drewN (Below.refl _ _) nq
          have d1 := cell_keep hbq hc1
          have d2 := cell_keep hbq hc2
          have d3 := cell_keep hbq hc
          have hown' : (wr.drewN nq).ownsRow (w.heap.size + 1) 3 1 u5 (endK X lo hi k).length ((endK X lo hi k).map (Value.int .i64)) := own_same HOW.out (fun q _ => by rw [World.heap_drewN])
          have hsz' : w.heap.size < (wr.drewN nq).heap.size := by rw [World.heap_drewN]; exact hsz
          have hbw' := below_drewN HBW.out nq
          generalize hwq : wr.drewN nq = wq at *
          have HBQ := Lib.hid hbw'
          clear hwq hbq hc hc1 hc2 hbw'
          go_wp2_with (at_builtin; refine wpList_append_own _ rfl _ _ 22 rfl (w.heap.size + 1) 3 i0 (.int .i64 0) 1 8 Try.underlying22 hi0 hz0 hz1 hz2 rfl (by decide) _ _ _ rfl (hown'.alloc _) ⟨wq.heap.size, 0, none⟩ 1 1 [.int .i64 x] rfl rfl ?c1 ?c2 ?c3 ?c4 ?c5 ?_)
          case c1 => exact cell_one_new _ _ _
          case c2 => intro u hu; simp at hu; subst hu; rfl
          case c3 => unfold maxLen; omega
          case c4 => omega
          case c5 => simp; omega
          intro v' w1 hown2 hgrow _
          have hne := fun e => (absurd (hown'.lt w.heap.size e).1 (by omega) : False)
          have hb2 : Below w.heap.size w w1 := (HBQ.out.alloc (by omega) (.cells #[.int .i64 x] 3)).grown hgrow (by simp; omega) (fun q hq => by have := (hown'.lt _ hq).1; omega)
          have e1 : w1.cell? ⟨w.heap.size, 0, none⟩ = some (.int .i64 lo) := hgrow.cell (by rw [World.cell?_alloc_past _ _ _ hsz']; exact d1) (fun e => hne e.symm)
          have e2 : w1.cell? ⟨w.heap.size, 1, none⟩ = some (.int .i64 hi) := hgrow.cell (by rw [World.cell?_alloc_past _ _ _ hsz']; exact d2) (fun e => hne e.symm)
          have hs1 : w.heap.size < w1.heap.size := by have := hgrow.size; simp at this; omega
          have ho : w1.ownsRow (w.heap.size + 1) 3 1 v' (endK X lo hi (k + 1)).length ((endK X lo hi (k + 1)).map (Value.int .i64)) := by
            rw [endK_hit HX.out h1 h2]; simpa using hown2
          clear hown2 hgrow hown' d1 d2 d3 hne
          go_wp2
          go_roundw
          case rel => exact ⟨k + 1, by omega, by go_num, ho, e1, e2, hs1, hb2⟩
          case measure => simp [intOf]; omega
        · have e1 := endK_miss (lo := lo) (hi := hi) HX.out (by omega)
          have E1 := Lib.hid e1
          clear e1
          go_upto_region 5 with fail
          go_quiet (fail)
          go_wp2
          go_roundw
          case rel => exact ⟨k + 1, by omega, by go_num, by rw [E1.out]; exact own_same HOW.out (fun q _ => by rw [World.heap_drewN]), hc1, hc2, by rw [World.heap_drewN]; exact hsz, below_drewN HBW.out _⟩
          case measure => simp [intOf]; omega
      · have e1 := endK_miss (lo := lo) (hi := hi) HX.out (by omega)
        have E1 := Lib.hid e1
        clear e1
        go_upto_region 5 with fail
        go_quiet (fail)
        go_wp2
        go_roundw
        case rel => exact ⟨k + 1, by omega, by go_num, by rw [E1.out]; exact own_same HOW.out (fun q _ => by rw [World.heap_drewN]), hc1, hc2, by rw [World.heap_drewN]; exact hsz, below_drewN HBW.out _⟩
        case measure => simp [intOf]; omega
    · obtain rfl : k = X.length := by omega
      obtain ⟨g, cap, rfl⟩ := ownsRow_succ (k := (X.take X.length |>.filter (fun n => decide (lo < n) && decide (n < hi))).length) (by simpa [endK] using hown)
      have hbig : (endK X lo hi X.length).length = (X.take X.length |>.filter (fun n => decide (lo < n) && decide (n < hi))).length + 1 := by simp [endK]
      rw [← hbig] at *
      have HB := Lib.hid hbig
      clear hbig
      by_cases hlh : lo < hi
      · have e2 : endsL X lo hi = endK X lo hi X.length ++ [hi] := by rw [endK_all, if_pos hlh]
        have E2 := Lib.hid e2
        clear e2
        go_wp2_with (at_builtin; refine wpList_append_own _ rfl _ _ 22 rfl (w.heap.size + 1) 3 i0 (.int .i64 0) 1 8 Try.underlying22 hi0 hz0 hz1 hz2 rfl (by decide) _ _ _ rfl (hown.alloc _) ⟨wr.heap.size, 0, none⟩ 1 1 [.int .i64 hi] rfl rfl ?d1 ?d2 ?d3 ?d4 ?d5 ?_)
        case d2 => first | rfl | (intro u hu; simp at hu; subst hu; rfl)
        case d3 => first | omega | (unfold maxLen; omega)
        case d4 => omega
        case d5 => first | omega | (simp; omega)
        intro v' w1 hown' hgrow _
        have hb2 : Below w.heap.size w w1 := (hbw.alloc (by omega) (.cells #[.int .i64 hi] 3)).grown hgrow (by simp; omega) (fun q hq => by have := (hown.lt _ hq).1; omega)
        obtain ⟨g', cap', hv'⟩ := ownsRow_succ hown'
        subst hv'
        have ho : RI w1 w1.heap.size (some ⟨g', 0, none⟩) (endsL X lo hi) := by
          rw [E2.out]
          exact RI.of_own (n := (endK X lo hi X.length).length + 1) (by simpa using hown')
        have hg' : w.heap.size ≤ g' := by have := (hown'.lt g' rfl).1; omega
        clear hown' hgrow hown hc1 hc2 hbw
        go_wp2
        go_ret
        exact ⟨g', cap', by rw [E2.out]; simp, hg', ho, hb2⟩
      · have e2 : endsL X lo hi = endK X lo hi X.length := by rw [endK_all, if_neg hlh]; simp
        have E2 := Lib.hid e2
        clear e2
        go_wp2
        go_ret
        exact ⟨g, cap, by rw [E2.out]; rfl, by have := (hown.lt g rfl).1; omega, by rw [E2.out]; exact RI.of_own hown, hbw⟩

end Go.Proofs.Ythhokiigdgpmcaa

/- Add and Times of both sides; floor and ceil of the reference. -/
namespace Go.Proofs.Ythhokiigdgpmcaa
open Go.RowKit

theorem mul_bd3 {a c M N : Int} (h1 : -M ≤ a) (h2 : a ≤ M) (h3 : -N ≤ c) (h4 : c ≤ N) (hN : 0 ≤ N) : -(M * N) ≤ a * c ∧ a * c ≤ M * N := by
  by_cases h : 0 ≤ a
  · exact mul_bd h h2 h3 h4 hN
  · have := mul_bd (a := -a) (A := M) (by omega) (by omega) h3 h4 hN
    rw [Int.neg_mul] at this
    omega

theorem rfl_neg {a b : Int} (hb : 1 ≤ b) (h : a < 0) : -((-a + b - 1).tdiv b) = fl a b := by
  have h0 : 0 < b := by omega
  have e1 := Int.emod_nonneg a (b := b) (by omega)
  have e2 := Int.emod_lt_of_pos a h0
  have e3 := Int.emod_add_mul_ediv a b
  have hq : (-a + b - 1) / b = -(a / b) ∧ (-a + b - 1) % b = b - 1 - a % b := by
    refine (Int.ediv_emod_unique h0).2 ⟨?_, by omega, by omega⟩
    rw [Int.mul_neg]
    omega
  rw [Int.tdiv_eq_ediv_of_nonneg (by omega), hq.1]
  unfold fl
  omega

theorem rfloor_any (a b : Int) (w : World) (h1 : 1 ≤ b) (h2 : b ≤ 1000000000) (h3 : -1000000000000 ≤ a) (h4 : a ≤ 1000000000000) :
    Calls Try.prog 118 #[.int .i64 a, .int .i64 b] w fun e w' => e = .returned (.int .i64 (fl a b)) ∧ w = w' := by
  have hd := tdiv_bd (b := b) (a := a) (M := 1000000000000) h3 h4
  have hd2 := tdiv_bd (b := b) (a := -a + b - 1) (M := 2000000000000) (by omega) (by omega)
  by_cases h : 0 ≤ a
  · go_enter Try.func118, Try.ntmps118
    go_wp2
    go_ret
    exact ⟨ret_int (by unfold fl; exact Int.tdiv_eq_ediv_of_nonneg h), rfl⟩
  · go_enter Try.func118, Try.ntmps118
    go_wp2
    go_ret
    exact ⟨ret_int (rfl_neg h1 (by omega)), rfl⟩

theorem rceil_any (a b : Int) (w : World) (h1 : 1 ≤ b) (h2 : b ≤ 1000000000) (h3 : -1000000000000 ≤ a) (h4 : a ≤ 1000000000000) :
    Calls Try.prog 119 #[.int .i64 a, .int .i64 b] w fun e w' => e = .returned (.int .i64 (cl a b)) ∧ w = w' := by
  have hd := fl_bd (a := -a) h1 (M := 1000000000000) (by omega) (by omega)
  go_enter Try.func119, Try.ntmps119
  go_wp2_with (go_at_call 118; refine (rfloor_any _ _ _ h1 h2 (by omega) (by omega)).mono ?_; rintro e w' ⟨rfl, rfl⟩)
  go_ret
  exact ⟨rfl, rfl⟩

def madeS (a b : Int) : (Int × Int) × Int := if vI a b then ((a, b), 0) else ((0, 0), 2)

theorem made_any (a b : Int) (w : World) : Calls Try.prog 117 #[.agg #[.int .i64 a, .int .i64 b]] w fun e w' =>
    e = .returned (.tuple #[.agg #[.int .i64 (madeS a b).1.1, .int .i64 (madeS a b).1.2], .int .i64 (madeS a b).2]) ∧ Below w.heap.size w w' := by
  cases h1 : vI a b
  all_goals
    simp only [madeS, h1, if_true, if_false, Bool.false_eq_true]
    have H1 := Lib.hid h1
    clear h1
    go_enter Try.func117, Try.ntmps117
    go_wp2_with (go_at_call 43; refine Calls.mono (rvalid_any a b _) ?_; rintro e w1 ⟨rfl, hb1⟩; rw [H1.out]; have t0 : w1.cell? ⟨w.heap.size, 0, none⟩ = some (.int .i64 a) := cell_keep hb1 (by go_simp); have t1 : w1.cell? ⟨w.heap.size, 1, none⟩ = some (.int .i64 b) := cell_keep hb1 (by go_simp); have t4 : w1.cell? ⟨w.heap.size + 1, 0, none⟩ = some (.int .i64 0) := cell_keep hb1 (by go_simp); have t5 : w1.cell? ⟨w.heap.size + 1, 1, none⟩ = some (.int .i64 0) := cell_keep hb1 (by go_simp); have t6 : w1.frozen? ⟨w.heap.size + 1, 0, none⟩ = false := (hb1.frozen (p := ⟨w.heap.size + 1, 0, none⟩) (by simp <;> omega)).trans (by go_simp); have t7 : w1.frozen? ⟨w.heap.size + 1, 1, none⟩ = false := (hb1.frozen (p := ⟨w.heap.size + 1, 1, none⟩) (by simp <;> omega)).trans (by go_simp); have l2 : w.heap.size + 1 < w1.heap.size := World.block_lt_of_cell? _ _ t4; have hbw : Below w.heap.size w w1 := Below.trans (by go_grown) (hb1.mono (by simp <;> omega)); have HBW := Lib.hid hbw; clear hb1 hbw)
    have z1 : ∀ v, (w1.setCell ⟨w.heap.size + 1, 0, none⟩ v).cell? ⟨w.heap.size + 1, 0, none⟩ = some v := fun v => World.cell?_setCell_same' _ _ _ (by rw [t4]; rfl)
    have z2 : ∀ v u, ((w1.setCell ⟨w.heap.size + 1, 0, none⟩ v).setCell ⟨w.heap.size + 1, 1, none⟩ u).cell? ⟨w.heap.size + 1, 1, none⟩ = some u := fun v u => World.cell?_setCell_same' _ _ _ (by rw [World.cell?_setCell_other _ _ _ _ (by simp), t5]; rfl)
  · refine bodyPost_ret (v := .tuple #[.agg #[.int .i64 0, .int .i64 0], .int .i64 2]) (by simp [results, Try.results117, go_sem, z1, z2]) rfl ?_
    exact ⟨rfl, (HBW.out.setCell (by simp) _).setCell (by simp) _⟩
  · refine bodyPost_ret (v := .tuple #[.agg #[.int .i64 a, .int .i64 b], .int .i64 0]) (by simp [results, Try.results117, go_sem, z1, z2]) rfl ?_
    exact ⟨rfl, (HBW.out.setCell (by simp) _).setCell (by simp) _⟩

theorem bounded_any (a b : Int) (w : World) : Calls Try.prog 83 #[.agg #[.int .i64 a, .int .i64 b]] w fun e w' =>
    e = .returned (.tuple #[.agg #[.int .i64 (madeS a b).1.1, .int .i64 (madeS a b).1.2], .int .i64 (madeS a b).2]) ∧ Below w.heap.size w w' := by
  cases h1 : vI a b
  all_goals
    simp only [madeS, h1, if_true, if_false, Bool.false_eq_true]
    have h2 := h1
    rw [← vS_vI] at h2
    have h3 : [(a, b)].all vS = vS (a, b) := by simp
    rw [h2] at h3
    have H1 := Lib.hid h3
    clear h1 h2 h3
    go_enter Try.func83, Try.ntmps83
    go_wp2_with (go_at_call 82; refine Calls.mono (valid_any _ _ _ _ [(a, b)] _ rfl (le_maxLen (by simp)) ?c3 (RS.new1 (by simp))) ?_; (case c3 => simp); rintro e w1 ⟨rfl, hb1⟩; rw [H1.out]; have t0 : w1.cell? ⟨w.heap.size, 0, none⟩ = some (.int .i64 a) := cell_keep hb1 (by go_simp); have t1 : w1.cell? ⟨w.heap.size, 1, none⟩ = some (.int .i64 b) := cell_keep hb1 (by go_simp); have t4 : w1.cell? ⟨w.heap.size + 1, 0, none⟩ = some (.int .i64 0) := cell_keep hb1 (by go_simp); have t5 : w1.cell? ⟨w.heap.size + 1, 1, none⟩ = some (.int .i64 0) := cell_keep hb1 (by go_simp); have t6 : w1.frozen? ⟨w.heap.size + 1, 0, none⟩ = false := (hb1.frozen (p := ⟨w.heap.size + 1, 0, none⟩) (by simp <;> omega)).trans (by go_simp); have t7 : w1.frozen? ⟨w.heap.size + 1, 1, none⟩ = false := (hb1.frozen (p := ⟨w.heap.size + 1, 1, none⟩) (by simp <;> omega)).trans (by go_simp); have l2 : w.heap.size + 1 < w1.heap.size := World.block_lt_of_cell? _ _ t4; have hbw : Below w.heap.size w w1 := Below.trans (by go_grown) (hb1.mono (by simp <;> omega)); have HBW := Lib.hid hbw; clear hb1 hbw)
    have z1 : ∀ v, (w1.setCell ⟨w.heap.size + 1, 0, none⟩ v).cell? ⟨w.heap.size + 1, 0, none⟩ = some v := fun v => World.cell?_setCell_same' _ _ _ (by rw [t4]; rfl)
    have z2 : ∀ v u, ((w1.setCell ⟨w.heap.size + 1, 0, none⟩ v).setCell ⟨w.heap.size + 1, 1, none⟩ u).cell? ⟨w.heap.size + 1, 1, none⟩ = some u := fun v u => World.cell?_setCell_same' _ _ _ (by rw [World.cell?_setCell_other _ _ _ _ (by simp), t5]; rfl)
  · refine bodyPost_ret (v := .tuple #[.agg #[.int .i64 0, .int .i64 0], .int .i64 2]) (by simp [results, Try.results83, go_sem, z1, z2]) rfl ?_
    exact ⟨rfl, (HBW.out.setCell (by simp) _).setCell (by simp) _⟩
  · refine bodyPost_ret (v := .tuple #[.agg #[.int .i64 a, .int .i64 b], .int .i64 0]) (by simp [results, Try.results83, go_sem, z1, z2]) rfl ?_
    exact ⟨rfl, (HBW.out.setCell (by simp) _).setCell (by simp) _⟩

end Go.Proofs.Ythhokiigdgpmcaa

/- The reference's part, Value, Between. -/
namespace Go.Proofs.Ythhokiigdgpmcaa
open Go.RowKit

theorem rprt_any (A : Option Addr) (n c B : Nat) (X : List Int) (y : Int) (w : World) (hx : X.length = n) (hn : n ≤ 1000000) (h2 : 2 ≤ n) (h : RI w B A X) :
    Calls Try.prog 133 #[.slice A n c, .int .i64 y] w fun e w' => e = .returned (.int .i64 (partN X y : Nat)) ∧ w = w' := by
  subst hx
  go_enter Try.func133, Try.ntmps133
  go_wp2
  go_loop [5] (fun i => ∃ k : Nat, k + 2 ≤ X.length ∧ i = .int .i64 k ∧ partN X y = k + partN (X.drop k) y) (fun i => X.length - (intOf i).toNat)
  case atStart => exact ⟨0, by omega, rfl, by simp⟩
  case round =>
    obtain ⟨k, hk, rfl, hw⟩ := hrel
    have HW := Lib.hid hw
    clear hw
    by_cases hlt : k + 2 < X.length
    · obtain ⟨b, off, x, rfl, hb, hx, hc⟩ := h.at_ (k := k + 1) (by omega)
      have HX := Lib.hid hx
      clear hx
      have hlt' : (k : Int) + 2 < (X.length : Int) := by omega
      have i4 : (k : Int) + 1 < X.length := by omega
      by_cases hle : x ≤ y
      · go_wp2
        go_round
        case rel => exact ⟨k + 1, by omega, by go_num, by rw [HW.out, partN_go hlt HX.out hle]; omega⟩
        case measure => simp [intOf]; omega
      · go_wp2
        go_ret
        exact ⟨ret_int (by rw [HW.out, partN_stop hlt HX.out (by omega)]; omega), rfl⟩
    · have hlt' : ¬ (k : Int) + 2 < (X.length : Int) := by omega
      go_wp2
      go_ret
      exact ⟨ret_int (by rw [HW.out, partN_end (by omega)]; omega), rfl⟩

/-- Between. -/
def btB (X : List Int) (a b : Int) : Bool := decide (gz X 0 ≤ a) && decide (b ≤ gz X (X.length - 1))

theorem between_any (A : Option Addr) (n c B : Nat) (X : List Int) (a b : Int) (w : World) (hx : X.length = n) (hn : n ≤ 1000000) (h1 : 1 ≤ n) (hB : B ≤ w.heap.size) (h : RI w B A X) :
    Calls Try.prog 99 #[.slice A n c, .agg #[.int .i64 a, .int .i64 b]] w fun e w' => e = .returned (.bool (btB X a b)) ∧ Below w.heap.size w w' := by
  subst hx
  obtain ⟨b0, o0, x0, rfl, hb0, hx0, hc0⟩ := h.at_ (k := 0) (by omega)
  obtain ⟨b1, o1, x1, hA, hb1, hx1, hc1⟩ := h.at_ (k := X.length - 1) (by omega)
  obtain ⟨rfl, rfl⟩ : b0 = b1 ∧ o0 = o1 := by simpa using hA
  have e1 : btB X a b = (decide (x0 ≤ a) && decide (b ≤ x1)) := by unfold btB; rw [gz_of hx0, gz_of hx1]
  rw [e1]
  simp only [Nat.add_zero] at hc0
  have i0 : (0 : Int) < (X.length : Int) := by omega
  have i1 : IntKind.i64.wrap ((X.length : Int) - 1) = (X.length : Int) - 1 := IntWalk.i64_in _ (by omega)
  have i2 : ((X.length : Int) - 1).toNat = X.length - 1 := by omega
  have i3 : (0 : Int) ≤ (X.length : Int) - 1 := by omega
  have i4 : (X.length : Int) - 1 < (X.length : Int) := by omega
  have hbb : b0 < w.heap.size := by omega
  clear hx0 hx1 e1 hA h hb1
  by_cases g1 : x0 ≤ a <;> by_cases g2 : b ≤ x1
  all_goals
    have G := Lib.hid (And.intro g1 g2)
    go_enter Try.func99, Try.ntmps99
    go_upto_region 1 with fail
    go_quiet (fail)
    go_wp2
    go_ret
    obtain ⟨g1', g2'⟩ := G.out
    exact ⟨ret_bool (by simp [g1', g2']), below_drewN (by go_grown) _⟩

set_option maxHeartbeats 4000000 in
set_option maxRecDepth 100000 in
theorem rvalue_any (AX AY AV : Option Addr) (nx cx ny cy nv cv B : Nat) (X Y : List Int) (V : List (List Int)) (x y : Int) (w : World) (hx : X.length = nx) (hy : Y.length = ny) (hv : V.length = nv)
    (hB : B ≤ w.heap.size) (h : TB w B AX AY AV X Y V) (hct : ctB X Y V = true) (ho' : On X x) (ho : On Y y) :
    Calls Try.prog 132 #[.agg #[.slice AX nx cx, .slice AY ny cy, .slice AV nv cv], .int .i64 x, .int .i64 y] w fun e w' =>
      e = .returned (.tuple #[.int .i64 (atN X Y V x y), .int .i64 (atD X Y x y)]) ∧ Below w.heap.size w w' := by
  subst hx hy hv
  obtain ⟨ha, hb, hl, _⟩ := ctB_get hct
  obtain ⟨q1, q2, q3, q4⟩ := axB_get ha
  obtain ⟨p1, p2, p3, p4⟩ := axB_get hb
  have s := seg_of ha ho'.1 ho'.2
  have t := seg_of hb ho.1 ho.2
  have sl := s.lt
  have tl := t.lt
  have hxp : ∀ W, RI W B AX X → Calls Try.prog 133 #[.slice AX X.length cx, .int .i64 x] W fun e w' => e = .returned (.int .i64 (partN X x : Nat)) ∧ W = w' := fun W hW => rprt_any _ _ _ B X x W rfl (by omega) q1 hW
  have hyp : ∀ W, RI W B AY Y → Calls Try.prog 133 #[.slice AY Y.length cy, .int .i64 y] W fun e w' => e = .returned (.int .i64 (partN Y y : Nat)) ∧ W = w' := fun W hW => rprt_any _ _ _ B Y y W rfl (by omega) p1 hW
  obtain ⟨bx, ox, x0, hAX, hbx, hx0, hcx0⟩ := h.x.at_ (k := partN X x) (by omega)
  obtain ⟨bx2, ox2, x1, hA, _, hx1, hcx1⟩ := h.x.at_ (k := partN X x + 1) (by omega)
  obtain ⟨rfl, rfl⟩ : bx = bx2 ∧ ox = ox2 := by rw [hAX] at hA; simpa using hA
  obtain ⟨by1, oy, y0, hAY, hby, hy0, hcy0⟩ := h.y.at_ (k := partN Y y) (by omega)
  obtain ⟨by2, oy2, y1, hA', _, hy1, hcy1⟩ := h.y.at_ (k := partN Y y + 1) (by omega)
  obtain ⟨rfl, rfl⟩ : by1 = by2 ∧ oy = oy2 := by rw [hAY] at hA'; simpa using hA'
  obtain ⟨r1, r2⟩ := row_get hct (i := partN X x) (by omega)
  obtain ⟨r3, r4⟩ := row_get hct (i := partN X x + 1) (by omega)
  obtain ⟨bv, ov, r, A0, c0, hAV, hbv, hr, hcr, hri⟩ := h.v.at_ (k := partN X x) (by omega)
  obtain ⟨bv2, ov2, r', A1, c1, hA'', _, hr', hcr', hri'⟩ := h.v.at_ (k := partN X x + 1) (by omega)
  obtain ⟨rfl, rfl⟩ : bv = bv2 ∧ ov = ov2 := by rw [hAV] at hA''; simpa using hA''
  have er : gr V (partN X x) = r := gr_of hr
  have er' : gr V (partN X x + 1) = r' := gr_of hr'
  rw [er] at r1 r2
  rw [er'] at r3 r4
  obtain ⟨g0, o0, v00, rfl, hg0, hv00, hc00⟩ := hri.at_ (k := partN Y y) (by omega)
  obtain ⟨g0', o0', v01, hB0, _, hv01, hc01⟩ := hri.at_ (k := partN Y y + 1) (by omega)
  obtain ⟨rfl, rfl⟩ : g0 = g0' ∧ o0 = o0' := by simpa using hB0
  obtain ⟨g1, o1, v10, rfl, hg1, hv10, hc10⟩ := hri'.at_ (k := partN Y y) (by omega)
  obtain ⟨g1', o1', v11, hB1, _, hv11, hc11⟩ := hri'.at_ (k := partN Y y + 1) (by omega)
  obtain ⟨rfl, rfl⟩ : g1 = g1' ∧ o1 = o1' := by simpa using hB1
  have e1 : atN X Y V x y = (x1 - x) * (y1 - y) * v00 + (x - x0) * (y1 - y) * v10 + (x1 - x) * (y - y0) * v01 + (x - x0) * (y - y0) * v11 := by
    unfold atN kNum
    rw [gz_of hx0, gz_of hx1, gz_of hy0, gz_of hy1, er, er', gz_of hv00, gz_of hv01, gz_of hv10, gz_of hv11]
    grind
  have e2 : atD X Y x y = (x1 - x0) * (y1 - y0) := by unfold atD kDen; rw [gz_of hx0, gz_of hx1, gz_of hy0, gz_of hy1]
  rw [e1, e2]
  have sd1 := s.d1; have sd2 := s.d2; have slo := s.lo; have shi := s.hi
  have td1 := t.d1; have td2 := t.d2; have tlo := t.lo; have thi := t.hi
  rw [gz_of hx0, gz_of hx1] at sd1 sd2
  rw [gz_of hx0] at slo
  rw [gz_of hx1] at shi
  rw [gz_of hy0, gz_of hy1] at td1 td2
  rw [gz_of hy0] at tlo
  rw [gz_of hy1] at thi
  obtain ⟨a1, a2⟩ := wB_mem q3 hx0
  obtain ⟨a3, a4⟩ := wB_mem q3 hx1
  obtain ⟨a5, a6⟩ := wB_mem p3 hy0
  obtain ⟨a7, a8⟩ := wB_mem p3 hy1
  obtain ⟨b1, b2⟩ := wB_mem r2 hv00
  obtain ⟨b3, b4⟩ := wB_mem r2 hv01
  obtain ⟨b5, b6⟩ := wB_mem r4 hv10
  obtain ⟨b7, b8⟩ := wB_mem r4 hv11
  have lx0 : (partN X x : Int) < X.length := by omega
  have lx1 : (partN X x : Int) + 1 < X.length := by omega
  have ly0 : (partN Y y : Int) < Y.length := by omega
  have ly1 : (partN Y y : Int) + 1 < Y.length := by omega
  have lv0 : (partN X x : Int) < V.length := by omega
  have lv1 : (partN X x : Int) + 1 < V.length := by omega
  have lr0 : (partN Y y : Int) < r.length := by omega
  have lr1 : (partN Y y : Int) + 1 < r.length := by omega
  have lr2 : (partN Y y : Int) < r'.length := by omega
  have lr3 : (partN Y y : Int) + 1 < r'.length := by omega
  have bk : partN X x ≤ 100 := by omega
  have bm : partN Y y ≤ 100 := by omega
  have hgx : bx < w.heap.size := by omega
  have hgy : by1 < w.heap.size := by omega
  have hgv : bv < w.heap.size := by omega
  have hgr0 : g0 < w.heap.size := by omega
  have hgr1 : g1 < w.heap.size := by omega
  have HTX := Lib.hid h.x
  have HTY := Lib.hid h.y
  rw [hAX] at HTX hxp ⊢
  rw [hAY] at HTY hyp ⊢
  rw [hAV]
  generalize hk : partN X x = k at *
  generalize hm : partN Y y = m at *
  clear hk hm s t hct ha hb hl q1 q2 q3 q4 p1 p2 p3 p4 e1 e2 er er' hr hr' hri hri' h hx0 hx1 hy0 hy1 hv00 hv01 hv10 hv11 r1 r2 r3 r4 hA hA' hA'' hAX hAY hAV hB0 hB1 ho ho' sl tl
  have HXP := Lib.hid hxp
  have HYP := Lib.hid hyp
  clear hxp hyp
  have f1 : IntKind.i64.wrap ((k : Int) + 1) = (k : Int) + 1 := IntWalk.i64_in _ (by omega)
  have f2 : ((k : Int) + 1).toNat = k + 1 := by omega
  have f3 : (0 : Int) ≤ (k : Int) + 1 := by omega
  have f4 : IntKind.i64.wrap ((m : Int) + 1) = (m : Int) + 1 := IntWalk.i64_in _ (by omega)
  have f5 : ((m : Int) + 1).toNat = m + 1 := by omega
  have f6 : (0 : Int) ≤ (m : Int) + 1 := by omega
  generalize hda : x1 - x = da at *
  generalize hdb : x - x0 = db at *
  generalize hdc : y1 - y = dc at *
  generalize hdd : y - y0 = dd at *
  generalize hdx : x1 - x0 = dx at *
  generalize hdy : y1 - y0 = dy at *
  have w1 : IntKind.i64.wrap (x1 - x) = da := by rw [hda]; exact IntWalk.i64_in _ (by omega)
  have w2 : IntKind.i64.wrap (x - x0) = db := by rw [hdb]; exact IntWalk.i64_in _ (by omega)
  have w3 : IntKind.i64.wrap (y1 - y) = dc := by rw [hdc]; exact IntWalk.i64_in _ (by omega)
  have w4 : IntKind.i64.wrap (y - y0) = dd := by rw [hdd]; exact IntWalk.i64_in _ (by omega)
  have w5 : IntKind.i64.wrap (x1 - x0) = dx := by rw [hdx]; exact IntWalk.i64_in _ (by omega)
  have w6 : IntKind.i64.wrap (y1 - y0) = dy := by rw [hdy]; exact IntWalk.i64_in _ (by omega)
  have m1 := mul_bd (a := da) (u := dc) (A := 10000) (M := 10000) (by omega) (by omega) (by omega) (by omega) (by omega)
  have m2 := mul_bd (a := db) (u := dc) (A := 10000) (M := 10000) (by omega) (by omega) (by omega) (by omega) (by omega)
  have m3 := mul_bd (a := da) (u := dd) (A := 10000) (M := 10000) (by omega) (by omega) (by omega) (by omega) (by omega)
  have m4 := mul_bd (a := db) (u := dd) (A := 10000) (M := 10000) (by omega) (by omega) (by omega) (by omega) (by omega)
  have m5 := mul_bd (a := dx) (u := dy) (A := 10000) (M := 10000) (by omega) (by omega) (by omega) (by omega) (by omega)
  have n1 : 0 ≤ da * dc := Int.mul_nonneg (by omega) (by omega)
  have n2 : 0 ≤ db * dc := Int.mul_nonneg (by omega) (by omega)
  have n3 : 0 ≤ da * dd := Int.mul_nonneg (by omega) (by omega)
  have n4 : 0 ≤ db * dd := Int.mul_nonneg (by omega) (by omega)
  have w7 : IntKind.i64.wrap (da * dc) = da * dc := IntWalk.i64_in _ (by omega)
  have w8 : IntKind.i64.wrap (db * dc) = db * dc := IntWalk.i64_in _ (by omega)
  have w9 : IntKind.i64.wrap (da * dd) = da * dd := IntWalk.i64_in _ (by omega)
  have w10 : IntKind.i64.wrap (db * dd) = db * dd := IntWalk.i64_in _ (by omega)
  have w11 : IntKind.i64.wrap (dx * dy) = dx * dy := IntWalk.i64_in _ (by omega)
  generalize hg_s1 : da * dc = s1 at *
  generalize hg_s2 : db * dc = s2 at *
  generalize hg_s3 : da * dd = s3 at *
  generalize hg_s4 : db * dd = s4 at *
  generalize hg_s5 : dx * dy = s5 at *
  have m6 := mul_bd (a := s1) (u := v00) (A := 100000000) (M := 1000000) (by omega) (by omega) (by omega) (by omega) (by omega)
  have m7 := mul_bd (a := s2) (u := v10) (A := 100000000) (M := 1000000) (by omega) (by omega) (by omega) (by omega) (by omega)
  have m8 := mul_bd (a := s3) (u := v01) (A := 100000000) (M := 1000000) (by omega) (by omega) (by omega) (by omega) (by omega)
  have m9 := mul_bd (a := s4) (u := v11) (A := 100000000) (M := 1000000) (by omega) (by omega) (by omega) (by omega) (by omega)
  have w12 : IntKind.i64.wrap (s1 * v00) = s1 * v00 := IntWalk.i64_in _ (by omega)
  have w13 : IntKind.i64.wrap (s2 * v10) = s2 * v10 := IntWalk.i64_in _ (by omega)
  have w14 : IntKind.i64.wrap (s3 * v01) = s3 * v01 := IntWalk.i64_in _ (by omega)
  have w15 : IntKind.i64.wrap (s4 * v11) = s4 * v11 := IntWalk.i64_in _ (by omega)
  generalize hg_t1 : s1 * v00 = t1 at *
  generalize hg_t2 : s2 * v10 = t2 at *
  generalize hg_t3 : s3 * v01 = t3 at *
  generalize hg_t4 : s4 * v11 = t4 at *
  have w16 : IntKind.i64.wrap (t1 + t2) = t1 + t2 := IntWalk.i64_in _ (by omega)
  have w17 : IntKind.i64.wrap (t1 + t2 + t3) = t1 + t2 + t3 := IntWalk.i64_in _ (by omega)
  have w18 : IntKind.i64.wrap (t1 + t2 + t3 + t4) = t1 + t2 + t3 + t4 := IntWalk.i64_in _ (by omega)
  clear m1 m2 m3 m4 m5 m6 m7 m8 m9 n1 n2 n3 n4 a1 a2 a3 a4 a5 a6 a7 a8 b1 b2 b3 b4 b5 b6 b7 b8 hda hdb hdc hdd hdx hdy sd1 sd2 slo shi td1 td2 tlo thi
  go_enter Try.func132, Try.ntmps132
  go_upto_region 1 with fail
  go_quiet (first
    | (go_at_call_of 133 (Value.int .i64 x); exact quiet_left (HXP.out _ (RI.drewN (HTX.out.below (by go_grown)) _)))
    | (go_at_call_of 133 (Value.int .i64 y); exact quiet_left (HYP.out _ (RI.drewN (HTY.out.below (by go_grown)) _))))
  go_wp2_with fail
  go_quiet (fail)
  go_wp2_with fail
  go_quiet (fail)
  go_wp2_with fail
  go_quiet (fail)
  go_wp2
  go_ret2
  exact ⟨rfl, below_drewN (below_drewN ((Below.refl _ _).alloc (Nat.le_refl _) _) _) _⟩

end Go.Proofs.Ythhokiigdgpmcaa

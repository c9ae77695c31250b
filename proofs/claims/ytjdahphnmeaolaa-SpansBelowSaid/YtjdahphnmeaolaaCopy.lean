/- Copy of a table. -/
import Derived.Test.YtjdahphnmeaolaaChk
import Derived.Test.YtjdahphnmeaolaaInv
import Derived.Test.YtjdahphnmeaolaaEnds
namespace Go.Proofs.Ytjdahphnmeaolaa
open Go.RowKit

section own
variable {W W' : World} {M s n : Nat} {T : TypeId} {v : Value} {xs : List Value}

theorem own_same (h : W.ownsRow M T s v n xs) (hs : ∀ g, v.ownBlock = some g → W'.heap[g]? = W.heap[g]?) : W'.ownsRow M T s v n xs := by
  obtain ⟨h1, h2⟩ := h
  refine ⟨h1, ?_⟩
  rcases h2 with h2 | ⟨g, cap, cur, rfl, hg, hc, h3⟩
  · exact .inl h2
  · exact .inr ⟨g, cap, cur, rfl, hg, (hs g rfl).trans hc, h3⟩
theorem cell_same {g o : Nat} (h : W'.heap[g]? = W.heap[g]?) : W'.cell? ⟨g, o, none⟩ = W.cell? ⟨g, o, none⟩ := by simp only [World.cell?, h]
theorem frozen_same {g o : Nat} (h : W'.heap[g]? = W.heap[g]?) : W'.frozen? ⟨g, o, none⟩ = W.frozen? ⟨g, o, none⟩ := by simp only [World.frozen?, h]
theorem heap_alloc_old {o : Obj} {g : Nat} (h : g < W.heap.size) : (W.alloc o).heap[g]? = W.heap[g]? := by
  show (W.heap.push o)[g]? = _
  rw [Array.getElem?_push]
  have : g ≠ W.heap.size := by omega
  simp [this]
end own

/-- A list of integers that the call owns, at block g. -/
def XF (M : Nat) (W : World) (g : Nat) (v : Value) (xs : List Int) : Prop :=
  M ≤ g ∧ g < W.heap.size ∧ v.ownBlock = some g ∧ W.ownsRow M 3 1 v xs.length (xs.map (Value.int .i64))
theorem XF.same {M : Nat} {W W' : World} {g : Nat} {v : Value} {xs : List Int} (h : XF M W g v xs) (hs : W'.heap[g]? = W.heap[g]?) (hz : W.heap.size ≤ W'.heap.size) : XF M W' g v xs :=
  ⟨h.1, by have := h.2.1; omega, h.2.2.1, own_same h.2.2.2 (fun q hq => by rw [h.2.2.1] at hq; cases hq; exact hs)⟩
theorem XF.alloc {M : Nat} {W : World} {g : Nat} {v : Value} {xs : List Int} (h : XF M W g v xs) (o : Obj) : XF M (W.alloc o) g v xs := h.same (heap_alloc_old h.2.1) (by simp)
theorem XF.new (M : Nat) (W : World) (h : M ≤ W.heap.size) : XF M (W.alloc (.cells #[] 3)) W.heap.size (.slice (some ⟨W.heap.size, 0, none⟩) 0 0) [] :=
  ⟨h, by simp, rfl, by
    have := World.ownsRow_lit (base := M) (e := 3) (size := 1) W #[] 0 h (le_maxLen (by omega)) (by simp)
    simpa using this⟩
theorem XF.slice {M : Nat} {W : World} {g : Nat} {v : Value} {xs : List Int} (h : XF M W g v xs) : ∃ c, v = .slice (some ⟨g, 0, none⟩) xs.length c ∧ RI W W.heap.size (some ⟨g, 0, none⟩) xs := by
  obtain ⟨_, _, h3, h4⟩ := h
  rcases h4.2 with ⟨e, _⟩ | ⟨g', cap, cur, rfl, hg, hcur, hn, hm, hs, ht⟩
  · rw [e] at h3; cases h3
  · have : g' = g := by simpa [Value.ownBlock] using h3
    subst this
    exact ⟨cap, rfl, RI.of_own h4⟩
theorem ints_one (xs : List Int) : ∀ u ∈ xs.map (Value.int .i64), u.oneCell' = true := by
  intro u hu
  obtain ⟨x, _, rfl⟩ := List.mem_map.1 hu
  rfl
theorem RI.cells {w : World} {B : Nat} {A : Option Addr} {l : List Int} (h : RI w B A l) : Cells w A (l.map (Value.int .i64)) := fun hp => by
  obtain ⟨b, off, rfl, hb, hc⟩ := h hp
  exact ⟨_, rfl, fun j u hu => by rw [Go.WideShapes.add_plain]; exact hc j u hu⟩

/-- The new table's box. -/
def OF (M : Nat) (W : World) (g : Nat) (u0 u1 : Value) : Prop := M ≤ g ∧ W.heap[g]? = some (.cells #[u0, u1, .slice none 0 0] 27 (0, 0))
theorem OF.lt {M : Nat} {W : World} {g : Nat} {u0 u1 : Value} (h : OF M W g u0 u1) : g < W.heap.size := (Array.getElem?_eq_some_iff.1 h.2).1
theorem OF.same {M : Nat} {W W' : World} {g : Nat} {u0 u1 : Value} (h : OF M W g u0 u1) (hs : W'.heap[g]? = W.heap[g]?) : OF M W' g u0 u1 := ⟨h.1, hs.trans h.2⟩
theorem OF.alloc {M : Nat} {W : World} {g : Nat} {u0 u1 : Value} (h : OF M W g u0 u1) (o : Obj) : OF M (W.alloc o) g u0 u1 := h.same (heap_alloc_old h.lt)
theorem block_cell {W : World} {g o : Nat} {cs : Array Value} {T : TypeId} (h : W.heap[g]? = some (.cells cs T (0, 0))) : W.cell? ⟨g, o, none⟩ = cs[o]? := by simp [World.cell?, h]
theorem block_frozen {W : World} {g o : Nat} {cs : Array Value} {T : TypeId} (h : W.heap[g]? = some (.cells cs T (0, 0))) : W.frozen? ⟨g, o, none⟩ = false := by simp [World.frozen?, h]

/-- The state of the region that makes the copy's axes. -/
def CR (W0 : World) (X Y : List Int) (x0 x3 y4 y7 o9 : Value) (l0 l3 l4 l7 l9 l10 : Bool) (W : World) : Prop :=
  Below W0.heap.size W0 W ∧ ∃ bx by_ bo : Nat,
    (l0 = true → XF W0.heap.size W bx (if l3 then x3 else x0) (if l3 then X else [])) ∧
    (l4 = true → XF W0.heap.size W by_ (if l7 then y7 else y4) (if l7 then Y else [])) ∧
    (l9 = true → o9 = .pointer (some ⟨bo, 0, none⟩) ∧ OF W0.heap.size W bo (if l10 then x3 else .slice none 0 0) (if l10 then y7 else .slice none 0 0)) ∧
    (l0 = true → l4 = true → bx ≠ by_) ∧ (l0 = true → l9 = true → bx ≠ bo) ∧ (l4 = true → l9 = true → by_ ≠ bo)

theorem XF.grown {M : Nat} {W W' : World} {g : Nat} {v : Value} {xs : List Int} {row : Option Nat} (h : XF M W g v xs) (hg : W.grownBy W' row) (hne : some g ≠ row) : XF M W' g v xs := h.same (hg.block g h.2.1 hne) hg.size
theorem OF.grown {M : Nat} {W W' : World} {g : Nat} {u0 u1 : Value} {row : Option Nat} (h : OF M W g u0 u1) (hg : W.grownBy W' row) (hne : some g ≠ row) : OF M W' g u0 u1 := h.same (hg.block g h.lt hne)

section steps
variable {W0 W W' : World} {X Y : List Int} {x0 x3 y4 y7 o9 v : Value} {l0 l3 l4 l7 l9 l10 : Bool}
theorem CR.op0 (h : CR W0 X Y x0 x3 y4 y7 o9 false false l4 l7 l9 l10 W) : CR W0 X Y (.slice (some ⟨W.heap.size, 0, none⟩) 0 0) x3 y4 y7 o9 true false l4 l7 l9 l10 (W.alloc (.cells #[] 3)) := by
  obtain ⟨hb, bx, by_, bo, r1, r2, r3, r4, r5, r6⟩ := h
  refine ⟨hb.alloc hb.size _, W.heap.size, by_, bo, fun _ => XF.new _ _ hb.size, fun e => (r2 e).alloc _, fun e => ⟨(r3 e).1, (r3 e).2.alloc _⟩, fun _ e h => ?_, fun _ e h => ?_, r6⟩
  · have := (r2 e).2.1; omega
  · have := (r3 e).2.lt; omega
theorem CR.op4 (h : CR W0 X Y x0 x3 y4 y7 o9 l0 l3 false false l9 l10 W) : CR W0 X Y x0 x3 (.slice (some ⟨W.heap.size, 0, none⟩) 0 0) y7 o9 l0 l3 true false l9 l10 (W.alloc (.cells #[] 3)) := by
  obtain ⟨hb, bx, by_, bo, r1, r2, r3, r4, r5, r6⟩ := h
  refine ⟨hb.alloc hb.size _, bx, W.heap.size, bo, fun e => (r1 e).alloc _, fun _ => XF.new _ _ hb.size, fun e => ⟨(r3 e).1, (r3 e).2.alloc _⟩, fun e _ h => ?_, r5, fun _ e h => ?_⟩
  · have := (r1 e).2.1; omega
  · have := (r3 e).2.lt; omega
theorem CR.op9 (h : CR W0 X Y x0 x3 y4 y7 v l0 l3 l4 l7 false false W) : CR W0 X Y x0 x3 y4 y7 (.pointer (some ⟨W.heap.size, 0, none⟩)) l0 l3 l4 l7 true false (W.alloc (.cells #[.slice none 0 0, .slice none 0 0, .slice none 0 0] 27)) := by
  obtain ⟨hb, bx, by_, bo, r1, r2, r3, r4, r5, r6⟩ := h
  refine ⟨hb.alloc hb.size _, bx, by_, W.heap.size, fun e => (r1 e).alloc _, fun e => (r2 e).alloc _, fun _ => ⟨rfl, hb.size, by show (W.heap.push _)[W.heap.size]? = _; simp⟩, r4, fun e _ h => ?_, fun e _ h => ?_⟩
  · have := (r1 e).2.1; omega
  · have := (r2 e).2.1; omega
theorem CR.op3 (h : CR W0 X Y x0 x3 y4 y7 o9 true false l4 l7 l9 false W) (hg : W.grownBy W' x0.ownBlock) (hown : W'.ownsRow W0.heap.size 3 1 v X.length (X.map (Value.int .i64))) (hat : v.ownBlock = x0.ownBlock ∨ v.ownBlock = some W.heap.size) :
    CR W0 X Y x0 v y4 y7 o9 true true l4 l7 l9 false W' := by
  obtain ⟨hb, bx, by_, bo, r1, r2, r3, r4, r5, r6⟩ := h
  obtain ⟨x1, x2, x5, x4⟩ := r1 rfl
  simp only [Bool.false_eq_true, if_false] at x5 x4
  rw [x5] at hg hat
  obtain ⟨q, hq, hq'⟩ : ∃ q, v.ownBlock = some q ∧ (q = bx ∨ q = W.heap.size) := by
    rcases hat with e | e
    · exact ⟨bx, e, .inl rfl⟩
    · exact ⟨_, e, .inr rfl⟩
  have hlt : q < W'.heap.size := by
    rcases hown.2 with ⟨e, _⟩ | ⟨g, cap, cur, rfl, hg1, hcur, _⟩
    · rw [e] at hq; cases hq
    · have : g = q := by simpa [Value.ownBlock] using hq
      subst this
      exact (Array.getElem?_eq_some_iff.1 hcur).1
  refine ⟨hb.grown hg hb.size (fun k hk => by cases hk; exact x1), q, by_, bo, fun _ => ⟨by have := hb.size; omega, hlt, hq, hown⟩, fun e => (r2 e).grown hg (fun h => by cases h; exact r4 rfl e rfl), fun e => ⟨(r3 e).1, (r3 e).2.grown hg (fun h => by cases h; exact r5 rfl e rfl)⟩, fun _ e h => ?_, fun _ e h => ?_, r6⟩
  · have := r4 rfl e; have := (r2 e).2.1; omega
  · have := r5 rfl e; have := (r3 e).2.lt; omega
theorem CR.op7 (h : CR W0 X Y x0 x3 y4 y7 o9 l0 l3 true false l9 false W) (hg : W.grownBy W' y4.ownBlock) (hown : W'.ownsRow W0.heap.size 3 1 v Y.length (Y.map (Value.int .i64))) (hat : v.ownBlock = y4.ownBlock ∨ v.ownBlock = some W.heap.size) :
    CR W0 X Y x0 x3 y4 v o9 l0 l3 true true l9 false W' := by
  obtain ⟨hb, bx, by_, bo, r1, r2, r3, r4, r5, r6⟩ := h
  obtain ⟨x1, x2, x5, x4⟩ := r2 rfl
  simp only [Bool.false_eq_true, if_false] at x5 x4
  rw [x5] at hg hat
  obtain ⟨q, hq, hq'⟩ : ∃ q, v.ownBlock = some q ∧ (q = by_ ∨ q = W.heap.size) := by
    rcases hat with e | e
    · exact ⟨by_, e, .inl rfl⟩
    · exact ⟨_, e, .inr rfl⟩
  have hlt : q < W'.heap.size := by
    rcases hown.2 with ⟨e, _⟩ | ⟨g, cap, cur, rfl, hg1, hcur, _⟩
    · rw [e] at hq; cases hq
    · have : g = q := by simpa [Value.ownBlock] using hq
      subst this
      exact (Array.getElem?_eq_some_iff.1 hcur).1
  refine ⟨hb.grown hg hb.size (fun k hk => by cases hk; exact x1), bx, q, bo, fun e => (r1 e).grown hg (fun h => by cases h; exact r4 e rfl rfl), fun _ => ⟨by have := hb.size; omega, hlt, hq, hown⟩, fun e => ⟨(r3 e).1, (r3 e).2.grown hg (fun h => by cases h; exact r6 rfl e rfl)⟩, fun e _ h => ?_, r5, fun _ e h => ?_⟩
  · have := r4 e rfl; have := (r1 e).2.1; omega
  · have := r6 rfl e; have := (r3 e).2.lt; omega
theorem heap_set3 {g : Nat} {a b c a' b' c' : Value} {T : TypeId} (h : W.heap[g]? = some (.cells #[a, b, c] T (0, 0))) :
    (((W.setCell ⟨g, 0, none⟩ a').setCell ⟨g, 1, none⟩ b').setCell ⟨g, 2, none⟩ c').heap[g]? = some (.cells #[a', b', c'] T (0, 0)) := by
  have h1 := heap_setCell_same W g 0 _ T a' h
  have h2 := heap_setCell_same _ g 1 _ T b' h1
  have h3 := heap_setCell_same _ g 2 _ T c' h2
  rw [h3]
  simp
theorem CR.op10 (h : CR W0 X Y x0 x3 y4 y7 o9 true true true true true false W) : ∃ bo, o9 = .pointer (some ⟨bo, 0, none⟩) ∧ W.heap[bo]? = some (.cells #[.slice none 0 0, .slice none 0 0, .slice none 0 0] 27 (0, 0)) ∧
    CR W0 X Y x0 x3 y4 y7 o9 true true true true true true (((W.setCell ⟨bo, 0, none⟩ x3).setCell ⟨bo, 1, none⟩ y7).setCell ⟨bo, 2, none⟩ (.slice none 0 0)) := by
  obtain ⟨hb, bx, by_, bo, r1, r2, r3, r4, r5, r6⟩ := h
  obtain ⟨e9, o1, o2⟩ := r3 rfl
  have hother : ∀ k, k ≠ bo → (((W.setCell ⟨bo, 0, none⟩ x3).setCell ⟨bo, 1, none⟩ y7).setCell ⟨bo, 2, none⟩ (.slice none 0 0)).heap[k]? = W.heap[k]? := fun k hk => by
    rw [heap_setCell_other _ _ _ _ hk, heap_setCell_other _ _ _ _ hk, heap_setCell_other _ _ _ _ hk]
  have hz : (((W.setCell ⟨bo, 0, none⟩ x3).setCell ⟨bo, 1, none⟩ y7).setCell ⟨bo, 2, none⟩ (.slice none 0 0)).heap.size = W.heap.size := by simp [World.setCell]
  exact ⟨bo, e9, o2, ((hb.setCell (p := ⟨bo, 0, none⟩) o1 _).setCell (p := ⟨bo, 1, none⟩) o1 _).setCell (p := ⟨bo, 2, none⟩) o1 _, bx, by_, bo, fun e => (r1 e).same (hother _ (r5 rfl rfl)) (by omega), fun e => (r2 e).same (hother _ (r6 rfl rfl)) (by omega),
    fun _ => ⟨e9, o1, by simpa using heap_set3 o2⟩, r4, r5, r6⟩
end steps

theorem fx_step {fx : Nat → Option Value} {val : Nat → Value} {L : Array Bool} {i : Nat} {v : Value} (h : ∀ j u, fx j = some u → L.getD j false = true → val j = u) (hv : ∀ u, fx i = some u → v = u) :
    ∀ j u, fx j = some u → (L.setIfInBounds i true).getD j false = true → upd val i v j = u := by
  intro j u hj hl
  by_cases e : j = i
  · subst e
    rw [upd_same]
    exact hv u hj
  · rw [upd_other e]
    rw [getD_set_other (fun h => e h.symm)] at hl
    exact h j u hj hl

theorem grown_far {W W' : World} {row : Option Nat} {wr : World} {row' : Option Nat} (h : wr.grownBy W row) (hg : W.grownBy W' row') (hr : ∀ k, row' = some k → row' = row ∨ wr.heap.size ≤ k) : wr.grownBy W' row :=
  ⟨hg.os.trans h.os, hg.tape.trans h.tape, hg.output.trans h.output, Nat.le_trans h.size hg.size, fun k hk hne => by
    have hs := h.size
    refine (hg.block k (by omega) (fun e => ?_)).trans (h.block k hk hne)
    rcases hr k e.symm with e' | e'
    · exact hne (e.trans e')
    · omega⟩
theorem grown_alloc (W : World) (o : Obj) : W.grownBy (W.alloc o) none := ⟨rfl, rfl, rfl, by simp, fun k hk _ => heap_alloc_old hk⟩
theorem own_lt {W : World} {M s n q : Nat} {T : TypeId} {v : Value} {xs : List Value} (h : W.ownsRow M T s v n xs) (hq : v.ownBlock = some q) : q < W.heap.size := by
  rcases h.2 with ⟨e, _⟩ | ⟨g, cap, cur, rfl, hg1, hcur, _⟩
  · rw [e] at hq; cases hq
  · have : g = q := by simpa [Value.ownBlock] using hq
    subst this
    exact (Array.getElem?_eq_some_iff.1 hcur).1

theorem own_base {W : World} {M s n q : Nat} {T : TypeId} {v : Value} {xs : List Value} (h : W.ownsRow M T s v n xs) (hq : v.ownBlock = some q) : M ≤ q := by
  rcases h.2 with ⟨e, _⟩ | ⟨g, cap, cur, rfl, hg1, hcur, _⟩
  · rw [e] at hq; cases hq
  · have : g = q := by simpa [Value.ownBlock] using hq
    omega
theorem RI.cells_grown {W W' : World} {B : Nat} {A : Option Addr} {l : List Int} {row : Option Nat} (h : RI W B A l) (hg : W.grownBy W' row) (hB : B ≤ W.heap.size) (hr : ∀ q, row = some q → B ≤ q) : Cells W' A (l.map (Value.int .i64)) :=
  RI.cells (B := B) (RV.keep h (fun p hp => World.cell?_of_block (hg.block p.block (by omega) (fun e => by have := hr _ e.symm; omega))))
theorem getD_no_of {ops : Array Oper} {T : Array Value} {val : Nat → Value} {L : Array Bool} {a : Act} (h : Fr ops T val L a) (j i : Nat) {o : Oper} (ho : ops[j]? = some o) {e : Edge} (he : e ∈ o.after) (hb : Region.binds .any e = true) (hi : e.on = i) (hl : L.getD i false = false) : L.getD j false = false := by
  cases hj : L.getD j false with
  | false => rfl
  | true =>
    have := h.closed j o ho hj e he hb
    rw [hi, hl] at this
    cases this

/-- The state of the region that copies a row. -/
def S5 (wr : World) (M k : Nat) (rv : Value) (vs : List Value) (r : List Int) (v2 v8 v9 v10 : Value) (l2 l8 l9 l10 : Bool) (W : World) : Prop :=
  wr.grownBy W rv.ownBlock ∧ (l10 = false → W.ownsRow M 24 1 rv k vs) ∧ ∃ g, wr.heap.size ≤ g ∧ (l2 = true → XF M W g (if l8 then v8 else v2) (if l8 then r else [])) ∧
    (l9 = true → l10 = false → ∃ q, v9 = .slice (some ⟨q, 0, none⟩) 1 1 ∧ W.cell? ⟨q, 0, none⟩ = some v8) ∧
    (l10 = true → W.ownsRow M 24 1 v10 (k + 1) (vs ++ [v8]) ∧ v10.ownBlock ≠ some g ∧ (v10.ownBlock = rv.ownBlock ∨ ∃ h, v10.ownBlock = some h ∧ wr.heap.size ≤ h))
section steps5
variable {wr W W' : World} {M k : Nat} {rv : Value} {vs : List Value} {r : List Int} {v2 v8 v9 v10 v : Value} {l2 l8 l9 l10 : Bool}
theorem S5.start (h : wr.ownsRow M 24 1 rv k vs) : S5 wr M k rv vs r v2 v8 v9 v10 false false false false wr.drew :=
  ⟨⟨rfl, rfl, rfl, Nat.le_refl _, fun _ _ _ => rfl⟩, fun _ => h, wr.heap.size, Nat.le_refl _, fun e => (by cases e), fun e => (by cases e), fun e => (by cases e)⟩
theorem S5.op2 (h : S5 wr M k rv vs r v2 v8 v9 v10 false false false false W) (hM : M ≤ wr.heap.size) : S5 wr M k rv vs r (.slice (some ⟨W.heap.size, 0, none⟩) 0 0) v8 v9 v10 true false false false (W.alloc (.cells #[] 3)) := by
  obtain ⟨h1, h2, g, h3, h4, h5, h6⟩ := h
  have hs := h1.size
  exact ⟨grown_far h1 (grown_alloc _ _) (fun k hk => (by cases hk)), fun e => own_same (h2 e) (fun q hq => heap_alloc_old (own_lt (h2 e) hq)), W.heap.size, hs, fun _ => XF.new _ _ (by omega), fun e => (by cases e), fun e => (by cases e)⟩
theorem S5.op8 (h : S5 wr M k rv vs r v2 v8 v9 v10 true false false false W) (hlt : ∀ q, rv.ownBlock = some q → q < wr.heap.size) (hg : W.grownBy W' v2.ownBlock) (hown : W'.ownsRow M 3 1 v r.length (r.map (Value.int .i64))) (hat : v.ownBlock = v2.ownBlock ∨ v.ownBlock = some W.heap.size) :
    S5 wr M k rv vs r v2 v v9 v10 true true false false W' := by
  obtain ⟨h1, h2, g, h3, h4, h5, h6⟩ := h
  obtain ⟨x1, x2, x3, x4⟩ := h4 rfl
  simp only [Bool.false_eq_true, if_false] at x3 x4
  rw [x3] at hg hat
  have hs := h1.size
  obtain ⟨q, hq, hq'⟩ : ∃ q, v.ownBlock = some q ∧ (q = g ∨ q = W.heap.size) := by
    rcases hat with e | e
    · exact ⟨g, e, .inl rfl⟩
    · exact ⟨_, e, .inr rfl⟩
  refine ⟨grown_far h1 hg (fun k hk => by cases hk; exact .inr h3), fun e => own_same (h2 e) (fun q hq => hg.block q (own_lt (h2 e) hq) (fun h => ?_)), q, by omega, fun _ => ⟨by omega, own_lt hown hq, hq, hown⟩, fun e => (by cases e), fun e => (by cases e)⟩
  cases h
  have := hlt g hq
  omega
theorem S5.op9 (h : S5 wr M k rv vs r v2 v8 v v10 true true false false W) : S5 wr M k rv vs r v2 v8 (.slice (some ⟨W.heap.size, 0, none⟩) 1 1) v10 true true true false (W.alloc (.cells #[v8] 24)) := by
  obtain ⟨h1, h2, g, h3, h4, h5, h6⟩ := h
  exact ⟨grown_far h1 (grown_alloc _ _) (fun k hk => (by cases hk)), fun e => own_same (h2 e) (fun q hq => heap_alloc_old (own_lt (h2 e) hq)), g, h3, fun e => (h4 e).alloc _, fun _ _ => ⟨_, rfl, by rw [cell_newest]; rfl⟩, fun e => by cases e⟩
theorem S5.op10 (h : S5 wr M k rv vs r v2 v8 v9 v10 true true true false W) (hlt : ∀ q, rv.ownBlock = some q → q < wr.heap.size) (hg : W.grownBy W' rv.ownBlock) (hown : W'.ownsRow M 24 1 v (k + 1) (vs ++ [v8])) (hat : v.ownBlock = rv.ownBlock ∨ v.ownBlock = some W.heap.size) :
    S5 wr M k rv vs r v2 v8 v9 v true true true true W' := by
  obtain ⟨h1, h2, g, h3, h4, h5, h6⟩ := h
  have x := h4 rfl
  simp only [if_true] at x
  have hs := h1.size
  refine ⟨grown_far h1 hg (fun k hk => .inl rfl), fun e => (by cases e), g, h3, fun _ => ?_, fun _ e => (by cases e), fun _ => ⟨hown, fun e => ?_, ?_⟩⟩
  · simp only [if_true]
    exact x.grown hg (fun e => by have := hlt g e.symm; omega)
  · rcases hat with h | h
    · rw [h] at e; have := hlt g e; omega
    · rw [h] at e; cases e; have := x.2.1; omega
  · rcases hat with h | h
    · exact .inl h
    · exact .inr ⟨_, h, hs⟩
end steps5

/-- The rows that are copied so far. -/
def Rows_ (M : Nat) (W : World) (V : List (List Int)) (rv : Value) (vs : List Value) : Prop :=
  vs.length = V.length ∧ ∀ (j : Nat) (r : List Int), V[j]? = some r → ∃ g v, vs[j]? = some v ∧ XF M W g v r ∧ rv.ownBlock ≠ some g
theorem Rows_.step {M k : Nat} {wr W : World} {V : List (List Int)} {rv v2 v8 v9 v10 : Value} {vs : List Value} {r : List Int} (h : Rows_ M wr (V.take k) rv vs) (hr : V[k]? = some r) (hS : S5 wr M k rv vs r v2 v8 v9 v10 true true true true W) :
    Rows_ M W (V.take (k + 1)) v10 (vs ++ [v8]) := by
  obtain ⟨h1, h2, g, h3, h4, h5, h6⟩ := hS
  obtain ⟨h7, h8, h9⟩ := h6 rfl
  have x := h4 rfl
  simp only [if_true] at x
  obtain ⟨hl, hall⟩ := h
  have hk : k < V.length := (List.getElem?_eq_some_iff.1 hr).1
  have hlk : vs.length = k := by rw [hl]; simp; omega
  refine ⟨by simp [hl]; omega, fun j q hj => ?_⟩
  rw [List.take_add_one, hr] at hj
  by_cases e : j < k
  · rw [List.getElem?_append_left (by simp; omega)] at hj
    obtain ⟨g', v, e1, e2, e3⟩ := hall j q hj
    refine ⟨g', v, by rw [List.getElem?_append_left (by omega)]; exact e1, e2.grown h1 (fun h => e3 h.symm), ?_⟩
    rcases h9 with h9 | ⟨h, h9, h10⟩
    · rw [h9]; exact e3
    · rw [h9]; intro e'; cases e'; have := e2.2.1; omega
  · rw [List.getElem?_append_right (by simp; omega)] at hj
    have hj0 : j - (V.take k).length = 0 := by
      rcases Nat.eq_zero_or_pos (j - (V.take k).length) with h | h
      · exact h
      · simp only [Option.toList_some] at hj
        rw [List.getElem?_eq_none (by simp; simp at h; omega)] at hj
        cases hj
    have hjk : j = k := by simp at hj0; omega
    rw [hj0] at hj
    simp at hj
    subst hj hjk
    exact ⟨g, v8, by rw [List.getElem?_append_right (by omega)]; simp [hlk], x, h8⟩

theorem info_ints : (Try.prog.info? 24).map (fun i => (i.zero, i.size, i.bytes)) = some (some (.slice none 0 0), 1, 24) := by kernel_rfl
theorem Rows_.same {M : Nat} {W W' : World} {V : List (List Int)} {rv : Value} {vs : List Value} (h : Rows_ M W V rv vs) (hs : ∀ g, M ≤ g → W'.heap[g]? = W.heap[g]?) (hz : W.heap.size ≤ W'.heap.size) : Rows_ M W' V rv vs :=
  ⟨h.1, fun j r hj => by
    obtain ⟨g, v, e1, e2, e3⟩ := h.2 j r hj
    exact ⟨g, v, e1, e2.same (hs g e2.1) hz, e3⟩⟩
theorem Rows_.rows {M k : Nat} {W : World} {V : List (List Int)} {rv : Value} {vs : List Value} (h : Rows_ M W V rv vs) (ho : W.ownsRow M 24 1 rv k vs) : ∃ A c, rv = .slice A V.length c ∧ RR W W.heap.size A V := by
  have hk : k = V.length := by have := ho.1; have := h.1; omega
  subst hk
  rcases ho.2 with ⟨e, e0⟩ | ⟨g, cap, cur, rfl, hg1, hcur, _⟩
  · exact ⟨none, 0, by rw [e, e0], fun hp => by omega⟩
  · refine ⟨_, cap, rfl, fun hp => ⟨g, 0, rfl, own_lt ho rfl, fun j r hj => ?_⟩⟩
    obtain ⟨g', v, e1, e2, _⟩ := h.2 j r hj
    obtain ⟨c, rfl, hri⟩ := e2.slice
    have hj' : j < V.length := (List.getElem?_eq_some_iff.1 hj).1
    refine ⟨_, c, ?_, hri⟩
    rw [Nat.zero_add, ho.cellAt j (by omega)]
    exact e1

def fxC (w : World) (AX AY : Option Addr) (X Y : List Int) (cx cy : Nat) : Nat → Option Value
  | 1 => some (.pointer (some ⟨w.heap.size, 0, none⟩))
  | 2 => some (.slice AX X.length cx)
  | 5 => some (.pointer (some ⟨w.heap.size, 1, none⟩))
  | 6 => some (.slice AY Y.length cy)
  | _ => none
def RC (w : World) (AX AY : Option Addr) (X Y : List Int) (cx cy : Nat) (W0 : World) (val : Nat → Value) (L : Array Bool) (W : World) : Prop :=
  (∀ j u, fxC w AX AY X Y cx cy j = some u → L.getD j false = true → val j = u) ∧ (L.getD 8 false = true → val 8 = .agg #[val 3, val 7, .slice none 0 0]) ∧
  CR W0 X Y (val 0) (val 3) (val 4) (val 7) (val 9) (L.getD 0 false) (L.getD 3 false) (L.getD 4 false) (L.getD 7 false) (L.getD 9 false) (L.getD 10 false) W

def fx5 (g b off n c k : Nat) (A' : Option Addr) (rl c' bo : Nat) (rv : Value) : Nat → Option Value
  | 0 => some (.pointer (some ⟨bo, 2, none⟩))
  | 1 => some rv
  | 3 => some (.pointer (some ⟨g, 2, none⟩))
  | 4 => some (.slice (some ⟨b, off, none⟩) n c)
  | 5 => some (.int .i64 k)
  | 6 => some (.pointer (some ⟨b, off + k, none⟩))
  | 7 => some (.slice A' rl c')
  | 11 => some (.pointer (some ⟨bo, 2, none⟩))
  | _ => none
def R5 (fx : Nat → Option Value) (wr : World) (M k : Nat) (rv : Value) (vs : List Value) (r : List Int) (bo : Nat) (val : Nat → Value) (L : Array Bool) (W : World) : Prop :=
  (∀ j u, fx j = some u → L.getD j false = true → val j = u) ∧
  (L.getD 12 false = false → S5 wr M k rv vs r (val 2) (val 8) (val 9) (val 10) (L.getD 2 false) (L.getD 8 false) (L.getD 9 false) (L.getD 10 false) W) ∧
  (L.getD 12 false = true → ∃ W1, S5 wr M k rv vs r (val 2) (val 8) (val 9) (val 10) true true true true W1 ∧ W = W1.setCell ⟨bo, 2, none⟩ (val 10))

set_option maxRecDepth 100000 in
set_option maxHeartbeats 1000000 in
theorem copy_any (AX AY AV : Option Addr) (nx cx ny cy nv cv B : Nat) (X Y : List Int) (V : List (List Int)) (w : World) (hx : X.length = nx) (hy : Y.length = ny) (hv : V.length = nv) (hnx : nx ≤ 1000000) (hny : ny ≤ 1000000) (hnv : nv ≤ 1000000) (hnr : ∀ r ∈ V, r.length ≤ 1000000)
    (hB : B ≤ w.heap.size) (h : TB w B AX AY AV X Y V) :
    Calls Try.prog 23 #[.agg #[.slice AX nx cx, .slice AY ny cy, .slice AV nv cv]] w fun e w' =>
      ∃ AX' cx' AY' cy' AV' cv', e = .returned (.agg #[.slice AX' nx cx', .slice AY' ny cy', .slice AV' nv cv']) ∧ TB w' w'.heap.size AX' AY' AV' X Y V ∧ Below w.heap.size w w' := by
  subst hx hy hv
  obtain ⟨i0, hi0, hz0, hz1, hz2⟩ := info_parts info_int
  obtain ⟨i1, hi1, hy0, hy1, hy2⟩ := info_parts info_ints
  go_enter Try.func23, Try.ntmps23
  go_upto_region 1 with fail
  generalize hW0 : ((w.alloc _).alloc _) = W0
  have k0 : W0.cell? ⟨w.heap.size, 0, none⟩ = some (.slice AX X.length cx) := by rw [← hW0]; clear hW0; go_simp
  have k1 : W0.cell? ⟨w.heap.size, 1, none⟩ = some (.slice AY Y.length cy) := by rw [← hW0]; clear hW0; go_simp
  have k2 : W0.cell? ⟨w.heap.size, 2, none⟩ = some (.slice AV V.length cv) := by rw [← hW0]; clear hW0; go_simp
  have k3 : ∀ k, k < 3 → W0.cell? ⟨w.heap.size + 1, k, none⟩ = some (.slice none 0 0) := by rw [← hW0]; clear hW0; intro k hk; match k, hk with | 0, _ => go_simp | 1, _ => go_simp | 2, _ => go_simp
  have k4 : ∀ k, k < 3 → W0.frozen? ⟨w.heap.size + 1, k, none⟩ = false := by rw [← hW0]; clear hW0; intro k hk; match k, hk with | 0, _ => simp [go_sem] | 1, _ => simp [go_sem] | 2, _ => simp [go_sem]
  have hB0 : Below w.heap.size w W0 := by rw [← hW0]; clear hW0; go_grown
  have hz : W0.heap.size = w.heap.size + 2 := by rw [← hW0]; clear hW0; simp
  have HZ := Lib.hid hz
  have HB0 := Lib.hid hB0
  have HX := Lib.hid (h.x.below (hB0.mono hB))
  have HY := Lib.hid (h.y.below (hB0.mono hB))
  have HV := Lib.hid (h.v.below (hB0.mono hB))
  clear hW0 hz hB0 h
  refine wpIn_wide.1 (region_inv2 (n := 9) (by kernel_rfl) (RC w AX AY X Y cx cy W0) (by kernel_rfl) rfl ⟨(by intro j u _ hl; rw [getD_replicate_no] at hl; cases hl), (by intro hl; rw [getD_replicate_no] at hl; cases hl), (Below.refl _ _).drew, 0, 0, 0, (by intro hl; rw [getD_replicate_no] at hl; cases hl), (by intro hl; rw [getD_replicate_no] at hl; cases hl), (by intro hl; rw [getD_replicate_no] at hl; cases hl), (by intro hl; rw [getD_replicate_no] at hl; cases hl), (by intro hl; rw [getD_replicate_no] at hl; cases hl), (by intro hl _; rw [getD_replicate_no] at hl; cases hl)⟩ ?hstep ?hend)
  case hstep =>
    intro i' o ho val L b' W hF hR hpre hl
    match i', ho with
    | 0, ho =>
      simp at ho
      subst ho
      refine step_plain rfl ?_
      have hs : 0 < L.size := by rw [hF.lsize]; decide
      obtain ⟨hfx, h8, hC⟩ := hR
      have l3 := hF.later hl 3 rfl (e := ⟨0, .data⟩) (by simp) rfl rfl
      have lk : L.getD 0 false = false := by rw [← getD_same hs]; exact hl
      have hgoal : RC w AX AY X Y cx cy W0 (upd val 0 (.slice (some ⟨W.heap.size, 0, none⟩) 0 0)) (L.setIfInBounds 0 true) (W.alloc (.cells #[] 3)) := by
        refine ⟨fx_step hfx (by intro u hu; simp [fxC] at hu), ?_, ?_⟩
        · simpa only [upd_other (show (3 : Nat) ≠ 0 by decide), upd_other (show (4 : Nat) ≠ 0 by decide), upd_other (show (7 : Nat) ≠ 0 by decide), upd_other (show (8 : Nat) ≠ 0 by decide), upd_other (show (9 : Nat) ≠ 0 by decide), upd_same, getD_set_other (show (0 : Nat) ≠ 3 by decide), getD_set_other (show (0 : Nat) ≠ 4 by decide), getD_set_other (show (0 : Nat) ≠ 7 by decide), getD_set_other (show (0 : Nat) ≠ 8 by decide), getD_set_other (show (0 : Nat) ≠ 9 by decide), getD_set_other (show (0 : Nat) ≠ 10 by decide), getD_set_eq hs] using h8
        · simp only [upd_other (show (3 : Nat) ≠ 0 by decide), upd_other (show (4 : Nat) ≠ 0 by decide), upd_other (show (7 : Nat) ≠ 0 by decide), upd_other (show (9 : Nat) ≠ 0 by decide), upd_same, getD_set_other (show (0 : Nat) ≠ 3 by decide), getD_set_other (show (0 : Nat) ≠ 4 by decide), getD_set_other (show (0 : Nat) ≠ 7 by decide), getD_set_other (show (0 : Nat) ≠ 9 by decide), getD_set_other (show (0 : Nat) ≠ 10 by decide), getD_set_eq hs]
          rw [lk, l3] at hC
          rw [l3]
          exact hC.op0
      clear hF hpre hl hfx h8 hC hs
      go_simp
      exact ⟨_, rfl, hgoal⟩
    | 1, ho =>
      simp at ho
      subst ho
      refine step_plain rfl ?_
      have e1 := hF.was 1 (by kernel_rfl) rfl
      have hs : 1 < L.size := by rw [hF.lsize]; decide
      obtain ⟨hfx, h8, hC⟩ := hR
      have hgoal : ∀ v, (∀ u, fxC w AX AY X Y cx cy 1 = some u → v = u) → RC w AX AY X Y cx cy W0 (upd val 1 v) (L.setIfInBounds 1 true) W := fun v hv => by
        refine ⟨fx_step hfx hv, ?_, ?_⟩
        · simpa only [upd_other (show (0 : Nat) ≠ 1 by decide), upd_other (show (3 : Nat) ≠ 1 by decide), upd_other (show (4 : Nat) ≠ 1 by decide), upd_other (show (7 : Nat) ≠ 1 by decide), upd_other (show (8 : Nat) ≠ 1 by decide), upd_other (show (9 : Nat) ≠ 1 by decide), upd_same, getD_set_other (show (1 : Nat) ≠ 0 by decide), getD_set_other (show (1 : Nat) ≠ 3 by decide), getD_set_other (show (1 : Nat) ≠ 4 by decide), getD_set_other (show (1 : Nat) ≠ 7 by decide), getD_set_other (show (1 : Nat) ≠ 8 by decide), getD_set_other (show (1 : Nat) ≠ 9 by decide), getD_set_other (show (1 : Nat) ≠ 10 by decide), getD_set_eq hs] using h8
        · simpa only [upd_other (show (0 : Nat) ≠ 1 by decide), upd_other (show (3 : Nat) ≠ 1 by decide), upd_other (show (4 : Nat) ≠ 1 by decide), upd_other (show (7 : Nat) ≠ 1 by decide), upd_other (show (8 : Nat) ≠ 1 by decide), upd_other (show (9 : Nat) ≠ 1 by decide), upd_same, getD_set_other (show (1 : Nat) ≠ 0 by decide), getD_set_other (show (1 : Nat) ≠ 3 by decide), getD_set_other (show (1 : Nat) ≠ 4 by decide), getD_set_other (show (1 : Nat) ≠ 7 by decide), getD_set_other (show (1 : Nat) ≠ 8 by decide), getD_set_other (show (1 : Nat) ≠ 9 by decide), getD_set_other (show (1 : Nat) ≠ 10 by decide), getD_set_eq hs] using hC
      clear hF hpre hl hfx h8 hC hs
      go_simp
      exact ⟨_, rfl, hgoal _ (by intro u hu; simpa [fxC] using hu)⟩
    | 2, ho =>
      simp at ho
      subst ho
      refine step_plain rfl ?_
      have e6 := hF.gave 1 rfl (hpre ⟨1, .data⟩ (by simp) rfl) rfl
      have hs : 2 < L.size := by rw [hF.lsize]; decide
      obtain ⟨hfx, h8, hC⟩ := hR
      have v1 := hfx 1 _ rfl (hpre ⟨1, .data⟩ (by simp) rfl)
      rw [v1] at e6
      have q0 := cell_keep hC.1 k0
      have hgoal : ∀ v, (∀ u, fxC w AX AY X Y cx cy 2 = some u → v = u) → RC w AX AY X Y cx cy W0 (upd val 2 v) (L.setIfInBounds 2 true) W := fun v hv => by
        refine ⟨fx_step hfx hv, ?_, ?_⟩
        · simpa only [upd_other (show (0 : Nat) ≠ 2 by decide), upd_other (show (3 : Nat) ≠ 2 by decide), upd_other (show (4 : Nat) ≠ 2 by decide), upd_other (show (7 : Nat) ≠ 2 by decide), upd_other (show (8 : Nat) ≠ 2 by decide), upd_other (show (9 : Nat) ≠ 2 by decide), upd_same, getD_set_other (show (2 : Nat) ≠ 0 by decide), getD_set_other (show (2 : Nat) ≠ 3 by decide), getD_set_other (show (2 : Nat) ≠ 4 by decide), getD_set_other (show (2 : Nat) ≠ 7 by decide), getD_set_other (show (2 : Nat) ≠ 8 by decide), getD_set_other (show (2 : Nat) ≠ 9 by decide), getD_set_other (show (2 : Nat) ≠ 10 by decide), getD_set_eq hs] using h8
        · simpa only [upd_other (show (0 : Nat) ≠ 2 by decide), upd_other (show (3 : Nat) ≠ 2 by decide), upd_other (show (4 : Nat) ≠ 2 by decide), upd_other (show (7 : Nat) ≠ 2 by decide), upd_other (show (8 : Nat) ≠ 2 by decide), upd_other (show (9 : Nat) ≠ 2 by decide), upd_same, getD_set_other (show (2 : Nat) ≠ 0 by decide), getD_set_other (show (2 : Nat) ≠ 3 by decide), getD_set_other (show (2 : Nat) ≠ 4 by decide), getD_set_other (show (2 : Nat) ≠ 7 by decide), getD_set_other (show (2 : Nat) ≠ 8 by decide), getD_set_other (show (2 : Nat) ≠ 9 by decide), getD_set_other (show (2 : Nat) ≠ 10 by decide), getD_set_eq hs] using hC
      clear hF hpre hl hfx h8 hC hs
      go_simp
      exact ⟨_, rfl, hgoal _ (by intro u hu; simpa [fxC] using hu)⟩
    | 3, ho =>
      simp at ho
      subst ho
      refine step_plain rfl ?_
      have e5 := hF.gave 0 rfl (hpre ⟨0, .data⟩ (by simp) rfl) rfl
      have e7 := hF.gave 2 rfl (hpre ⟨2, .data⟩ (by simp) rfl) rfl
      have hs : 3 < L.size := by rw [hF.lsize]; decide
      obtain ⟨hfx, h8, hC⟩ := hR
      have lk : L.getD 3 false = false := by rw [← getD_same hs]; exact hl
      have la := hpre ⟨0, .data⟩ (by simp) rfl
      have vl := hfx 2 _ rfl (hpre ⟨2, .data⟩ (by simp) rfl)
      have l8 := hF.later hl 8 rfl (e := ⟨3, .data⟩) (by simp) rfl rfl
      have l10 := hF.later hl 10 rfl (e := ⟨3, .phase⟩) (by simp) rfl rfl
      rw [vl] at e7
      rw [la, lk, l10] at hC
      have hC' := hC
      obtain ⟨hbel, bx, by_, bo, r1, r2, _⟩ := hC'
      have r := r1 rfl
      simp only [Bool.false_eq_true, if_false] at r
      refine wpIn_append_all _ _ _ 24 rfl W0.heap.size 3 i0 (.int .i64 0) 1 8 Try.underlying24 hi0 hz0 hz1 hz2 rfl (by decide) _ 0 [] (by rw [Act.eval, Array.getD_eq_getD_getElem?]; exact e5) r.2.2.2 AX X.length cx (X.map (Value.int .i64)) (by rw [Act.eval, Array.getD_eq_getD_getElem?]; exact e7) (by simp) (HX.out.below (hbel.mono (Nat.le_trans hB HB0.out.size))).cells (ints_one _) ?c1 ?c2 hbel.size _ rfl ?_
      case c1 => unfold maxLen; omega
      case c2 => omega
      intro v' w1 hown' hgrow hat hnn
      refine ⟨_, rfl, fx_step hfx (by intro u hu; simp [fxC] at hu), ?_, ?_⟩
      · simp only [upd_other (show (7 : Nat) ≠ 3 by decide), upd_other (show (8 : Nat) ≠ 3 by decide), upd_same, getD_set_other (show (3 : Nat) ≠ 8 by decide)]
        intro h; rw [l8] at h; cases h
      · simp only [upd_other (show (0 : Nat) ≠ 3 by decide), upd_other (show (4 : Nat) ≠ 3 by decide), upd_other (show (7 : Nat) ≠ 3 by decide), upd_other (show (9 : Nat) ≠ 3 by decide), upd_same, getD_set_other (show (3 : Nat) ≠ 0 by decide), getD_set_other (show (3 : Nat) ≠ 4 by decide), getD_set_other (show (3 : Nat) ≠ 7 by decide), getD_set_other (show (3 : Nat) ≠ 9 by decide), getD_set_other (show (3 : Nat) ≠ 10 by decide), getD_set_eq hs]
        rw [la, l10]
        exact hC.op3 hgrow (by simpa using hown') hat
    | 4, ho =>
      simp at ho
      subst ho
      refine step_plain rfl ?_
      have hs : 4 < L.size := by rw [hF.lsize]; decide
      obtain ⟨hfx, h8, hC⟩ := hR
      have l7 := hF.later hl 7 rfl (e := ⟨4, .data⟩) (by simp) rfl rfl
      have lk : L.getD 4 false = false := by rw [← getD_same hs]; exact hl
      have hgoal : RC w AX AY X Y cx cy W0 (upd val 4 (.slice (some ⟨W.heap.size, 0, none⟩) 0 0)) (L.setIfInBounds 4 true) (W.alloc (.cells #[] 3)) := by
        refine ⟨fx_step hfx (by intro u hu; simp [fxC] at hu), ?_, ?_⟩
        · simpa only [upd_other (show (0 : Nat) ≠ 4 by decide), upd_other (show (3 : Nat) ≠ 4 by decide), upd_other (show (7 : Nat) ≠ 4 by decide), upd_other (show (8 : Nat) ≠ 4 by decide), upd_other (show (9 : Nat) ≠ 4 by decide), upd_same, getD_set_other (show (4 : Nat) ≠ 0 by decide), getD_set_other (show (4 : Nat) ≠ 3 by decide), getD_set_other (show (4 : Nat) ≠ 7 by decide), getD_set_other (show (4 : Nat) ≠ 8 by decide), getD_set_other (show (4 : Nat) ≠ 9 by decide), getD_set_other (show (4 : Nat) ≠ 10 by decide), getD_set_eq hs] using h8
        · simp only [upd_other (show (0 : Nat) ≠ 4 by decide), upd_other (show (3 : Nat) ≠ 4 by decide), upd_other (show (7 : Nat) ≠ 4 by decide), upd_other (show (9 : Nat) ≠ 4 by decide), upd_same, getD_set_other (show (4 : Nat) ≠ 0 by decide), getD_set_other (show (4 : Nat) ≠ 3 by decide), getD_set_other (show (4 : Nat) ≠ 7 by decide), getD_set_other (show (4 : Nat) ≠ 9 by decide), getD_set_other (show (4 : Nat) ≠ 10 by decide), getD_set_eq hs]
          rw [lk, l7] at hC
          rw [l7]
          exact hC.op4
      clear hF hpre hl hfx h8 hC hs
      go_simp
      exact ⟨_, rfl, hgoal⟩
    | 5, ho =>
      simp at ho
      subst ho
      refine step_plain rfl ?_
      have e1 := hF.was 1 (by kernel_rfl) rfl
      have hs : 5 < L.size := by rw [hF.lsize]; decide
      obtain ⟨hfx, h8, hC⟩ := hR
      have hgoal : ∀ v, (∀ u, fxC w AX AY X Y cx cy 5 = some u → v = u) → RC w AX AY X Y cx cy W0 (upd val 5 v) (L.setIfInBounds 5 true) W := fun v hv => by
        refine ⟨fx_step hfx hv, ?_, ?_⟩
        · simpa only [upd_other (show (0 : Nat) ≠ 5 by decide), upd_other (show (3 : Nat) ≠ 5 by decide), upd_other (show (4 : Nat) ≠ 5 by decide), upd_other (show (7 : Nat) ≠ 5 by decide), upd_other (show (8 : Nat) ≠ 5 by decide), upd_other (show (9 : Nat) ≠ 5 by decide), upd_same, getD_set_other (show (5 : Nat) ≠ 0 by decide), getD_set_other (show (5 : Nat) ≠ 3 by decide), getD_set_other (show (5 : Nat) ≠ 4 by decide), getD_set_other (show (5 : Nat) ≠ 7 by decide), getD_set_other (show (5 : Nat) ≠ 8 by decide), getD_set_other (show (5 : Nat) ≠ 9 by decide), getD_set_other (show (5 : Nat) ≠ 10 by decide), getD_set_eq hs] using h8
        · simpa only [upd_other (show (0 : Nat) ≠ 5 by decide), upd_other (show (3 : Nat) ≠ 5 by decide), upd_other (show (4 : Nat) ≠ 5 by decide), upd_other (show (7 : Nat) ≠ 5 by decide), upd_other (show (8 : Nat) ≠ 5 by decide), upd_other (show (9 : Nat) ≠ 5 by decide), upd_same, getD_set_other (show (5 : Nat) ≠ 0 by decide), getD_set_other (show (5 : Nat) ≠ 3 by decide), getD_set_other (show (5 : Nat) ≠ 4 by decide), getD_set_other (show (5 : Nat) ≠ 7 by decide), getD_set_other (show (5 : Nat) ≠ 8 by decide), getD_set_other (show (5 : Nat) ≠ 9 by decide), getD_set_other (show (5 : Nat) ≠ 10 by decide), getD_set_eq hs] using hC
      clear hF hpre hl hfx h8 hC hs
      go_simp
      exact ⟨_, rfl, hgoal _ (by intro u hu; simpa [fxC] using hu)⟩
    | 6, ho =>
      simp at ho
      subst ho
      refine step_plain rfl ?_
      have e10 := hF.gave 5 rfl (hpre ⟨5, .data⟩ (by simp) rfl) rfl
      have hs : 6 < L.size := by rw [hF.lsize]; decide
      obtain ⟨hfx, h8, hC⟩ := hR
      have v5 := hfx 5 _ rfl (hpre ⟨5, .data⟩ (by simp) rfl)
      rw [v5] at e10
      have q0 := cell_keep hC.1 k1
      have hgoal : ∀ v, (∀ u, fxC w AX AY X Y cx cy 6 = some u → v = u) → RC w AX AY X Y cx cy W0 (upd val 6 v) (L.setIfInBounds 6 true) W := fun v hv => by
        refine ⟨fx_step hfx hv, ?_, ?_⟩
        · simpa only [upd_other (show (0 : Nat) ≠ 6 by decide), upd_other (show (3 : Nat) ≠ 6 by decide), upd_other (show (4 : Nat) ≠ 6 by decide), upd_other (show (7 : Nat) ≠ 6 by decide), upd_other (show (8 : Nat) ≠ 6 by decide), upd_other (show (9 : Nat) ≠ 6 by decide), upd_same, getD_set_other (show (6 : Nat) ≠ 0 by decide), getD_set_other (show (6 : Nat) ≠ 3 by decide), getD_set_other (show (6 : Nat) ≠ 4 by decide), getD_set_other (show (6 : Nat) ≠ 7 by decide), getD_set_other (show (6 : Nat) ≠ 8 by decide), getD_set_other (show (6 : Nat) ≠ 9 by decide), getD_set_other (show (6 : Nat) ≠ 10 by decide), getD_set_eq hs] using h8
        · simpa only [upd_other (show (0 : Nat) ≠ 6 by decide), upd_other (show (3 : Nat) ≠ 6 by decide), upd_other (show (4 : Nat) ≠ 6 by decide), upd_other (show (7 : Nat) ≠ 6 by decide), upd_other (show (8 : Nat) ≠ 6 by decide), upd_other (show (9 : Nat) ≠ 6 by decide), upd_same, getD_set_other (show (6 : Nat) ≠ 0 by decide), getD_set_other (show (6 : Nat) ≠ 3 by decide), getD_set_other (show (6 : Nat) ≠ 4 by decide), getD_set_other (show (6 : Nat) ≠ 7 by decide), getD_set_other (show (6 : Nat) ≠ 8 by decide), getD_set_other (show (6 : Nat) ≠ 9 by decide), getD_set_other (show (6 : Nat) ≠ 10 by decide), getD_set_eq hs] using hC
      clear hF hpre hl hfx h8 hC hs
      go_simp
      exact ⟨_, rfl, hgoal _ (by intro u hu; simpa [fxC] using hu)⟩
    | 7, ho =>
      simp at ho
      subst ho
      refine step_plain rfl ?_
      have e9 := hF.gave 4 rfl (hpre ⟨4, .data⟩ (by simp) rfl) rfl
      have e11 := hF.gave 6 rfl (hpre ⟨6, .data⟩ (by simp) rfl) rfl
      have hs : 7 < L.size := by rw [hF.lsize]; decide
      obtain ⟨hfx, h8, hC⟩ := hR
      have lk : L.getD 7 false = false := by rw [← getD_same hs]; exact hl
      have la := hpre ⟨4, .data⟩ (by simp) rfl
      have vl := hfx 6 _ rfl (hpre ⟨6, .data⟩ (by simp) rfl)
      have l8 := hF.later hl 8 rfl (e := ⟨7, .data⟩) (by simp) rfl rfl
      have l10 := hF.later hl 10 rfl (e := ⟨7, .chain⟩) (by simp) rfl rfl
      rw [vl] at e11
      rw [la, lk, l10] at hC
      have hC' := hC
      obtain ⟨hbel, bx, by_, bo, r1, r2, _⟩ := hC'
      have r := r2 rfl
      simp only [Bool.false_eq_true, if_false] at r
      refine wpIn_append_all _ _ _ 24 rfl W0.heap.size 3 i0 (.int .i64 0) 1 8 Try.underlying24 hi0 hz0 hz1 hz2 rfl (by decide) _ 0 [] (by rw [Act.eval, Array.getD_eq_getD_getElem?]; exact e9) r.2.2.2 AY Y.length cy (Y.map (Value.int .i64)) (by rw [Act.eval, Array.getD_eq_getD_getElem?]; exact e11) (by simp) (HY.out.below (hbel.mono (Nat.le_trans hB HB0.out.size))).cells (ints_one _) ?c1 ?c2 hbel.size _ rfl ?_
      case c1 => unfold maxLen; omega
      case c2 => omega
      intro v' w1 hown' hgrow hat hnn
      refine ⟨_, rfl, fx_step hfx (by intro u hu; simp [fxC] at hu), ?_, ?_⟩
      · simp only [upd_other (show (3 : Nat) ≠ 7 by decide), upd_other (show (8 : Nat) ≠ 7 by decide), upd_same, getD_set_other (show (7 : Nat) ≠ 8 by decide)]
        intro h; rw [l8] at h; cases h
      · simp only [upd_other (show (0 : Nat) ≠ 7 by decide), upd_other (show (3 : Nat) ≠ 7 by decide), upd_other (show (4 : Nat) ≠ 7 by decide), upd_other (show (9 : Nat) ≠ 7 by decide), upd_same, getD_set_other (show (7 : Nat) ≠ 0 by decide), getD_set_other (show (7 : Nat) ≠ 3 by decide), getD_set_other (show (7 : Nat) ≠ 4 by decide), getD_set_other (show (7 : Nat) ≠ 9 by decide), getD_set_other (show (7 : Nat) ≠ 10 by decide), getD_set_eq hs]
        rw [la, l10]
        exact hC.op7 hgrow (by simpa using hown') hat
    | 8, ho =>
      simp at ho
      subst ho
      refine step_plain rfl ?_
      have e8 := hF.gave 3 rfl (hpre ⟨3, .data⟩ (by simp) rfl) rfl
      have e12 := hF.gave 7 rfl (hpre ⟨7, .data⟩ (by simp) rfl) rfl
      have hs : 8 < L.size := by rw [hF.lsize]; decide
      obtain ⟨hfx, h8, hC⟩ := hR
      have l3 := hpre ⟨3, .data⟩ (by simp) rfl
      have l7 := hpre ⟨7, .data⟩ (by simp) rfl
      have l0 := hF.closed 3 _ rfl l3 ⟨0, .data⟩ (by simp) rfl
      have l4 := hF.closed 7 _ rfl l7 ⟨4, .data⟩ (by simp) rfl
      have hC' := hC
      obtain ⟨_, bx, by_, bo, r1, r2, _⟩ := hC'
      have r1' := r1 l0
      have r2' := r2 l4
      rw [if_pos l3, if_pos l3] at r1'
      rw [if_pos l7, if_pos l7] at r2'
      obtain ⟨c3, e3, _⟩ := r1'.slice
      obtain ⟨c7, e7, _⟩ := r2'.slice
      have hgoal : ∀ v, v = .agg #[val 3, val 7, .slice none 0 0] → RC w AX AY X Y cx cy W0 (upd val 8 v) (L.setIfInBounds 8 true) W := fun v hv => by
        refine ⟨fx_step hfx (by intro u hu; simp [fxC] at hu), ?_, ?_⟩
        · simpa only [upd_other (show (0 : Nat) ≠ 8 by decide), upd_other (show (3 : Nat) ≠ 8 by decide), upd_other (show (4 : Nat) ≠ 8 by decide), upd_other (show (7 : Nat) ≠ 8 by decide), upd_other (show (9 : Nat) ≠ 8 by decide), upd_same, getD_set_other (show (8 : Nat) ≠ 0 by decide), getD_set_other (show (8 : Nat) ≠ 3 by decide), getD_set_other (show (8 : Nat) ≠ 4 by decide), getD_set_other (show (8 : Nat) ≠ 7 by decide), getD_set_other (show (8 : Nat) ≠ 9 by decide), getD_set_other (show (8 : Nat) ≠ 10 by decide), getD_set_eq hs] using fun _ => hv
        · simpa only [upd_other (show (0 : Nat) ≠ 8 by decide), upd_other (show (3 : Nat) ≠ 8 by decide), upd_other (show (4 : Nat) ≠ 8 by decide), upd_other (show (7 : Nat) ≠ 8 by decide), upd_other (show (9 : Nat) ≠ 8 by decide), upd_same, getD_set_other (show (8 : Nat) ≠ 0 by decide), getD_set_other (show (8 : Nat) ≠ 3 by decide), getD_set_other (show (8 : Nat) ≠ 4 by decide), getD_set_other (show (8 : Nat) ≠ 7 by decide), getD_set_other (show (8 : Nat) ≠ 9 by decide), getD_set_other (show (8 : Nat) ≠ 10 by decide), getD_set_eq hs] using hC
      rw [e3, e7] at hgoal
      rw [e3] at e8
      rw [e7] at e12
      clear hF hpre hl hfx h8 hC hs r1 r2 r1' r2' e3 e7 l0 l3 l4 l7
      go_simp
      exact ⟨_, rfl, hgoal _ rfl⟩
    | 9, ho =>
      simp at ho
      subst ho
      refine step_plain rfl ?_
      have hs : 9 < L.size := by rw [hF.lsize]; decide
      obtain ⟨hfx, h8, hC⟩ := hR
      have lk : L.getD 9 false = false := by rw [← getD_same hs]; exact hl
      have l10 := hF.later hl 10 rfl (e := ⟨9, .data⟩) (by simp) rfl rfl
      have hgoal : RC w AX AY X Y cx cy W0 (upd val 9 (.pointer (some ⟨W.heap.size, 0, none⟩))) (L.setIfInBounds 9 true) (W.alloc (.cells #[.slice none 0 0, .slice none 0 0, .slice none 0 0] 27)) := by
        refine ⟨fx_step hfx (by intro u hu; simp [fxC] at hu), ?_, ?_⟩
        · simpa only [upd_other (show (0 : Nat) ≠ 9 by decide), upd_other (show (3 : Nat) ≠ 9 by decide), upd_other (show (4 : Nat) ≠ 9 by decide), upd_other (show (7 : Nat) ≠ 9 by decide), upd_other (show (8 : Nat) ≠ 9 by decide), upd_same, getD_set_other (show (9 : Nat) ≠ 0 by decide), getD_set_other (show (9 : Nat) ≠ 3 by decide), getD_set_other (show (9 : Nat) ≠ 4 by decide), getD_set_other (show (9 : Nat) ≠ 7 by decide), getD_set_other (show (9 : Nat) ≠ 8 by decide), getD_set_other (show (9 : Nat) ≠ 10 by decide), getD_set_eq hs] using h8
        · simp only [upd_other (show (0 : Nat) ≠ 9 by decide), upd_other (show (3 : Nat) ≠ 9 by decide), upd_other (show (4 : Nat) ≠ 9 by decide), upd_other (show (7 : Nat) ≠ 9 by decide), upd_same, getD_set_other (show (9 : Nat) ≠ 0 by decide), getD_set_other (show (9 : Nat) ≠ 3 by decide), getD_set_other (show (9 : Nat) ≠ 4 by decide), getD_set_other (show (9 : Nat) ≠ 7 by decide), getD_set_other (show (9 : Nat) ≠ 10 by decide), getD_set_eq hs]
          rw [lk, l10] at hC
          rw [l10]
          exact hC.op9
      clear hF hpre hl hfx h8 hC hs
      go_simp
      exact ⟨_, rfl, hgoal⟩
    | 10, ho =>
      simp at ho
      subst ho
      refine step_plain rfl ?_
      have e3 := hF.gave 9 rfl (hpre ⟨9, .data⟩ (by simp) rfl) rfl
      have e13 := hF.gave 8 rfl (hpre ⟨8, .data⟩ (by simp) rfl) rfl
      have hs : 10 < L.size := by rw [hF.lsize]; decide
      obtain ⟨hfx, h8, hC⟩ := hR
      have lk : L.getD 10 false = false := by rw [← getD_same hs]; exact hl
      have l9 := hpre ⟨9, .data⟩ (by simp) rfl
      have l8 := hpre ⟨8, .data⟩ (by simp) rfl
      have l7 := hpre ⟨7, .chain⟩ (by simp) rfl
      have l3 := hpre ⟨3, .phase⟩ (by simp) rfl
      have l0 := hpre ⟨0, .phase⟩ (by simp) rfl
      have l4 := hpre ⟨4, .phase⟩ (by simp) rfl
      rw [l0, l3, l4, l7, l9, lk] at hC
      have v8 := h8 l8
      rw [v8] at e13
      obtain ⟨bo, e9, hbl, hC1⟩ := hC.op10
      rw [e9] at e3
      have c0 : W.cell? ⟨bo, 0, none⟩ = some (.slice none 0 0) := block_cell hbl
      have c1 : W.cell? ⟨bo, 1, none⟩ = some (.slice none 0 0) := block_cell hbl
      have c2 : W.cell? ⟨bo, 2, none⟩ = some (.slice none 0 0) := block_cell hbl
      have z0 : W.frozen? ⟨bo, 0, none⟩ = false := block_frozen hbl
      have z1 : W.frozen? ⟨bo, 1, none⟩ = false := block_frozen hbl
      have z2 : W.frozen? ⟨bo, 2, none⟩ = false := block_frozen hbl
      have hgoal : RC w AX AY X Y cx cy W0 (upd val 10 undef) (L.setIfInBounds 10 true) (((W.setCell ⟨bo, 0, none⟩ (val 3)).setCell ⟨bo, 1, none⟩ (val 7)).setCell ⟨bo, 2, none⟩ (.slice none 0 0)) := by
        refine ⟨fx_step hfx (by intro u hu; simp [fxC] at hu), ?_, ?_⟩
        · simpa only [upd_other (show (0 : Nat) ≠ 10 by decide), upd_other (show (3 : Nat) ≠ 10 by decide), upd_other (show (4 : Nat) ≠ 10 by decide), upd_other (show (7 : Nat) ≠ 10 by decide), upd_other (show (8 : Nat) ≠ 10 by decide), upd_other (show (9 : Nat) ≠ 10 by decide), upd_same, getD_set_other (show (10 : Nat) ≠ 0 by decide), getD_set_other (show (10 : Nat) ≠ 3 by decide), getD_set_other (show (10 : Nat) ≠ 4 by decide), getD_set_other (show (10 : Nat) ≠ 7 by decide), getD_set_other (show (10 : Nat) ≠ 8 by decide), getD_set_other (show (10 : Nat) ≠ 9 by decide), getD_set_eq hs] using h8
        · simp only [upd_other (show (0 : Nat) ≠ 10 by decide), upd_other (show (3 : Nat) ≠ 10 by decide), upd_other (show (4 : Nat) ≠ 10 by decide), upd_other (show (7 : Nat) ≠ 10 by decide), upd_other (show (9 : Nat) ≠ 10 by decide), getD_set_other (show (10 : Nat) ≠ 0 by decide), getD_set_other (show (10 : Nat) ≠ 3 by decide), getD_set_other (show (10 : Nat) ≠ 4 by decide), getD_set_other (show (10 : Nat) ≠ 7 by decide), getD_set_other (show (10 : Nat) ≠ 9 by decide), getD_set_eq hs]
          rw [l0, l3, l4, l7, l9]
          exact hC1
      have hC' := hC1
      obtain ⟨_, bx, by_, _, r1, r2, _⟩ := hC'
      have r1' := r1 rfl
      have r2' := r2 rfl
      rw [if_pos rfl, if_pos rfl] at r1' r2'
      obtain ⟨c3, e3', _⟩ := r1'.slice
      obtain ⟨c7, e7', _⟩ := r2'.slice
      rw [e3', e7'] at hgoal e13
      clear hF hpre hl hfx h8 hC hs hC1 hbl e9 v8 r1 r2 r1' r2' e3' e7' l0 l3 l4 l7 l8 l9 lk
      go_simp
      exact ⟨undef, hgoal⟩
    | i + 11, ho => simp at ho
  case hend =>
    intro val L b W hF hall hR
    obtain ⟨hfx, h8, hC⟩ := hR
    have e := hF.all (by kernel_rfl) hall
    have l0 := hall 0 (by decide)
    have l3 := hall 3 (by decide)
    have l4 := hall 4 (by decide)
    have l7 := hall 7 (by decide)
    have l9 := hall 9 (by decide)
    have l10 := hall 10 (by decide)
    rw [l0, l3, l4, l7, l9, l10] at hC
    obtain ⟨hbel, bx, by_, bo, r1, r2, r3, r4, r5, r6⟩ := hC
    have r1' := r1 rfl
    have r2' := r2 rfl
    obtain ⟨e9, o1, o2⟩ := r3 rfl
    rw [if_pos rfl, if_pos rfl] at r1' r2'
    rw [if_pos rfl, if_pos rfl] at o2
    have nxo := r5 rfl rfl
    have nyo := r6 rfl rfl
    obtain ⟨c3, e3, rx⟩ := r1'.slice
    obtain ⟨c7, e7, ry⟩ := r2'.slice
    rw [e3, e7] at o2
    have hbW : Below w.heap.size w W := HB0.out.trans (hbel.mono HB0.out.size)
    have t0 : W.cell? ⟨w.heap.size, 2, none⟩ = some (.slice AV V.length cv) := cell_keep hbel k2
    have hRR : RR W B AV V := HV.out.below (hbel.mono (Nat.le_trans hB HB0.out.size))
    have hxl : bx < W.heap.size := r1'.2.1
    have hxb : w.heap.size + 2 ≤ bx := by have := HZ.out; have := r1'.1; omega
    have hyb : w.heap.size + 2 ≤ by_ := by have := HZ.out; have := r2'.1; omega
    have hyl : by_ < W.heap.size := r2'.2.1
    have hol : bo < W.heap.size := (Array.getElem?_eq_some_iff.1 o2).1
    have hbo : w.heap.size + 2 ≤ bo := by have := HZ.out; omega
    have tz : ∀ k, k < 3 → W.cell? ⟨w.heap.size + 1, k, none⟩ = some (.slice none 0 0) := fun k hk => cell_keep hbel (k3 k hk)
    have tf : ∀ k, k < 3 → W.frozen? ⟨w.heap.size + 1, k, none⟩ = false := fun k hk => (hbel.frozen (p := ⟨w.heap.size + 1, k, none⟩) (by have := HZ.out; simp; omega)).trans (k4 k hk)
    have HRX := Lib.hid rx
    have HRY := Lib.hid ry
    have HRR := Lib.hid hRR
    have HBW := Lib.hid hbW
    have HO := Lib.hid o2
    have hle : w.heap.size + 2 ≤ W.heap.size := by have := HZ.out; have := hbel.size; omega
    have HLE := Lib.hid hle
    clear hF hall hfx h8 hbel r1 r2 r3 r4 r5 r6 r1' r2' o1 o2 rx ry hRR hbW l0 l3 l4 l7 l9 l10 k0 k1 k2 k3 k4 HX HY HV HZ HB0 hle
    subst e
    simp [final, dstOf, List.range, List.range.loop]
    rw [e9, e3, e7]
    clear e9 e3 e7
    generalize val 0 = v0, val 1 = v1, val 2 = v2, val 4 = v4, val 5 = v5, val 6 = v6, val 8 = v8
    go_wp2_with fail
    go_loopw [4] (fun i wr => ∃ k : Nat, k ≤ V.length ∧ i = .int .i64 k ∧ ∃ rv vs, wr.ownsRow W.heap.size 24 1 rv k vs ∧ Rows_ W.heap.size wr (V.take k) rv vs ∧
      wr.heap[bo]? = some (.cells #[.slice (some ⟨bx, 0, none⟩) X.length c3, .slice (some ⟨by_, 0, none⟩) Y.length c7, rv] 27 (0, 0)) ∧ (∀ b, b < W.heap.size → b ≠ bo → wr.heap[b]? = W.heap[b]?) ∧ W.heap.size ≤ wr.heap.size ∧ Below w.heap.size w wr) (fun i _ => V.length - (intOf i).toNat)
    case atStart => exact ⟨0, by omega, rfl, .slice none 0 0, [], ⟨by simp, .inl ⟨rfl, rfl⟩⟩, ⟨by simp, by simp⟩, HO.out, fun _ _ _ => rfl, Nat.le_refl _, HBW.out⟩
    case round =>
      obtain ⟨k, hk, rfl, rv, vs, hown, hrows, hbox, hkeep, hsz, hbw⟩ := hrel
      have hle := HLE.out
      have hwl : w.heap.size < W.heap.size := by omega
      have q2 : wr.cell? ⟨w.heap.size, 2, none⟩ = some (.slice AV V.length cv) := (cell_same (hkeep _ hwl (by omega))).trans t0
      have hrvM : ∀ q, rv.ownBlock = some q → W.heap.size ≤ q := fun q hq => own_base hown hq
      have hrvlt : ∀ q, rv.ownBlock = some q → q < wr.heap.size := fun q hq => own_lt hown hq
      have hcell : ∀ {x' : World} {g o : Nat} {v : Value}, wr.grownBy x' rv.ownBlock → g < W.heap.size → wr.cell? ⟨g, o, none⟩ = some v → x'.cell? ⟨g, o, none⟩ = some v := fun {x' g o v} hg hlt hc =>
        (cell_same (hg.block g (by omega) (fun h => by have := hrvM g h.symm; omega))).trans hc
      by_cases hlt : k < V.length
      · obtain ⟨b, off, r, A', c', rfl, hb, hr, hc, hri⟩ := HRR.out.at_ hlt
        have hbl : b < W.heap.size := by omega
        have hc' : wr.cell? ⟨b, off + k, none⟩ = some (.slice A' r.length c') := (cell_same (hkeep b hbl (by omega))).trans hc
        have hri' : RI wr B A' r := RV.keep hri (fun p hp => World.cell?_of_block (hkeep p.block (by omega) (by omega)))
        have hrl : r.length ≤ 1000000 := hnr r (List.mem_of_getElem? hr)
        have HR := Lib.hid hr
        have HKP := Lib.hid hkeep
        have HOW := Lib.hid hown
        have HRO := Lib.hid hrows
        have HBR := Lib.hid hbw
        clear hr hc hri hkeep hown hrows hbw
        go_upto_region 5 with fail
        refine wpIn_wide.1 (region_inv2 (n := 9) (by kernel_rfl) (R5 (fx5 w.heap.size b off V.length cv k A' r.length c' bo rv) wr W.heap.size k rv vs r bo) (by kernel_rfl) rfl ⟨(by intro j u _ hl; rw [getD_replicate_no] at hl; cases hl), (fun _ => by simp only [getD_replicate_no]; exact S5.start HOW.out), (by intro hl; rw [getD_replicate_no] at hl; cases hl)⟩ ?hstep ?hend)
        case hstep =>
          intro i' o ho val L b' x' hF hR hpre hl
          match i', ho with
          | 0, ho =>
            simp at ho
            subst ho
            refine step_plain rfl ?_
            have e3 := hF.was 3 (by kernel_rfl) rfl
            have hs : 0 < L.size := by rw [hF.lsize]; decide
            obtain ⟨hfx, hA, hZ⟩ := hR
            have l12 := hF.later hl 12 rfl (e := ⟨0, .phase⟩) (by simp) rfl rfl
            have hS := hA l12
            have hgoal : ∀ v, (∀ u, fx5 w.heap.size b off V.length cv k A' r.length c' bo rv 0 = some u → v = u) → R5 (fx5 w.heap.size b off V.length cv k A' r.length c' bo rv) wr W.heap.size k rv vs r bo (upd val 0 v) (L.setIfInBounds 0 true) x' := fun v hv => by
              refine ⟨fx_step hfx hv, ?_, ?_⟩
              · simpa only [upd_other (show (2 : Nat) ≠ 0 by decide), upd_other (show (8 : Nat) ≠ 0 by decide), upd_other (show (9 : Nat) ≠ 0 by decide), upd_other (show (10 : Nat) ≠ 0 by decide), upd_same, getD_set_other (show (0 : Nat) ≠ 2 by decide), getD_set_other (show (0 : Nat) ≠ 8 by decide), getD_set_other (show (0 : Nat) ≠ 9 by decide), getD_set_other (show (0 : Nat) ≠ 10 by decide), getD_set_other (show (0 : Nat) ≠ 12 by decide), getD_set_eq hs] using hA
              · simpa only [upd_other (show (2 : Nat) ≠ 0 by decide), upd_other (show (8 : Nat) ≠ 0 by decide), upd_other (show (9 : Nat) ≠ 0 by decide), upd_other (show (10 : Nat) ≠ 0 by decide), upd_same, getD_set_other (show (0 : Nat) ≠ 2 by decide), getD_set_other (show (0 : Nat) ≠ 8 by decide), getD_set_other (show (0 : Nat) ≠ 9 by decide), getD_set_other (show (0 : Nat) ≠ 10 by decide), getD_set_other (show (0 : Nat) ≠ 12 by decide), getD_set_eq hs] using hZ
            clear hF hpre hl hfx hA hZ hS hs l12
            go_simp
            exact ⟨_, rfl, hgoal _ (by intro u hu; simpa [fx5] using hu)⟩
          | 1, ho =>
            simp at ho
            subst ho
            refine step_plain rfl ?_
            have e21 := hF.gave 0 rfl (hpre ⟨0, .data⟩ (by simp) rfl) rfl
            have hs : 1 < L.size := by rw [hF.lsize]; decide
            obtain ⟨hfx, hA, hZ⟩ := hR
            have l12 := hF.later hl 12 rfl (e := ⟨1, .phase⟩) (by simp) rfl rfl
            have hS := hA l12
            have v0 := hfx 0 _ rfl (hpre ⟨0, .data⟩ (by simp) rfl)
            rw [v0] at e21
            have q0 := hcell hS.1 hol (block_cell (o := 2) hbox)
            have hgoal : ∀ v, (∀ u, fx5 w.heap.size b off V.length cv k A' r.length c' bo rv 1 = some u → v = u) → R5 (fx5 w.heap.size b off V.length cv k A' r.length c' bo rv) wr W.heap.size k rv vs r bo (upd val 1 v) (L.setIfInBounds 1 true) x' := fun v hv => by
              refine ⟨fx_step hfx hv, ?_, ?_⟩
              · simpa only [upd_other (show (2 : Nat) ≠ 1 by decide), upd_other (show (8 : Nat) ≠ 1 by decide), upd_other (show (9 : Nat) ≠ 1 by decide), upd_other (show (10 : Nat) ≠ 1 by decide), upd_same, getD_set_other (show (1 : Nat) ≠ 2 by decide), getD_set_other (show (1 : Nat) ≠ 8 by decide), getD_set_other (show (1 : Nat) ≠ 9 by decide), getD_set_other (show (1 : Nat) ≠ 10 by decide), getD_set_other (show (1 : Nat) ≠ 12 by decide), getD_set_eq hs] using hA
              · simpa only [upd_other (show (2 : Nat) ≠ 1 by decide), upd_other (show (8 : Nat) ≠ 1 by decide), upd_other (show (9 : Nat) ≠ 1 by decide), upd_other (show (10 : Nat) ≠ 1 by decide), upd_same, getD_set_other (show (1 : Nat) ≠ 2 by decide), getD_set_other (show (1 : Nat) ≠ 8 by decide), getD_set_other (show (1 : Nat) ≠ 9 by decide), getD_set_other (show (1 : Nat) ≠ 10 by decide), getD_set_other (show (1 : Nat) ≠ 12 by decide), getD_set_eq hs] using hZ
            clear hF hpre hl hfx hA hZ hS hs l12
            go_simp
            exact ⟨_, rfl, hgoal _ (by intro u hu; simpa [fx5] using hu)⟩
          | 2, ho =>
            simp at ho
            subst ho
            refine step_plain rfl ?_
            have hs : 2 < L.size := by rw [hF.lsize]; decide
            obtain ⟨hfx, hA, hZ⟩ := hR
            have l12 := hF.later hl 12 rfl (e := ⟨2, .phase⟩) (by simp) rfl rfl
            have hS := hA l12
            have lk : L.getD 2 false = false := by rw [← getD_same hs]; exact hl
            have l8 := hF.later hl 8 rfl (e := ⟨2, .data⟩) (by simp) rfl rfl
            have l9 : L.getD 9 false = false := getD_no_of hF 9 8 rfl (e := ⟨8, .data⟩) (by simp) rfl rfl l8
            have l10 : L.getD 10 false = false := getD_no_of hF 10 9 rfl (e := ⟨9, .data⟩) (by simp) rfl rfl l9
            rw [lk, l8, l9, l10] at hS
            have hgoal : R5 (fx5 w.heap.size b off V.length cv k A' r.length c' bo rv) wr W.heap.size k rv vs r bo (upd val 2 (.slice (some ⟨x'.heap.size, 0, none⟩) 0 0)) (L.setIfInBounds 2 true) (x'.alloc (.cells #[] 3)) := by
              refine ⟨fx_step hfx (by intro u hu; simp [fx5] at hu), ?_, ?_⟩
              · simp only [upd_other (show (8 : Nat) ≠ 2 by decide), upd_other (show (9 : Nat) ≠ 2 by decide), upd_other (show (10 : Nat) ≠ 2 by decide), upd_same, getD_set_other (show (2 : Nat) ≠ 8 by decide), getD_set_other (show (2 : Nat) ≠ 9 by decide), getD_set_other (show (2 : Nat) ≠ 10 by decide), getD_set_other (show (2 : Nat) ≠ 12 by decide), getD_set_eq hs]
                intro _
                rw [l8, l9, l10]
                exact hS.op2 hsz
              · simp only [upd_other (show (8 : Nat) ≠ 2 by decide), upd_other (show (9 : Nat) ≠ 2 by decide), upd_other (show (10 : Nat) ≠ 2 by decide), upd_same, getD_set_other (show (2 : Nat) ≠ 12 by decide)]
                intro h; rw [l12] at h; cases h
            clear hF hpre hl hfx hA hZ hS hs l12 lk l8 l9 l10
            go_simp
            exact ⟨_, rfl, hgoal⟩
          | 3, ho =>
            simp at ho
            subst ho
            refine step_plain rfl ?_
            have e1 := hF.was 1 (by kernel_rfl) rfl
            have hs : 3 < L.size := by rw [hF.lsize]; decide
            obtain ⟨hfx, hA, hZ⟩ := hR
            have l12 := hF.later hl 12 rfl (e := ⟨3, .phase⟩) (by simp) rfl rfl
            have hS := hA l12
            have hgoal : ∀ v, (∀ u, fx5 w.heap.size b off V.length cv k A' r.length c' bo rv 3 = some u → v = u) → R5 (fx5 w.heap.size b off V.length cv k A' r.length c' bo rv) wr W.heap.size k rv vs r bo (upd val 3 v) (L.setIfInBounds 3 true) x' := fun v hv => by
              refine ⟨fx_step hfx hv, ?_, ?_⟩
              · simpa only [upd_other (show (2 : Nat) ≠ 3 by decide), upd_other (show (8 : Nat) ≠ 3 by decide), upd_other (show (9 : Nat) ≠ 3 by decide), upd_other (show (10 : Nat) ≠ 3 by decide), upd_same, getD_set_other (show (3 : Nat) ≠ 2 by decide), getD_set_other (show (3 : Nat) ≠ 8 by decide), getD_set_other (show (3 : Nat) ≠ 9 by decide), getD_set_other (show (3 : Nat) ≠ 10 by decide), getD_set_other (show (3 : Nat) ≠ 12 by decide), getD_set_eq hs] using hA
              · simpa only [upd_other (show (2 : Nat) ≠ 3 by decide), upd_other (show (8 : Nat) ≠ 3 by decide), upd_other (show (9 : Nat) ≠ 3 by decide), upd_other (show (10 : Nat) ≠ 3 by decide), upd_same, getD_set_other (show (3 : Nat) ≠ 2 by decide), getD_set_other (show (3 : Nat) ≠ 8 by decide), getD_set_other (show (3 : Nat) ≠ 9 by decide), getD_set_other (show (3 : Nat) ≠ 10 by decide), getD_set_other (show (3 : Nat) ≠ 12 by decide), getD_set_eq hs] using hZ
            clear hF hpre hl hfx hA hZ hS hs l12
            go_simp
            exact ⟨_, rfl, hgoal _ (by intro u hu; simpa [fx5] using hu)⟩
          | 4, ho =>
            simp at ho
            subst ho
            refine step_plain rfl ?_
            have e24 := hF.gave 3 rfl (hpre ⟨3, .data⟩ (by simp) rfl) rfl
            have hs : 4 < L.size := by rw [hF.lsize]; decide
            obtain ⟨hfx, hA, hZ⟩ := hR
            have l12 := hF.later hl 12 rfl (e := ⟨4, .phase⟩) (by simp) rfl rfl
            have hS := hA l12
            have v3 := hfx 3 _ rfl (hpre ⟨3, .data⟩ (by simp) rfl)
            rw [v3] at e24
            have q0 := hcell hS.1 hwl q2
            have hgoal : ∀ v, (∀ u, fx5 w.heap.size b off V.length cv k A' r.length c' bo rv 4 = some u → v = u) → R5 (fx5 w.heap.size b off V.length cv k A' r.length c' bo rv) wr W.heap.size k rv vs r bo (upd val 4 v) (L.setIfInBounds 4 true) x' := fun v hv => by
              refine ⟨fx_step hfx hv, ?_, ?_⟩
              · simpa only [upd_other (show (2 : Nat) ≠ 4 by decide), upd_other (show (8 : Nat) ≠ 4 by decide), upd_other (show (9 : Nat) ≠ 4 by decide), upd_other (show (10 : Nat) ≠ 4 by decide), upd_same, getD_set_other (show (4 : Nat) ≠ 2 by decide), getD_set_other (show (4 : Nat) ≠ 8 by decide), getD_set_other (show (4 : Nat) ≠ 9 by decide), getD_set_other (show (4 : Nat) ≠ 10 by decide), getD_set_other (show (4 : Nat) ≠ 12 by decide), getD_set_eq hs] using hA
              · simpa only [upd_other (show (2 : Nat) ≠ 4 by decide), upd_other (show (8 : Nat) ≠ 4 by decide), upd_other (show (9 : Nat) ≠ 4 by decide), upd_other (show (10 : Nat) ≠ 4 by decide), upd_same, getD_set_other (show (4 : Nat) ≠ 2 by decide), getD_set_other (show (4 : Nat) ≠ 8 by decide), getD_set_other (show (4 : Nat) ≠ 9 by decide), getD_set_other (show (4 : Nat) ≠ 10 by decide), getD_set_other (show (4 : Nat) ≠ 12 by decide), getD_set_eq hs] using hZ
            clear hF hpre hl hfx hA hZ hS hs l12
            go_simp
            exact ⟨_, rfl, hgoal _ (by intro u hu; simpa [fx5] using hu)⟩
          | 5, ho =>
            simp at ho
            subst ho
            refine step_plain rfl ?_
            have e4 := hF.was 4 (by kernel_rfl) rfl
            have hs : 5 < L.size := by rw [hF.lsize]; decide
            obtain ⟨hfx, hA, hZ⟩ := hR
            have l12 := hF.later hl 12 rfl (e := ⟨5, .phase⟩) (by simp) rfl rfl
            have hS := hA l12
            have hgoal : ∀ v, (∀ u, fx5 w.heap.size b off V.length cv k A' r.length c' bo rv 5 = some u → v = u) → R5 (fx5 w.heap.size b off V.length cv k A' r.length c' bo rv) wr W.heap.size k rv vs r bo (upd val 5 v) (L.setIfInBounds 5 true) x' := fun v hv => by
              refine ⟨fx_step hfx hv, ?_, ?_⟩
              · simpa only [upd_other (show (2 : Nat) ≠ 5 by decide), upd_other (show (8 : Nat) ≠ 5 by decide), upd_other (show (9 : Nat) ≠ 5 by decide), upd_other (show (10 : Nat) ≠ 5 by decide), upd_same, getD_set_other (show (5 : Nat) ≠ 2 by decide), getD_set_other (show (5 : Nat) ≠ 8 by decide), getD_set_other (show (5 : Nat) ≠ 9 by decide), getD_set_other (show (5 : Nat) ≠ 10 by decide), getD_set_other (show (5 : Nat) ≠ 12 by decide), getD_set_eq hs] using hA
              · simpa only [upd_other (show (2 : Nat) ≠ 5 by decide), upd_other (show (8 : Nat) ≠ 5 by decide), upd_other (show (9 : Nat) ≠ 5 by decide), upd_other (show (10 : Nat) ≠ 5 by decide), upd_same, getD_set_other (show (5 : Nat) ≠ 2 by decide), getD_set_other (show (5 : Nat) ≠ 8 by decide), getD_set_other (show (5 : Nat) ≠ 9 by decide), getD_set_other (show (5 : Nat) ≠ 10 by decide), getD_set_other (show (5 : Nat) ≠ 12 by decide), getD_set_eq hs] using hZ
            clear hF hpre hl hfx hA hZ hS hs l12
            go_simp
            exact ⟨_, rfl, hgoal _ (by intro u hu; simpa [fx5] using hu)⟩
          | 6, ho =>
            simp at ho
            subst ho
            refine step_plain rfl ?_
            have e25 := hF.gave 4 rfl (hpre ⟨4, .data⟩ (by simp) rfl) rfl
            have e26 := hF.gave 5 rfl (hpre ⟨5, .data⟩ (by simp) rfl) rfl
            have hs : 6 < L.size := by rw [hF.lsize]; decide
            obtain ⟨hfx, hA, hZ⟩ := hR
            have l12 := hF.later hl 12 rfl (e := ⟨6, .phase⟩) (by simp) rfl rfl
            have hS := hA l12
            have v4 := hfx 4 _ rfl (hpre ⟨4, .data⟩ (by simp) rfl)
            rw [v4] at e25
            have v5 := hfx 5 _ rfl (hpre ⟨5, .data⟩ (by simp) rfl)
            rw [v5] at e26
            have hgoal : ∀ v, (∀ u, fx5 w.heap.size b off V.length cv k A' r.length c' bo rv 6 = some u → v = u) → R5 (fx5 w.heap.size b off V.length cv k A' r.length c' bo rv) wr W.heap.size k rv vs r bo (upd val 6 v) (L.setIfInBounds 6 true) x' := fun v hv => by
              refine ⟨fx_step hfx hv, ?_, ?_⟩
              · simpa only [upd_other (show (2 : Nat) ≠ 6 by decide), upd_other (show (8 : Nat) ≠ 6 by decide), upd_other (show (9 : Nat) ≠ 6 by decide), upd_other (show (10 : Nat) ≠ 6 by decide), upd_same, getD_set_other (show (6 : Nat) ≠ 2 by decide), getD_set_other (show (6 : Nat) ≠ 8 by decide), getD_set_other (show (6 : Nat) ≠ 9 by decide), getD_set_other (show (6 : Nat) ≠ 10 by decide), getD_set_other (show (6 : Nat) ≠ 12 by decide), getD_set_eq hs] using hA
              · simpa only [upd_other (show (2 : Nat) ≠ 6 by decide), upd_other (show (8 : Nat) ≠ 6 by decide), upd_other (show (9 : Nat) ≠ 6 by decide), upd_other (show (10 : Nat) ≠ 6 by decide), upd_same, getD_set_other (show (6 : Nat) ≠ 2 by decide), getD_set_other (show (6 : Nat) ≠ 8 by decide), getD_set_other (show (6 : Nat) ≠ 9 by decide), getD_set_other (show (6 : Nat) ≠ 10 by decide), getD_set_other (show (6 : Nat) ≠ 12 by decide), getD_set_eq hs] using hZ
            clear hF hpre hl hfx hA hZ hS hs l12
            go_simp
            exact ⟨_, rfl, hgoal _ (by intro u hu; simpa [fx5] using hu)⟩
          | 7, ho =>
            simp at ho
            subst ho
            refine step_plain rfl ?_
            have e27 := hF.gave 6 rfl (hpre ⟨6, .data⟩ (by simp) rfl) rfl
            have hs : 7 < L.size := by rw [hF.lsize]; decide
            obtain ⟨hfx, hA, hZ⟩ := hR
            have l12 := hF.later hl 12 rfl (e := ⟨7, .phase⟩) (by simp) rfl rfl
            have hS := hA l12
            have v6 := hfx 6 _ rfl (hpre ⟨6, .data⟩ (by simp) rfl)
            rw [v6] at e27
            have q0 := hcell hS.1 hbl hc'
            have hgoal : ∀ v, (∀ u, fx5 w.heap.size b off V.length cv k A' r.length c' bo rv 7 = some u → v = u) → R5 (fx5 w.heap.size b off V.length cv k A' r.length c' bo rv) wr W.heap.size k rv vs r bo (upd val 7 v) (L.setIfInBounds 7 true) x' := fun v hv => by
              refine ⟨fx_step hfx hv, ?_, ?_⟩
              · simpa only [upd_other (show (2 : Nat) ≠ 7 by decide), upd_other (show (8 : Nat) ≠ 7 by decide), upd_other (show (9 : Nat) ≠ 7 by decide), upd_other (show (10 : Nat) ≠ 7 by decide), upd_same, getD_set_other (show (7 : Nat) ≠ 2 by decide), getD_set_other (show (7 : Nat) ≠ 8 by decide), getD_set_other (show (7 : Nat) ≠ 9 by decide), getD_set_other (show (7 : Nat) ≠ 10 by decide), getD_set_other (show (7 : Nat) ≠ 12 by decide), getD_set_eq hs] using hA
              · simpa only [upd_other (show (2 : Nat) ≠ 7 by decide), upd_other (show (8 : Nat) ≠ 7 by decide), upd_other (show (9 : Nat) ≠ 7 by decide), upd_other (show (10 : Nat) ≠ 7 by decide), upd_same, getD_set_other (show (7 : Nat) ≠ 2 by decide), getD_set_other (show (7 : Nat) ≠ 8 by decide), getD_set_other (show (7 : Nat) ≠ 9 by decide), getD_set_other (show (7 : Nat) ≠ 10 by decide), getD_set_other (show (7 : Nat) ≠ 12 by decide), getD_set_eq hs] using hZ
            clear hF hpre hl hfx hA hZ hS hs l12
            go_simp
            exact ⟨_, rfl, hgoal _ (by intro u hu; simpa [fx5] using hu)⟩
          | 8, ho =>
            simp at ho
            subst ho
            refine step_plain rfl ?_
            have e23 := hF.gave 2 rfl (hpre ⟨2, .data⟩ (by simp) rfl) rfl
            have e28 := hF.gave 7 rfl (hpre ⟨7, .data⟩ (by simp) rfl) rfl
            have hs : 8 < L.size := by rw [hF.lsize]; decide
            obtain ⟨hfx, hA, hZ⟩ := hR
            have l12 := hF.later hl 12 rfl (e := ⟨8, .phase⟩) (by simp) rfl rfl
            have hS := hA l12
            have v7 := hfx 7 _ rfl (hpre ⟨7, .data⟩ (by simp) rfl)
            rw [v7] at e28
            have lk : L.getD 8 false = false := by rw [← getD_same hs]; exact hl
            have l2 := hpre ⟨2, .data⟩ (by simp) rfl
            have l9 := hF.later hl 9 rfl (e := ⟨8, .data⟩) (by simp) rfl rfl
            have l10 := hF.later hl 10 rfl (e := ⟨8, .chain⟩) (by simp) rfl rfl
            rw [lk, l2, l9, l10] at hS
            have hS' := hS
            obtain ⟨hgr, _, g, hg3, hg4, _⟩ := hS'
            have hx := hg4 rfl
            rw [if_neg (by decide), if_neg (by decide)] at hx
            have hle := hgr.size
            refine wpIn_append_all _ _ _ 24 rfl W.heap.size 3 i0 (.int .i64 0) 1 8 Try.underlying24 hi0 hz0 hz1 hz2 rfl (by decide) _ 0 [] (by rw [Act.eval, Array.getD_eq_getD_getElem?]; exact e23) hx.2.2.2 A' r.length c' (r.map (Value.int .i64)) (by rw [Act.eval, Array.getD_eq_getD_getElem?]; exact e28) (by simp) (hri'.cells_grown hgr (by omega) (fun q hq => by have := hrvM q hq; omega)) (ints_one _) ?c1 ?c2 (by omega) _ rfl ?_
            case c1 => unfold maxLen; omega
            case c2 => omega
            intro v' w1 hown' hgrow hat hnn
            refine ⟨_, rfl, fx_step hfx (by intro u hu; simp [fx5] at hu), ?_, ?_⟩
            · simp only [upd_other (show (2 : Nat) ≠ 8 by decide), upd_other (show (9 : Nat) ≠ 8 by decide), upd_other (show (10 : Nat) ≠ 8 by decide), upd_same, getD_set_other (show (8 : Nat) ≠ 2 by decide), getD_set_other (show (8 : Nat) ≠ 9 by decide), getD_set_other (show (8 : Nat) ≠ 10 by decide), getD_set_other (show (8 : Nat) ≠ 12 by decide), getD_set_eq hs]
              intro _
              rw [l2, l9, l10]
              exact hS.op8 hrvlt hgrow (by simpa using hown') hat
            · simp only [upd_other (show (2 : Nat) ≠ 8 by decide), upd_other (show (9 : Nat) ≠ 8 by decide), upd_other (show (10 : Nat) ≠ 8 by decide), upd_same, getD_set_other (show (8 : Nat) ≠ 12 by decide)]
              intro h; rw [l12] at h; cases h
          | 9, ho =>
            simp at ho
            subst ho
            refine step_plain rfl ?_
            have e29 := hF.gave 8 rfl (hpre ⟨8, .data⟩ (by simp) rfl) rfl
            have hs : 9 < L.size := by rw [hF.lsize]; decide
            obtain ⟨hfx, hA, hZ⟩ := hR
            have l12 := hF.later hl 12 rfl (e := ⟨9, .phase⟩) (by simp) rfl rfl
            have hS := hA l12
            have lk : L.getD 9 false = false := by rw [← getD_same hs]; exact hl
            have l8 := hpre ⟨8, .data⟩ (by simp) rfl
            have l2 := hF.closed 8 _ rfl l8 ⟨2, .data⟩ (by simp) rfl
            have l10 := hF.later hl 10 rfl (e := ⟨9, .data⟩) (by simp) rfl rfl
            rw [lk, l8, l2, l10] at hS
            have hx8 := hS.2.2
            obtain ⟨g8, _, hx8, _⟩ := hx8
            have hx8' := hx8 rfl
            rw [if_pos rfl, if_pos rfl] at hx8'
            obtain ⟨c8, e8, _⟩ := hx8'.slice
            have hgoal : R5 (fx5 w.heap.size b off V.length cv k A' r.length c' bo rv) wr W.heap.size k rv vs r bo (upd val 9 (.slice (some ⟨x'.heap.size, 0, none⟩) 1 1)) (L.setIfInBounds 9 true) (x'.alloc (.cells #[val 8] 24)) := by
              refine ⟨fx_step hfx (by intro u hu; simp [fx5] at hu), ?_, ?_⟩
              · simp only [upd_other (show (2 : Nat) ≠ 9 by decide), upd_other (show (8 : Nat) ≠ 9 by decide), upd_other (show (10 : Nat) ≠ 9 by decide), upd_same, getD_set_other (show (9 : Nat) ≠ 2 by decide), getD_set_other (show (9 : Nat) ≠ 8 by decide), getD_set_other (show (9 : Nat) ≠ 10 by decide), getD_set_other (show (9 : Nat) ≠ 12 by decide), getD_set_eq hs]
                intro _
                rw [l8, l2, l10]
                exact hS.op9
              · simp only [upd_other (show (2 : Nat) ≠ 9 by decide), upd_other (show (8 : Nat) ≠ 9 by decide), upd_other (show (10 : Nat) ≠ 9 by decide), upd_same, getD_set_other (show (9 : Nat) ≠ 12 by decide)]
                intro h; rw [l12] at h; cases h
            rw [e8] at hgoal e29
            clear hF hpre hl hfx hA hZ hS hs l12 lk l8 l2 l10 hx8 hx8' e8
            go_simp
            exact ⟨_, rfl, hgoal⟩
          | 10, ho =>
            simp at ho
            subst ho
            refine step_plain rfl ?_
            have e22 := hF.gave 1 rfl (hpre ⟨1, .data⟩ (by simp) rfl) rfl
            have e30 := hF.gave 9 rfl (hpre ⟨9, .data⟩ (by simp) rfl) rfl
            have hs : 10 < L.size := by rw [hF.lsize]; decide
            obtain ⟨hfx, hA, hZ⟩ := hR
            have l12 := hF.later hl 12 rfl (e := ⟨10, .data⟩) (by simp) rfl rfl
            have hS := hA l12
            have v1 := hfx 1 _ rfl (hpre ⟨1, .data⟩ (by simp) rfl)
            rw [v1] at e22
            have lk : L.getD 10 false = false := by rw [← getD_same hs]; exact hl
            have l9 := hpre ⟨9, .data⟩ (by simp) rfl
            have l8 := hpre ⟨8, .chain⟩ (by simp) rfl
            have l2 := hF.closed 8 _ rfl l8 ⟨2, .data⟩ (by simp) rfl
            rw [lk, l2, l9, l8] at hS
            have hS' := hS
            obtain ⟨hgr, hrvo, g, hg3, hg4, hg5, _⟩ := hS'
            obtain ⟨q9, e9, hc9⟩ := hg5 rfl rfl
            rw [e9] at e30
            have hx8' := hg4 rfl
            rw [if_pos rfl, if_pos rfl] at hx8'
            obtain ⟨c8, e8, _⟩ := hx8'.slice
            have hle := hgr.size
            refine wpIn_append_all _ _ _ 25 rfl W.heap.size 24 i1 (.slice none 0 0) 1 24 Try.underlying25 hi1 hy0 hy1 hy2 rfl (by decide) _ k vs (by rw [Act.eval, Array.getD_eq_getD_getElem?]; exact e22) (hrvo rfl) (some ⟨q9, 0, none⟩) 1 1 [val 8] (by rw [Act.eval, Array.getD_eq_getD_getElem?]; exact e30) rfl (fun _ => ⟨_, rfl, fun j u hu => by match j, hu with | 0, hu => (simp at hu; subst hu; simpa [Addr.add] using hc9)⟩) (by intro u hu; simp at hu; subst hu; rw [e8]; rfl) ?c1 ?c2 (by omega) _ rfl ?_
            case c1 => unfold maxLen; omega
            case c2 => omega
            intro v' w1 hown' hgrow hat hnn
            refine ⟨_, rfl, fx_step hfx (by intro u hu; simp [fx5] at hu), ?_, ?_⟩
            · simp only [upd_other (show (2 : Nat) ≠ 10 by decide), upd_other (show (8 : Nat) ≠ 10 by decide), upd_other (show (9 : Nat) ≠ 10 by decide), upd_same, getD_set_other (show (10 : Nat) ≠ 2 by decide), getD_set_other (show (10 : Nat) ≠ 8 by decide), getD_set_other (show (10 : Nat) ≠ 9 by decide), getD_set_other (show (10 : Nat) ≠ 12 by decide), getD_set_eq hs]
              intro _
              rw [l2, l9, l8]
              exact hS.op10 hrvlt hgrow hown' hat
            · simp only [upd_other (show (2 : Nat) ≠ 10 by decide), upd_other (show (8 : Nat) ≠ 10 by decide), upd_other (show (9 : Nat) ≠ 10 by decide), upd_same, getD_set_other (show (10 : Nat) ≠ 12 by decide)]
              intro h; rw [l12] at h; cases h
          | 11, ho =>
            simp at ho
            subst ho
            refine step_plain rfl ?_
            have e3 := hF.was 3 (by kernel_rfl) rfl
            have hs : 11 < L.size := by rw [hF.lsize]; decide
            obtain ⟨hfx, hA, hZ⟩ := hR
            have l12 := hF.later hl 12 rfl (e := ⟨11, .data⟩) (by simp) rfl rfl
            have hS := hA l12
            have hgoal : ∀ v, (∀ u, fx5 w.heap.size b off V.length cv k A' r.length c' bo rv 11 = some u → v = u) → R5 (fx5 w.heap.size b off V.length cv k A' r.length c' bo rv) wr W.heap.size k rv vs r bo (upd val 11 v) (L.setIfInBounds 11 true) x' := fun v hv => by
              refine ⟨fx_step hfx hv, ?_, ?_⟩
              · simpa only [upd_other (show (2 : Nat) ≠ 11 by decide), upd_other (show (8 : Nat) ≠ 11 by decide), upd_other (show (9 : Nat) ≠ 11 by decide), upd_other (show (10 : Nat) ≠ 11 by decide), upd_same, getD_set_other (show (11 : Nat) ≠ 2 by decide), getD_set_other (show (11 : Nat) ≠ 8 by decide), getD_set_other (show (11 : Nat) ≠ 9 by decide), getD_set_other (show (11 : Nat) ≠ 10 by decide), getD_set_other (show (11 : Nat) ≠ 12 by decide), getD_set_eq hs] using hA
              · simpa only [upd_other (show (2 : Nat) ≠ 11 by decide), upd_other (show (8 : Nat) ≠ 11 by decide), upd_other (show (9 : Nat) ≠ 11 by decide), upd_other (show (10 : Nat) ≠ 11 by decide), upd_same, getD_set_other (show (11 : Nat) ≠ 2 by decide), getD_set_other (show (11 : Nat) ≠ 8 by decide), getD_set_other (show (11 : Nat) ≠ 9 by decide), getD_set_other (show (11 : Nat) ≠ 10 by decide), getD_set_other (show (11 : Nat) ≠ 12 by decide), getD_set_eq hs] using hZ
            clear hF hpre hl hfx hA hZ hS hs l12
            go_simp
            exact ⟨_, rfl, hgoal _ (by intro u hu; simpa [fx5] using hu)⟩
          | 12, ho =>
            simp at ho
            subst ho
            refine step_plain rfl ?_
            have e32 := hF.gave 11 rfl (hpre ⟨11, .data⟩ (by simp) rfl) rfl
            have e31 := hF.gave 10 rfl (hpre ⟨10, .data⟩ (by simp) rfl) rfl
            have hs : 12 < L.size := by rw [hF.lsize]; decide
            obtain ⟨hfx, hA, hZ⟩ := hR
            have v11 := hfx 11 _ rfl (hpre ⟨11, .data⟩ (by simp) rfl)
            rw [v11] at e32
            have lk : L.getD 12 false = false := by rw [← getD_same hs]; exact hl
            have hS := hA lk
            have l10 := hpre ⟨10, .data⟩ (by simp) rfl
            have l9 := hpre ⟨9, .phase⟩ (by simp) rfl
            have l8 := hpre ⟨8, .phase⟩ (by simp) rfl
            have l2 := hpre ⟨2, .phase⟩ (by simp) rfl
            rw [l10, l9, l8, l2] at hS
            have hS' := hS
            obtain ⟨hgr, _, g, hg3, hg4, hg5, hg6⟩ := hS'
            obtain ⟨hg7, _, _⟩ := hg6 rfl
            obtain ⟨g10, c10, e10⟩ := ownsRow_succ hg7
            have q0 : x'.cell? ⟨bo, 2, none⟩ = some rv := hcell hgr hol (block_cell (o := 2) hbox)
            have q1 : x'.frozen? ⟨bo, 2, none⟩ = false := (frozen_same (hgr.block bo (by omega) (fun h => by have := hrvM bo h.symm; omega))).trans (block_frozen (o := 2) hbox)
            have hgoal : R5 (fx5 w.heap.size b off V.length cv k A' r.length c' bo rv) wr W.heap.size k rv vs r bo (upd val 12 undef) (L.setIfInBounds 12 true) (x'.setCell ⟨bo, 2, none⟩ (val 10)) := by
              refine ⟨fx_step hfx (by intro u hu; simp [fx5] at hu), ?_, ?_⟩
              · simp only [upd_other (show (2 : Nat) ≠ 12 by decide), upd_other (show (8 : Nat) ≠ 12 by decide), upd_other (show (9 : Nat) ≠ 12 by decide), upd_other (show (10 : Nat) ≠ 12 by decide), getD_set_other (show (12 : Nat) ≠ 2 by decide), getD_set_other (show (12 : Nat) ≠ 8 by decide), getD_set_other (show (12 : Nat) ≠ 9 by decide), getD_set_other (show (12 : Nat) ≠ 10 by decide), getD_set_eq hs]
                intro h; cases h
              · simp only [upd_other (show (2 : Nat) ≠ 12 by decide), upd_other (show (8 : Nat) ≠ 12 by decide), upd_other (show (9 : Nat) ≠ 12 by decide), upd_other (show (10 : Nat) ≠ 12 by decide), getD_set_eq hs]
                exact fun _ => ⟨x', hS, rfl⟩
            rw [e10] at hgoal e31
            clear hF hpre hl hfx hA hZ hS hs lk l10 l9 l8 l2 hgr hg3 hg4 hg5 hg6 hg7 e10
            go_simp
            exact ⟨undef, hgoal⟩
          | i + 13, ho => simp at ho
        case hend =>
          intro val L b' x' hF hall hR
          obtain ⟨hfx, hA, hZ⟩ := hR
          have e := hF.all (by kernel_rfl) hall
          obtain ⟨W1, hS, hWe⟩ := hZ (hall 12 (by decide))
          have hrs := Rows_.step HRO.out HR.out hS
          have hS' := hS
          obtain ⟨hgr, _, g, hg3, hg4, hg5, hg6⟩ := hS'
          obtain ⟨hg7, _, _⟩ := hg6 rfl
          have hgz := hgr.size
          have hb1 : W1.heap[bo]? = some (.cells #[.slice (some ⟨bx, 0, none⟩) X.length c3, .slice (some ⟨by_, 0, none⟩) Y.length c7, rv] 27 (0, 0)) := (hgr.block bo (by omega) (fun h => by have := hrvM bo h.symm; omega)).trans hbox
          have hoth : ∀ q, q ≠ bo → (W1.setCell ⟨bo, 2, none⟩ (val 10)).heap[q]? = W1.heap[q]? := fun q hq => heap_setCell_other _ _ _ _ hq
          have hsz' : (W1.setCell ⟨bo, 2, none⟩ (val 10)).heap.size = W1.heap.size := by simp [World.setCell]
          rw [← hWe] at hoth hsz'
          have r1 : x'.ownsRow W.heap.size 24 1 (val 10) (k + 1) (vs ++ [val 8]) := own_same hg7 (fun q hq => hoth q (by have := own_base hg7 hq; omega))
          have r2 : Rows_ W.heap.size x' (V.take (k + 1)) (val 10) (vs ++ [val 8]) := hrs.same (fun q hq => hoth q (by omega)) (by omega)
          have r3 : x'.heap[bo]? = some (.cells #[.slice (some ⟨bx, 0, none⟩) X.length c3, .slice (some ⟨by_, 0, none⟩) Y.length c7, val 10] 27 (0, 0)) := by
            rw [hWe, heap_setCell_same _ bo 2 _ _ (val 10) hb1]
            simp
          have r4 : ∀ q, q < W.heap.size → q ≠ bo → x'.heap[q]? = W.heap[q]? := fun q hq hne => ((hoth q hne).trans (hgr.block q (by omega) (fun h => by have := hrvM q h.symm; omega))).trans (HKP.out q hq hne)
          have r6 : Below w.heap.size w x' := by
            rw [hWe]
            exact (HBR.out.grown hgr (by omega) (fun q hq => by have := hrvM q hq; omega)).setCell (p := ⟨bo, 2, none⟩) (by simp; omega) _
          have r5 : W.heap.size ≤ x'.heap.size := by omega
          have HH := Lib.hid (And.intro r1 (And.intro r2 (And.intro r3 (And.intro r4 (And.intro r5 r6)))))
          clear hF hall hfx hA hZ hS hWe hrs hgr hg3 hg4 hg5 hg6 hg7 hb1 hoth hsz' r1 r2 r3 r4 r5 r6 HKP HOW HRO HBR hgz
          subst e
          simp [final, dstOf, List.range, List.range.loop]
          generalize val 0 = v0, val 1 = v1, val 2 = v2, val 3 = v3, val 4 = v4, val 5 = v5, val 6 = v6, val 7 = v7, val 8 = v8, val 9 = v9, val 10 = v10, val 11 = v11 at *
          go_wp2
          go_roundw
          case rel => exact ⟨k + 1, by omega, by go_num, _, _, HH.out⟩
          case measure => simp [intOf]; omega
      · obtain rfl : k = V.length := by omega
        rw [List.take_of_length_le (Nat.le_refl _)] at hrows
        have hrve : ∃ AV' cv', rv = .slice AV' V.length cv' := by
          obtain ⟨AV', cv', e, _⟩ := hrows.rows hown
          exact ⟨AV', cv', e⟩
        obtain ⟨AV', cv', rfl⟩ := hrve
        generalize hWF : ((wr.setCell ⟨w.heap.size + 1, 0, none⟩ (.slice (some ⟨bx, 0, none⟩) X.length c3)).setCell ⟨w.heap.size + 1, 1, none⟩ (.slice (some ⟨by_, 0, none⟩) Y.length c7)).setCell ⟨w.heap.size + 1, 2, none⟩ (.slice AV' V.length cv') = WF
        have hoth : ∀ q, q ≠ w.heap.size + 1 → WF.heap[q]? = wr.heap[q]? := fun q hq => by
          rw [← hWF, heap_setCell_other _ _ _ _ hq, heap_setCell_other _ _ _ _ hq, heap_setCell_other _ _ _ _ hq]
        have hFz : WF.heap.size = wr.heap.size := by rw [← hWF]; simp [World.setCell]
        have hbF : Below w.heap.size w WF := by
          rw [← hWF]
          exact ((hbw.setCell (p := ⟨w.heap.size + 1, 0, none⟩) (by simp) _).setCell (p := ⟨w.heap.size + 1, 1, none⟩) (by simp) _).setCell (p := ⟨w.heap.size + 1, 2, none⟩) (by simp) _
        obtain ⟨AV'', cv'', e'', hrr⟩ := (hrows.same (W' := WF) (fun q hq => hoth q (by omega)) (by omega)).rows (own_same hown (fun q hq => hoth q (by have := own_base hown hq; omega)))
        have hxw : ∀ (b : Nat) (l : List Int), w.heap.size + 2 ≤ b → b < W.heap.size → b ≠ bo → RI W W.heap.size (some ⟨b, 0, none⟩) l → RI WF WF.heap.size (some ⟨b, 0, none⟩) l := fun b l hw hb hne hri hp => by
          obtain ⟨b', off, e, _, hc⟩ := hri hp
          simp at e
          obtain ⟨rfl, rfl⟩ := e
          exact ⟨b, 0, rfl, by omega, fun j u hu => ((cell_same (hoth b (by omega))).trans (cell_same (hkeep b hb hne))).trans (hc j u hu)⟩
        have htb : TB WF WF.heap.size (some ⟨bx, 0, none⟩) (some ⟨by_, 0, none⟩) AV' X Y V := ⟨hxw bx X hxb hxl nxo HRX.out, hxw by_ Y hyb hyl nyo HRY.out, by simp at e''; rw [e''.1]; exact hrr⟩
        have HTB := Lib.hid (And.intro htb hbF)
        rw [← hWF] at HTB
        clear hoth hFz hbF hrr hxw htb e'' hWF
        have q3 : wr.cell? ⟨bo, 0, none⟩ = some (.slice (some ⟨bx, 0, none⟩) X.length c3) := block_cell (o := 0) hbox
        have q4 : wr.cell? ⟨bo, 1, none⟩ = some (.slice (some ⟨by_, 0, none⟩) Y.length c7) := block_cell (o := 1) hbox
        have q5 : wr.cell? ⟨bo, 2, none⟩ = some (.slice AV' V.length cv') := block_cell (o := 2) hbox
        have hk1 : ∀ o, wr.cell? ⟨w.heap.size + 1, o, none⟩ = W.cell? ⟨w.heap.size + 1, o, none⟩ := fun o => cell_same (hkeep _ (by omega) (by omega))
        have hk2 : ∀ o, wr.frozen? ⟨w.heap.size + 1, o, none⟩ = W.frozen? ⟨w.heap.size + 1, o, none⟩ := fun o => frozen_same (hkeep _ (by omega) (by omega))
        have y0 := (hk1 0).trans (tz 0 (by omega))
        have y1 := (hk1 1).trans (tz 1 (by omega))
        have y2 := (hk1 2).trans (tz 2 (by omega))
        have z0 := (hk2 0).trans (tf 0 (by omega))
        have z1 := (hk2 1).trans (tf 1 (by omega))
        have z2 := (hk2 2).trans (tf 2 (by omega))
        have hg1 : w.heap.size + 1 < wr.heap.size := by omega
        have s0 : (wr.setCell ⟨w.heap.size + 1, 0, none⟩ (.slice (some ⟨bx, 0, none⟩) X.length c3)).cell? ⟨w.heap.size + 1, 0, none⟩ = some (.slice (some ⟨bx, 0, none⟩) X.length c3) := World.cell?_setCell_same' _ _ _ (by rw [y0]; rfl)
        have s1 : ((wr.setCell ⟨w.heap.size + 1, 0, none⟩ (.slice (some ⟨bx, 0, none⟩) X.length c3)).setCell ⟨w.heap.size + 1, 1, none⟩ (.slice (some ⟨by_, 0, none⟩) Y.length c7)).cell? ⟨w.heap.size + 1, 1, none⟩ = some (.slice (some ⟨by_, 0, none⟩) Y.length c7) := World.cell?_setCell_same' _ _ _ (by go_simp)
        have s2 : (((wr.setCell ⟨w.heap.size + 1, 0, none⟩ (.slice (some ⟨bx, 0, none⟩) X.length c3)).setCell ⟨w.heap.size + 1, 1, none⟩ (.slice (some ⟨by_, 0, none⟩) Y.length c7)).setCell ⟨w.heap.size + 1, 2, none⟩ (.slice AV' V.length cv')).cell? ⟨w.heap.size + 1, 2, none⟩ = some (.slice AV' V.length cv') := World.cell?_setCell_same' _ _ _ (by go_simp)
        clear hk1 hk2 hrows hown hkeep hbox HRX HRY HRR HO hbw tz tf hrvM hrvlt hcell
        go_wp2
        refine bodyPost_ret (v := .agg #[.slice (some ⟨bx, 0, none⟩) X.length c3, .slice (some ⟨by_, 0, none⟩) Y.length c7, .slice AV' V.length cv']) (by simp [results, Try.results23, go_sem, s0, s1, s2]) rfl ?_
        exact ⟨_, _, _, _, _, _, rfl, HTB.out⟩

end Go.Proofs.Ytjdahphnmeaolaa

/- The memory of chance: what its closure keeps. -/
import Derived.Test.YtliocbjmledfbaaHTrend
import Derived.Test.YtliocbjmledfbaaGuard
import Derived.OneCell
import Derived.ArgAppend
namespace Go.Proofs.Ytliocbjmledfbaa
open Go.RowKit

theorem block_setCell {W : World} {b o : Nat} {cs : Array Value} {T : TypeId} {f : Nat × Nat} (v : Value) (h : W.heap[b]? = some (.cells cs T f)) : (W.setCell ⟨b, o, none⟩ v).heap[b]? = some (.cells (cs.setIfInBounds o v) T f) := by
  have hlt := lt_of_block h
  have h' : W.heap[b] = .cells cs T f := by simpa [Array.getElem?_eq_getElem hlt] using h
  show (W.heap.modify b _)[b]? = _
  rw [Array.getElem?_eq_getElem (by simpa using hlt), Array.getElem_modify_self, h']
  rfl
theorem block_setOther {W : World} {b : Nat} {a : Addr} (v : Value) (h : b ≠ a.block) : (W.setCell a v).heap[b]? = W.heap[b]? := Below.heap_setCell _ _ _ _ h
theorem block_alloc {W : World} {b : Nat} {o : Obj} (x : Obj) (h : W.heap[b]? = some o) : (W.alloc x).heap[b]? = some o := by
  have hlt := lt_of_block h
  rw [← h]
  show (W.heap.push x)[b]? = _
  rw [Array.getElem?_push, if_neg (by omega)]
theorem cellOf {W : World} {b o : Nat} {cs : Array Value} {T : TypeId} {f : Nat × Nat} {v : Value} (h : W.heap[b]? = some (.cells cs T f)) (hv : cs[o]? = some v) : W.cell? ⟨b, o, none⟩ = some v := by simp [World.cell?, h, hv]
theorem freeOf {W : World} {b o : Nat} {cs : Array Value} {T : TypeId} (h : W.heap[b]? = some (.cells cs T (0, 0))) : W.frozen? ⟨b, o, none⟩ = false := by simp [World.frozen?, h]

structure XP where
  w0 : World
  AV : Option Addr
  n : Nat
  c : Nat
  V : List Int
  least : Int
  B : Nat
def XP.N (p : XP) : Nat := p.w0.heap.size
def XP.caps (p : XP) : Array Value := #[.pointer (some ⟨p.N, 0, none⟩), .pointer (some ⟨p.N + 3, 0, none⟩), .pointer (some ⟨p.N + 2, 0, none⟩), .pointer (some ⟨p.N + 4, 0, none⟩), .pointer (some ⟨p.N + 5, 0, none⟩)]
structure XP.Ok (p : XP) : Prop where
  len : p.V.length = p.n
  lo : 1 ≤ p.n
  hi : p.n ≤ 8
  B : p.B ≤ p.N
  V : RI p.w0 p.B p.AV p.V
structure EX (p : XP) (num den : Int) (u : List Bool) (o : List Int) (W : World) : Prop where
  below : Below p.N p.w0 W
  v : W.heap[p.N]? = some (.cells #[.slice p.AV p.n p.c] 22 (0, 0))
  r : W.heap[p.N + 1]? = some (.cells #[.int .i64 0, .int .i64 0] 88 (0, 0))
  l : W.heap[p.N + 2]? = some (.cells #[.int .i64 p.least] 3 (0, 0))
  f : W.heap[p.N + 3]? = some (.cells #[.int .i64 num, .int .i64 den] 88 (0, 0))
  u : W.heap[p.N + 4]? = some (.cells (u.map Value.bool).toArray 112 (0, 0))
  x : W.heap[p.N + 5]? = some (.cells #[.func (.func 89) #[] p.caps] 113 (0, 0))
  o : ∃ cs : Array Value, W.heap[p.N + 6]? = some (.cells cs 3 (0, 0)) ∧ cs.size = p.n ∧ ∀ (j : Nat) (y : Int), o[j]? = some y → cs[j]? = some (.int .i64 y)

section
variable {p : XP} {num den : Int} {u : List Bool} {o : List Int} {W : World}
theorem EX.drew (h : EX p num den u o W) : EX p num den u o W.drew := ⟨h.below.drew, h.v, h.r, h.l, h.f, h.u, h.x, h.o⟩
theorem EX.drewN (h : EX p num den u o W) (k : Nat) : EX p num den u o (W.drewN k) := ⟨below_drewN h.below k, h.v, h.r, h.l, h.f, h.u, h.x, h.o⟩
theorem EX.size (h : EX p num den u o W) : p.N + 6 < W.heap.size := by
  obtain ⟨cs, h1, _⟩ := h.o
  exact lt_of_block h1
theorem EX.alloc (h : EX p num den u o W) (x : Obj) : EX p num den u o (W.alloc x) := by
  obtain ⟨cs, h1, h2, h3⟩ := h.o
  exact ⟨h.below.alloc (by have := h.size; omega) x, block_alloc x h.v, block_alloc x h.r, block_alloc x h.l, block_alloc x h.f, block_alloc x h.u, block_alloc x h.x, cs, block_alloc x h1, h2, h3⟩
theorem EX.setDen (h : EX p num den u o W) (d : Int) : EX p num d u o (W.setCell ⟨p.N + 3, 1, none⟩ (.int .i64 d)) := by
  obtain ⟨cs, h1, h2, h3⟩ := h.o
  refine ⟨h.below.setCell (by show p.N ≤ p.N + 3; omega) _, ?_, ?_, ?_, ?_, ?_, ?_, cs, ?_, h2, h3⟩
  · rw [block_setOther _ (by show p.N ≠ p.N + 3; omega)]; exact h.v
  · rw [block_setOther _ (by show p.N + 1 ≠ p.N + 3; omega)]; exact h.r
  · rw [block_setOther _ (by show p.N + 2 ≠ p.N + 3; omega)]; exact h.l
  · rw [block_setCell _ h.f]; rfl
  · rw [block_setOther _ (by show p.N + 4 ≠ p.N + 3; omega)]; exact h.u
  · rw [block_setOther _ (by show p.N + 5 ≠ p.N + 3; omega)]; exact h.x
  · rw [block_setOther _ (by show p.N + 6 ≠ p.N + 3; omega)]; exact h1
theorem EX.setNum (h : EX p num den u o W) (d : Int) : EX p d den u o (W.setCell ⟨p.N + 3, 0, none⟩ (.int .i64 d)) := by
  obtain ⟨cs, h1, h2, h3⟩ := h.o
  refine ⟨h.below.setCell (by show p.N ≤ p.N + 3; omega) _, ?_, ?_, ?_, ?_, ?_, ?_, cs, ?_, h2, h3⟩
  · rw [block_setOther _ (by show p.N ≠ p.N + 3; omega)]; exact h.v
  · rw [block_setOther _ (by show p.N + 1 ≠ p.N + 3; omega)]; exact h.r
  · rw [block_setOther _ (by show p.N + 2 ≠ p.N + 3; omega)]; exact h.l
  · rw [block_setCell _ h.f]; rfl
  · rw [block_setOther _ (by show p.N + 4 ≠ p.N + 3; omega)]; exact h.u
  · rw [block_setOther _ (by show p.N + 5 ≠ p.N + 3; omega)]; exact h.x
  · rw [block_setOther _ (by show p.N + 6 ≠ p.N + 3; omega)]; exact h1
theorem EX.use (h : EX p num den u o W) (i : Nat) (b : Bool) : EX p num den (u.set i b) o (W.setCell ⟨p.N + 4, i, none⟩ (.bool b)) := by
  obtain ⟨cs, h1, h2, h3⟩ := h.o
  refine ⟨h.below.setCell (by show p.N ≤ p.N + 4; omega) _, ?_, ?_, ?_, ?_, ?_, ?_, cs, ?_, h2, h3⟩
  · rw [block_setOther _ (by show p.N ≠ p.N + 4; omega)]; exact h.v
  · rw [block_setOther _ (by show p.N + 1 ≠ p.N + 4; omega)]; exact h.r
  · rw [block_setOther _ (by show p.N + 2 ≠ p.N + 4; omega)]; exact h.l
  · rw [block_setOther _ (by show p.N + 3 ≠ p.N + 4; omega)]; exact h.f
  · rw [block_setCell _ h.u]; simp
  · rw [block_setOther _ (by show p.N + 5 ≠ p.N + 4; omega)]; exact h.x
  · rw [block_setOther _ (by show p.N + 6 ≠ p.N + 4; omega)]; exact h1
theorem EX.push (h : EX p num den u o W) (x : Int) (hl : o.length < p.n) : EX p num den u (o ++ [x]) (W.setCell ⟨p.N + 6, o.length, none⟩ (.int .i64 x)) := by
  obtain ⟨cs, h1, h2, h3⟩ := h.o
  refine ⟨h.below.setCell (by show p.N ≤ p.N + 6; omega) _, ?_, ?_, ?_, ?_, ?_, ?_, _, block_setCell _ h1, by simpa using h2, fun j y hj => ?_⟩
  · rw [block_setOther _ (by show p.N ≠ p.N + 6; omega)]; exact h.v
  · rw [block_setOther _ (by show p.N + 1 ≠ p.N + 6; omega)]; exact h.r
  · rw [block_setOther _ (by show p.N + 2 ≠ p.N + 6; omega)]; exact h.l
  · rw [block_setOther _ (by show p.N + 3 ≠ p.N + 6; omega)]; exact h.f
  · rw [block_setOther _ (by show p.N + 4 ≠ p.N + 6; omega)]; exact h.u
  · rw [block_setOther _ (by show p.N + 5 ≠ p.N + 6; omega)]; exact h.x
  · rw [Array.getElem?_setIfInBounds]
    by_cases e : o.length = j
    · subst e
      simp at hj
      subst hj
      simp
      omega
    · rw [if_neg e]
      refine h3 j y ?_
      rw [List.getElem?_append] at hj
      split at hj
      · exact hj
      · have : j < (o ++ [x]).length := (List.getElem?_eq_some_iff.1 (by rw [List.getElem?_append, if_neg ‹_›]; exact hj)).1
        simp at this
        omega
theorem EX.pop {x : Int} (h : EX p num den u (o ++ [x]) W) : EX p num den u o W := by
  obtain ⟨cs, h1, h2, h3⟩ := h.o
  refine ⟨h.below, h.v, h.r, h.l, h.f, h.u, h.x, cs, h1, h2, fun j y hj => h3 j y ?_⟩
  rw [List.getElem?_append_left (List.getElem?_eq_some_iff.1 hj).1]
  exact hj
/-- The order so far, as a slice. -/
theorem EX.order (h : EX p num den u o W) : RI W W.heap.size (some ⟨p.N + 6, 0, none⟩) o := fun _ => by
  obtain ⟨cs, h1, h2, h3⟩ := h.o
  refine ⟨_, _, rfl, lt_of_block h1, fun j y hj => ?_⟩
  simp only [List.getElem?_map, Option.map_eq_some_iff] at hj
  obtain ⟨z, hz, rfl⟩ := hj
  rw [Nat.zero_add]
  exact cellOf h1 (h3 j z hz)
theorem EX.values (h : EX p num den u o W) (ok : p.Ok) : RI W p.B p.AV p.V := ok.V.below (h.below.mono ok.B)
theorem EX.room (h : EX p num den u o W) {k : Nat} (hk : k < p.n) : (W.cell? ⟨p.N + 6, k, none⟩).isSome = true ∧ W.frozen? ⟨p.N + 6, k, none⟩ = false := by
  obtain ⟨cs, h1, h2, h3⟩ := h.o
  refine ⟨?_, freeOf h1⟩
  rw [cellOf h1 (Array.getElem?_eq_getElem (by omega : k < cs.size))]
  rfl
end

theorem info_int : (Try.prog.info? 3).map (fun i => (i.zero, i.size, i.bytes)) = some (some (.int .i64 0), 1, 8) := by kernel_rfl

/-- append(order, x) within the capacity. -/
theorem run_push {p : XP} {num den : Int} {u : List Bool} {o : List Int} {W : World} (h : EX p num den u o W) (hl : o.length < p.n) {g : Nat} {x : Int} (hg : W.cell? ⟨g, 0, none⟩ = some (.int .i64 x)) :
    (Builtin.append_ #[22, 22] 22 #[.slice (some ⟨p.N + 6, 0, none⟩) o.length p.n, .slice (some ⟨g, 0, none⟩) 1 1]).run Try.prog W = .ok (.slice (some ⟨p.N + 6, 0, none⟩) (o.length + 1) p.n) (W.setCell ⟨p.N + 6, o.length, none⟩ (.int .i64 x)) := by
  obtain ⟨i0, hi0, hz0, hz1, hz2⟩ := info_parts info_int
  obtain ⟨r1, r2⟩ := h.room hl
  have := run_append_room_cells (P := Try.prog) W 22 22 3 i0 Try.underlying22 hi0 (p.N + 6) 0 o.length p.n ⟨g, 0, none⟩ 1 1 [.int .i64 x] (by simp [hz1]) (fun j v hv => by
      match j, hv with
      | 0, hv => simp at hv; subst hv; exact hg
      | j + 1, hv => simp at hv) (by simp [Value.oneCell']) (by omega) (fun j hj => by
      have : j = 0 := by simpa using hj
      subst this
      simpa [hz1] using r1) (fun j hj => by
      have : j = 0 := by simpa using hj
      subst this
      simpa [hz1] using r2)
  rw [this, hz1]
  simp [World.setCells, World.setCell]

end Go.Proofs.Ytliocbjmledfbaa

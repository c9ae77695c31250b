/- Lists of cells that the call owns; sameCells. -/
import Derived.Test.YtliocbjmledfbaaHTailA
import Derived.ChangeKeysEq
namespace Go.Proofs.Ytliocbjmledfbaa
open Go.RowKit

def pV (x : Int × Int) : List Value := [.int .i64 x.1, .int .i64 x.2]
def pCells (l : List (Int × Int)) : List Value := l.flatMap pV
theorem pCells_get : ∀ {l : List (Int × Int)} {j : Nat} {p : Int × Int}, l[j]? = some p → (pCells l)[j * 2]? = some (.int .i64 p.1) ∧ (pCells l)[j * 2 + 1]? = some (.int .i64 p.2) := by
  intro l
  induction l with
  | nil => intro j p h; simp at h
  | cons x l ih =>
    intro j p h
    have e : pCells (x :: l) = .int .i64 x.1 :: .int .i64 x.2 :: pCells l := rfl
    rw [e]
    match j with
    | 0 => simp at h; subst h; exact ⟨rfl, rfl⟩
    | j + 1 =>
      have := ih (j := j) (p := p) (by simpa using h)
      rw [show (j + 1) * 2 = j * 2 + 1 + 1 by omega]
      exact this
abbrev OC (base : Nat) (v : Value) (l : List (Int × Int)) (w : World) : Prop := w.ownsRow base 74 2 v l.length (pCells l)
theorem OC.nil {base : Nat} {w : World} : OC base (.slice none 0 0) [] w := ⟨by simp [pCells], .inl ⟨rfl, rfl⟩⟩
theorem OC.stay {base : Nat} {v : Value} {l : List (Int × Int)} {w w' : World} (h : OC base v l w) (hb : Below w.heap.size w w') : OC base v l w' :=
  ⟨h.1, h.2.imp id fun ⟨g, cap, cur, e, hg, hc, h3⟩ => ⟨g, cap, cur, e, hg, (hb.block g (lt_of_block hc)).trans hc, h3⟩⟩
theorem OC.rs {base : Nat} {v : Value} {l : List (Int × Int)} {w : World} (h : OC base v l w) : ∃ A c, v = .slice A l.length c ∧ RS w w.heap.size A l := by
  rcases h.2 with ⟨rfl, e⟩ | ⟨g, cap, cur, rfl, _, _, _, _⟩
  · have : l = [] := by simpa using e
    subst this
    exact ⟨none, 0, rfl, fun h => absurd h (by simp)⟩
  · refine ⟨_, cap, rfl, fun _ => ⟨g, 0, rfl, (h.lt g rfl).2, fun j p hp => ?_⟩⟩
    have hj := (List.getElem?_eq_some_iff.1 hp).1
    obtain ⟨g0, g1⟩ := pCells_get hp
    rw [Nat.zero_add]
    exact ⟨(h.cellAt (j * 2) (by omega)).trans g0, (h.cellAt (j * 2 + 1) (by omega)).trans g1⟩
theorem info_pair : (Try.prog.info? 74).map (fun i => (i.zero, i.size, i.bytes)) = some (some (.agg #[.int .i64 0, .int .i64 0]), 2, 16) := by kernel_rfl
theorem wpList_pushP {w : World} {ops : Array Oper} {rest : List Oper} {o : Oper} {a : Act} {Q : Exit → Act → World → Prop} (hgd : o.guard = none) (s x : Operand)
    (ho : o.op = .call { callee := .builtin .append, args := #[s, x], argTypes := #[54, 54] }) (base : Nat) (v : Value) (l : List (Int × Int)) (hs : a.eval s = v) (hown : OC base v l w)
    (g : Nat) (y : Int × Int) (hx : a.eval x = .slice (some ⟨g, 0, none⟩) 1 1) (hy0 : w.cell? ⟨g, 0, none⟩ = some (.int .i64 y.1)) (hy1 : w.cell? ⟨g, 1, none⟩ = some (.int .i64 y.2)) (hlen : l.length ≤ 1000000) (hbase : base ≤ w.heap.size)
    (h : ∀ v' w', OC base v' (l ++ [y]) w' → w.grownBy w' v.ownBlock → wpList Try.prog ops Q rest (a.put o.dst v') w') : wpList Try.prog ops Q (o :: rest) a w := by
  obtain ⟨i0, hi0, hz0, hz1, hz2⟩ := info_parts info_pair
  refine wpList_append_own w hgd s x 54 ho base 74 i0 (.agg #[.int .i64 0, .int .i64 0]) 2 16 Try.underlying54 hi0 hz0 hz1 hz2 rfl (by decide) v l.length _ hs hown ⟨g, 0, none⟩ 1 1 (pV y) hx rfl (fun j u hu => ?_) (fun u hu => ?_) (by unfold maxLen; omega) (by omega) hbase (fun v' w' h1 h2 _ => h v' w' (by simpa [OC, pCells] using h1) h2)
  · match j, hu with
    | 0, hu => simp [pV] at hu; subst hu; exact hy0
    | 1, hu => simp [pV] at hu; subst hu; exact hy1
    | j + 2, hu => simp [pV] at hu
  · simp [pV] at hu; rcases hu with rfl | rfl <;> rfl
/-- .. behind the making of its second operand, and whatever draws. -/
theorem wpList_pushC {w W0 w0 : World} {ops : Array Oper} {rest : List Oper} {o : Oper} {a : Act} {Q : Exit → Act → World → Prop} (hgd : o.guard = none) (s x : Operand)
    (ho : o.op = .call { callee := .builtin .append, args := #[s, x], argTypes := #[54, 54] }) (v : Value) (l : List (Int × Int)) (hs : a.eval s = v) (hown : OC w0.heap.size v l W0) (hbw : Below w0.heap.size w0 W0) (y : Int × Int)
    (hw : w.heap = W0.heap.push (.cells #[.int .i64 y.1, .int .i64 y.2] 74 (0, 0))) (hos : w.os = W0.os) (htp : w.tape = W0.tape) (hout : w.output = W0.output) (hx : a.eval x = .slice (some ⟨W0.heap.size, 0, none⟩) 1 1) (hlen : l.length ≤ 1000000)
    (h : ∀ v' w', OC w0.heap.size v' (l ++ [y]) w' → Below w0.heap.size w0 w' → wpList Try.prog ops Q rest (a.put o.dst v') w') : wpList Try.prog ops Q (o :: rest) a w := by
  have hz := hbw.size
  have hsz : w.heap.size = W0.heap.size + 1 := by rw [hw]; simp
  have hb2 : Below w0.heap.size w0 w := ⟨hos.trans hbw.os, htp.trans hbw.tape, hout.trans hbw.output, by omega, fun k hk => by rw [hw, Array.getElem?_push, if_neg (by omega)]; exact hbw.block k hk⟩
  have hown' : OC w0.heap.size v l w := by
    refine ⟨hown.1, hown.2.imp id fun ⟨g, cap, cur, e, hg, hc, h3⟩ => ⟨g, cap, cur, e, hg, ?_, h3⟩⟩
    have := lt_of_block hc
    rw [hw, Array.getElem?_push, if_neg (by omega)]
    exact hc
  have hblk : w.heap[W0.heap.size]? = some (.cells #[.int .i64 y.1, .int .i64 y.2] 74 (0, 0)) := by rw [hw, Array.getElem?_push, if_pos rfl]
  refine wpList_pushP hgd s x ho w0.heap.size v l hs hown' W0.heap.size y hx (cellOf hblk rfl) (cellOf hblk rfl) hlen (by omega) fun v' w' h1 h2 => h v' w' h1 (hb2.grown h2 (by omega) fun q hq => (hown.lt _ hq).1)

/-- A value that reads as a list of cells. -/
def QC (l : List (Int × Int)) (v : Value) (W : World) : Prop := ∃ A c, v = .slice A l.length c ∧ RS W W.heap.size A l
theorem QC.stay {l : List (Int × Int)} {v : Value} {W W' : World} (h : QC l v W) (hb : Below W.heap.size W W') : QC l v W' := by
  obtain ⟨A, c, e, h⟩ := h
  exact ⟨A, c, e, (h.below hb).more hb.size⟩
theorem QC.nil {W : World} : QC [] (.slice none 0 0) W := ⟨none, 0, rfl, fun h => absurd h (by simp)⟩
def GivesCe (w : World) (r : List (Int × Int) × Int) (e : Ending) (w' : World) : Prop := ∃ v, e = .returned (.tuple #[v, .int .i64 r.2]) ∧ QC r.1 v w' ∧ Below w.heap.size w w'

theorem eq_int (d : Nat) (x : Int) (W : World) : Sem.run Try.prog (Op.equalIn (d + 1) 3 (.int .i64 x) (.int .i64 x)) W = .ok true W := by
  have hui : Try.prog.underlying 3 = some _ := Try.underlying3
  simp [Op.equalIn, run_underlying hui]
theorem eq_pair_d (d : Nat) (a b : Int) (W : World) : Sem.run Try.prog (Op.equalIn (d + 1 + 1) 74 (.agg #[.int .i64 a, .int .i64 b]) (.agg #[.int .i64 a, .int .i64 b])) W = .ok true W := by
  obtain ⟨i0, hi0, hz0, hz1, hz2⟩ := info_parts info_int
  have hc : Try.prog.cellsOf 3 = 1 := by kernel_rfl
  have hu : Try.prog.underlying 74 = some (.array 2 3) := Try.underlying74
  have hui : Try.prog.underlying 3 = some _ := Try.underlying3
  have h := run_equalIn_array (P := Try.prog) (w := W) (d + 1) (xs := #[.int .i64 a, .int .i64 b]) (ys := #[.int .i64 a, .int .i64 b]) hu hi0
  refine h.trans ?_
  rw [hc]
  simp [Op.eqItems, List.range, List.range.loop, part, isAgg, run_underlying hui, eq_int]
theorem eq_pair (a b : Int) (W : World) : Sem.run Try.prog (Op.equalIn 10000 74 (.agg #[.int .i64 a, .int .i64 b]) (.agg #[.int .i64 a, .int .i64 b])) W = .ok true W := eq_pair_d 9998 a b W
set_option maxRecDepth 100000 in
theorem sameCells_any (l : List (Int × Int)) (v v' : Value) (w : World) (h : QC l v w) (h' : QC l v' w) (hl : l.length ≤ maxLen) :
    Calls Try.prog 44 #[v, v'] w fun e w' => e = .returned (.bool true) ∧ Below w.heap.size w w' := by
  obtain ⟨A, c, rfl, hr⟩ := h
  obtain ⟨A', c', rfl, hr'⟩ := h'
  unfold maxLen at hl
  go_enter Try.func44, Try.ntmps44
  go_wp2
  go_loopw [5] (fun i wr => ∃ k : Nat, k ≤ l.length ∧ i = .int .i64 k ∧ Below w.heap.size w wr) (fun i _ => l.length - (intOf i).toNat)
  case atStart => exact ⟨0, Nat.zero_le _, rfl, Below.refl _ _⟩
  case round =>
    obtain ⟨k, hk, rfl, hbw⟩ := hrel
    by_cases hlt : k < l.length
    · obtain ⟨b, off, p, rfl, hb, hp, c0, c1⟩ := (hr.below hbw).at_ hlt
      obtain ⟨b', off', p', rfl, hb', hp', d0, d1⟩ := (hr'.below hbw).at_ hlt
      rw [hp] at hp'
      cases hp'
      obtain ⟨p1, p2⟩ := p
      dsimp only at c0 c1 d0 d1
      have hs1 := eq_pair p1 p2
      have HBW := Lib.hid hbw
      clear hbw hr hr' hp
      have i7 : (k : Int) < l.length := by omega
      go_wp2
      go_quiet (fail)
      go_wp2
      go_roundw
      case rel => exact ⟨k + 1, by omega, by go_num, below_drewN HBW.out _⟩
      case measure => simp [intOf]; omega
    · obtain rfl : k = l.length := by omega
      have HBW := Lib.hid hbw
      clear hbw
      go_wp2
      go_ret
      exact ⟨rfl, HBW.out⟩
end Go.Proofs.Ytliocbjmledfbaa

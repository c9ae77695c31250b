/- fewest, ahead of its sort. -/
import Derived.Test.YtliocbjmledfbaaHFewM
import Derived.Test.YtliocbjmledfbaaHList
import Derived.Test.YtliocbjmledfbaaHCells
import Derived.StillTailTactics
import Derived.Test.YtliocbjmledfbaaGuard
import Derived.CallsIn
import Derived.Shelf.Abstract
namespace Go.Proofs.Ytliocbjmledfbaa
open Go.RowKit
attribute [local go_sem] Oper.semAt_some

/-- A slice of explanations. -/
def exV (x : Ex) : List Value := [.int .u64 x.1, .int .u64 x.2]
def exCells (l : List Ex) : List Value := l.flatMap exV
abbrev OE (base : Nat) (v : Value) (l : List Ex) (w : World) : Prop := w.ownsRow base 103 2 v l.length (exCells l)
theorem OE.nil {base : Nat} {w : World} : OE base (.slice none 0 0) [] w := ⟨by simp [exCells], .inl ⟨rfl, rfl⟩⟩
theorem new_cell {W : World} {cs : Array Value} {T : TypeId} {m : Nat × Nat} {b o : Nat} {v : Value} (hb : b = W.heap.size) (hv : cs[o]? = some v) : (W.alloc (.cells cs T m)).cell? ⟨b, o, none⟩ = some v := by
  subst hb
  rw [cell_newest]
  exact hv
theorem wrap_pow {s : Nat} (h : s ≤ 12) : IntKind.u64.wrap ((2 : Int) ^ s) = ((2 ^ s : Nat) : Int) := by
  have h2 : 2 ^ s ≤ 2 ^ 12 := Nat.pow_le_pow_right (by omega) h
  have : ((2 : Int) ^ s) = ((2 ^ s : Nat) : Int) := by simp
  rw [this]
  generalize 2 ^ s = M at *
  exact IntWalk.u64_in _ ⟨by omega, by omega⟩
theorem or_pow {a s : Nat} (ha : a < 4096) (h : s < 12) : bits .or .u64 (a : Int) (IntKind.u64.wrap ((2 : Int) ^ s)) = ((a ||| 2 ^ s : Nat) : Int) := by
  have h2 : 2 ^ s ≤ 2 ^ 12 := Nat.pow_le_pow_right (by omega) (by omega)
  rw [wrap_pow (by omega), bits_or_u64_nat a (2 ^ s) (by omega) (by omega)]
theorem OE.other {base bx : Nat} {v : Value} {l : List Ex} {w : World} (h : OE base v l w) (o : Nat) (u : Value) (hb : v.ownBlock ≠ some bx) : OE base v l (w.setCell ⟨bx, o, none⟩ u) := ownsRow_setCell_other h (a := ⟨bx, o, none⟩) hb u

/-- The gears of one set of sensors: the state of the inner loop. -/
structure FI (w : World) (L : List (Int × Int)) (bx k : Nat) (v : Value) (l : List Ex) (j : Nat) (W : World) : Prop where
  box : W.heap[bx]? = some (.cells #[.int .u64 k, .int .u64 (wornN L k j)] 103 (0, 0))
  own : OE w.heap.size v l W
  ne : v.ownBlock ≠ some bx
  below : Below w.heap.size w W
theorem FI.next {w W : World} {L : List (Int × Int)} {bx k : Nat} {v : Value} {l : List Ex} {j : Nat} (h : FI w L bx k v l j W) (x : Obj) (e : wornN L k (j + 1) = wornN L k j) : FI w L bx k v l (j + 1) (W.alloc x) :=
  ⟨by rw [e]; exact block_alloc _ h.box, World.ownsRow.alloc h.own _, h.ne, h.below.alloc h.below.size _⟩
theorem FI.worn {w W : World} {L : List (Int × Int)} {bx k : Nat} {v : Value} {l : List Ex} {j : Nat} (h : FI w L bx k v l j W) (x : Obj) (hb : w.heap.size ≤ bx) (n : Nat) (e : wornN L k (j + 1) = n) : FI w L bx k v l (j + 1) ((W.setCell ⟨bx, 1, none⟩ (.int .u64 n)).alloc x).drew :=
  ⟨block_alloc _ (by rw [block_setCell _ h.box, e]; rfl), (World.ownsRow.alloc (OE.other h.own 1 (.int .u64 n) h.ne) _).drew, h.ne, ((h.below.setCell hb _).alloc (by have := h.below.size; simpa [World.setCell] using this) _).drew⟩
theorem FI.drew {w W : World} {L : List (Int × Int)} {bx k : Nat} {v : Value} {l : List Ex} {j : Nat} (h : FI w L bx k v l j W) : FI w L bx k v l j W.drew := ⟨h.box, h.own.drew, h.ne, h.below.drew⟩

theorem exCells_get {l : List Ex} {k : Nat} {x : Ex} (h : l[k]? = some x) : (exCells l)[k * 2]? = some (.int .u64 x.1) ∧ (exCells l)[k * 2 + 1]? = some (.int .u64 x.2) := by
  induction l generalizing k with
  | nil => simp at h
  | cons y l ih =>
    cases k with
    | zero => simp at h; subst h; simp [exCells, exV]
    | succ k =>
      have := ih (k := k) (by simpa using h)
      simp only [exCells, List.flatMap_cons] at this ⊢
      rw [show (k + 1) * 2 = k * 2 + 2 by omega, show k * 2 + 2 + 1 = (k * 2 + 1) + 2 by omega]
      simpa [exV] using this
theorem exCells_len (l : List Ex) : (exCells l).length = l.length * 2 := by
  induction l with
  | nil => rfl
  | cons y l ih => simp only [exCells, List.flatMap_cons, List.length_append, List.length_cons] at ih ⊢; rw [ih]; simp [exV]; omega
theorem OE.form {base : Nat} {v : Value} {l : List Ex} {w : World} (h : OE base v l w) : ∃ A c, v = .slice A l.length c ∧
    ∀ y, l[0]? = some y → ∃ g, A = some ⟨g, 0, none⟩ ∧ w.cell? ⟨g, 0, none⟩ = some (.int .u64 y.1) ∧ w.cell? ⟨g, 1, none⟩ = some (.int .u64 y.2) ∧ 0 < l.length := by
  rcases h.2 with ⟨rfl, e⟩ | ⟨g, cap, cur, rfl, _, _, _, _⟩
  · have hl : l.length = 0 := e
    refine ⟨none, 0, by rw [hl], fun y hy => ?_⟩
    have := (List.getElem?_eq_some_iff.1 hy).1
    omega
  · refine ⟨_, cap, rfl, fun y hy => ?_⟩
    have hlt := (List.getElem?_eq_some_iff.1 hy).1
    obtain ⟨g0, g1⟩ := exCells_get hy
    have c0 := h.cellAt 0 (by omega)
    have c1 := h.cellAt 1 (by omega)
    exact ⟨g, rfl, c0.trans g0, c1.trans g1, hlt⟩
theorem OE.stay {base : Nat} {v : Value} {l : List Ex} {w w' : World} (h : OE base v l w) (hb : Below w.heap.size w w') : OE base v l w' :=
  ⟨h.1, h.2.imp id fun ⟨g, cap, cur, e, hg, hc, h3⟩ => ⟨g, cap, cur, e, hg, (hb.block g (lt_of_block hc)).trans hc, h3⟩⟩
theorem OE.drewN {base : Nat} {v : Value} {l : List Ex} {w : World} (h : OE base v l w) (n : Nat) : OE base v l (w.drewN n) := h
theorem FI.pushed {w W W2 w1 : World} {v : Value} {l : List Ex} {x : Obj} (hb : Below w.heap.size w W) (h : OE w.heap.size v l W2) (hg : (W.alloc x).grownBy w1 v.ownBlock) : Below w.heap.size w w1 :=
  (hb.alloc hb.size x).grown hg (by have := hb.size; simp; omega) (fun q hq => (h.lt _ hq).1)
theorem info_expl : (Try.prog.info? 103).map (fun i => (i.zero, i.size, i.bytes)) = some (some (.agg #[.int .u64 0, .int .u64 0]), 2, 16) := by kernel_rfl
/-- append(least, x). -/
theorem wpList_pushE {w : World} {ops : Array Oper} {rest : List Oper} {o : Oper} {a : Act} {Q : Exit → Act → World → Prop} (hgd : o.guard = none) (s x : Operand)
    (ho : o.op = .call { callee := .builtin .append, args := #[s, x], argTypes := #[104, 104] }) (base : Nat) (v : Value) (l : List Ex) (hs : a.eval s = v) (hown : OE base v l w)
    (g : Nat) (y : Ex) (hx : a.eval x = .slice (some ⟨g, 0, none⟩) 1 1) (hy0 : w.cell? ⟨g, 0, none⟩ = some (.int .u64 y.1)) (hy1 : w.cell? ⟨g, 1, none⟩ = some (.int .u64 y.2)) (hlen : l.length ≤ 1000000) (hbase : base ≤ w.heap.size)
    (h : ∀ v' w', OE base v' (l ++ [y]) w' → w.grownBy w' v.ownBlock → wpList Try.prog ops Q rest (a.put o.dst v') w') : wpList Try.prog ops Q (o :: rest) a w := by
  obtain ⟨i0, hi0, hz0, hz1, hz2⟩ := info_parts info_expl
  refine wpList_append_own w hgd s x 104 ho base 103 i0 (.agg #[.int .u64 0, .int .u64 0]) 2 16 Try.underlying104 hi0 hz0 hz1 hz2 rfl (by decide) v l.length _ hs hown ⟨g, 0, none⟩ 1 1 (exV y) hx rfl (fun j u hu => ?_) (fun u hu => ?_) (by unfold maxLen; omega) (by omega) hbase (fun v' w' h1 h2 _ => h v' w' (by simpa [OE, exCells] using h1) h2)
  · match j, hu with
    | 0, hu => simp [exV] at hu; subst hu; exact hy0
    | 1, hu => simp [exV] at hu; subst hu; exact hy1
    | j + 2, hu => simp [exV] at hu
  · simp [exV] at hu; rcases hu with rfl | rfl <;> rfl

/-- .. behind the making of its second operand, and whatever draws. -/
theorem wpList_pushW {w W0 w0 : World} {ops : Array Oper} {rest : List Oper} {o : Oper} {a : Act} {Q : Exit → Act → World → Prop} (hgd : o.guard = none) (s x : Operand)
    (ho : o.op = .call { callee := .builtin .append, args := #[s, x], argTypes := #[104, 104] }) (v : Value) (l : List Ex) (hs : a.eval s = v) (hown : OE w0.heap.size v l W0) (hbw : Below w0.heap.size w0 W0) (y : Ex)
    (hw : w.heap = W0.heap.push (.cells #[.int .u64 y.1, .int .u64 y.2] 103 (0, 0))) (hos : w.os = W0.os) (htp : w.tape = W0.tape) (hout : w.output = W0.output) (hx : a.eval x = .slice (some ⟨W0.heap.size, 0, none⟩) 1 1) (hlen : l.length ≤ 1000000)
    (h : ∀ v' w', OE w0.heap.size v' (l ++ [y]) w' → Below w0.heap.size w0 w' → wpList Try.prog ops Q rest (a.put o.dst v') w') : wpList Try.prog ops Q (o :: rest) a w := by
  have hz := hbw.size
  have hsz : w.heap.size = W0.heap.size + 1 := by rw [hw]; simp
  have hb2 : Below w0.heap.size w0 w := ⟨hos.trans hbw.os, htp.trans hbw.tape, hout.trans hbw.output, by omega, fun k hk => by rw [hw, Array.getElem?_push, if_neg (by omega)]; exact hbw.block k hk⟩
  have hown' : OE w0.heap.size v l w := by
    refine ⟨hown.1, hown.2.imp id fun ⟨g, cap, cur, e, hg, hc, h3⟩ => ⟨g, cap, cur, e, hg, ?_, h3⟩⟩
    have := lt_of_block hc
    rw [hw, Array.getElem?_push, if_neg (by omega)]
    exact hc
  have hblk : w.heap[W0.heap.size]? = some (.cells #[.int .u64 y.1, .int .u64 y.2] 103 (0, 0)) := by rw [hw, Array.getElem?_push, if_pos rfl]
  refine wpList_pushE hgd s x ho w0.heap.size v l hs hown' W0.heap.size y hx (cellOf hblk rfl) (cellOf hblk rfl) hlen (by omega) fun v' w' h1 h2 => h v' w' h1 (hb2.grown h2 (by omega) fun q hq => (hown.lt _ hq).1)

def QF12 (g : Nat) (N : Nat) (cc : Nat) (a0 : Nat) (b0 : Nat) (k : Nat) (wn : Nat) (sx : Int) (sy : Int) (j : Nat) (v : Value) (_ : World) : Prop :=
  match j with
  | 0 => v = .slice (some ⟨g, 0, none⟩) N cc
  | 1 => v = .int .i64 N
  | 2 => v = .bool true
  | 3 => v = .bool true
  | 4 => v = .agg #[.int .u64 k, .int .u64 wn]
  | 5 => v = .int .i64 sx
  | 6 => v = .slice (some ⟨g, 0, none⟩) N cc
  | 7 => v = .pointer (some ⟨g, 0, none⟩)
  | 8 => v = .agg #[.int .u64 a0, .int .u64 b0]
  | 9 => v = .int .i64 sy
  | 10 => v = .bool (decide (sx < sy))
  | 11 => v = .bool (decide (sx < sy))
  | _ => True
theorem QF12_stays (g : Nat) (N : Nat) (cc : Nat) (a0 : Nat) (b0 : Nat) (k : Nat) (wn : Nat) (sx : Int) (sy : Int) : Stays (QF12 g N cc a0 b0 k wn sx sy) := fun j v W W' h _ => by
  unfold QF12 at h ⊢
  split at h <;> exact h
def QF14 (g : Nat) (N : Nat) (cc : Nat) (a0 : Nat) (b0 : Nat) (k : Nat) (wn : Nat) (sx : Int) (sy : Int) (j : Nat) (v : Value) (_ : World) : Prop :=
  match j with
  | 0 => v = .slice (some ⟨g, 0, none⟩) N cc
  | 1 => v = .int .i64 N
  | 2 => v = .bool false
  | 3 => v = .bool false
  | 4 => v = .agg #[.int .u64 k, .int .u64 wn]
  | 5 => v = .int .i64 sx
  | 6 => v = .slice (some ⟨g, 0, none⟩) N cc
  | 7 => v = .pointer (some ⟨g, 0, none⟩)
  | 8 => v = .agg #[.int .u64 a0, .int .u64 b0]
  | 9 => v = .int .i64 sy
  | 10 => v = .bool (sx == sy)
  | 11 => v = .bool (sx == sy)
  | _ => True
theorem QF14_stays (g : Nat) (N : Nat) (cc : Nat) (a0 : Nat) (b0 : Nat) (k : Nat) (wn : Nat) (sx : Int) (sy : Int) : Stays (QF14 g N cc a0 b0 k wn sx sy) := fun j v W W' h _ => by
  unfold QF14 at h ⊢
  split at h <;> exact h

def GivesEx (w : World) (l : List Ex) (e : Ending) (w' : World) : Prop := ∃ v, e = .returned v ∧ OE w.heap.size v l w' ∧ Below w.heap.size w w'
/-- What the sort makes of a list. -/
def SortOK (w : World) (l l' : List Ex) : Prop := ∀ (v : Value) (W : World), OE w.heap.size v l W → Below w.heap.size w W →
  Calls Try.prog 94 #[v, .func (.func 95) #[] #[]] W fun e W' => e = .returned (.tuple #[]) ∧ OE w.heap.size v l' W' ∧ Below w.heap.size w W'
set_option maxRecDepth 100000 in
set_option maxHeartbeats 1000000 in
theorem fewest_any (s : Nat) (A : Option Addr) (n c B : Nat) (L : List (Int × Int)) (w : World) (hx : L.length = n) (hn : n ≤ 1000) (hs : s ≤ 8) (hB : B ≤ w.heap.size) (h : RS w B A L) (hc : ∀ p ∈ L, (0 ≤ p.1 ∧ p.1 < 8) ∧ (0 ≤ p.2 ∧ p.2 < 12)) (l' : List Ex) (hsort : SortOK w (fewN L (2 ^ s)) l') :
    Calls Try.prog 81 #[.int .i64 s, .slice A n c] w (GivesEx w l') := by
  subst hx
  obtain ⟨M, hM⟩ : ∃ M, M = 2 ^ s := ⟨_, rfl⟩
  have hM2 : M ≤ 256 := by have : 2 ^ s ≤ 2 ^ 8 := Nat.pow_le_pow_right (by omega) hs; omega
  have HW := Lib.hid (wrap_pow (s := s) (by omega))
  rw [← hM] at HW
  have HMM := Lib.hid hM
  have HSORT := Lib.hid hsort
  clear hM hsort
  have HWB := Lib.hid (wornN_bd (L := L) (fun p hp => (hc p hp).2.2))
  have HC := Lib.hid hc
  clear hc
  go_enter Try.func81, Try.ntmps81
  go_wp2
  rw [HW.out]
  go_loopw [5, 12] (fun v i wr => ∃ k : Nat, k ≤ M ∧ i = .int .u64 k ∧ OE w.heap.size v (fewN L k) wr ∧ Below w.heap.size w wr) (fun _ i _ => M - (intOf i).toNat)
  case atStart => exact ⟨0, Nat.zero_le _, rfl, OE.nil, Below.refl _ _⟩
  case round =>
    obtain ⟨k, hk, rfl, hown, hbw⟩ := hrel
    have hsz := hbw.size
    by_cases hlt : k < M
    · go_wp2
      have hFI : FI w L wr.heap.size k u5 (fewN L k) 0 (wr.alloc (.cells #[.int .u64 k, .int .u64 0] 103)) :=
        ⟨by show (wr.heap.push _)[wr.heap.size]? = _; rw [Array.getElem?_push, if_pos rfl]; rfl, World.ownsRow.alloc hown _, fun e => by have := (hown.lt _ e).2; omega, hbw.alloc hsz _⟩
      obtain ⟨bx, hbx⟩ : ∃ bx, wr.heap.size = bx := ⟨_, rfl⟩
      rw [hbx] at hFI hsz
      rw [hbx]
      have HFI := Lib.hid hFI
      clear hFI hown hbw
      go_loopw [19] (fun i W => ∃ j : Nat, j ≤ L.length ∧ i = .int .i64 j ∧ FI w L bx k u5 (fewN L k) j W) (fun i _ => L.length - (intOf i).toNat)
      case atStart => exact ⟨0, Nat.zero_le _, rfl, HFI.out⟩
      case round =>
        obtain ⟨j, hj, rfl, hF⟩ := hrel
        by_cases hlj : j < L.length
        · obtain ⟨b, off, p, rfl, hb, hp, hc1, hc2⟩ := ((h.more hB).below hF.below).at_ hlj
          have hpc := HC.out p (List.mem_of_getElem? hp)
          obtain ⟨x, y⟩ := p
          simp only at hc1 hc2 hpc
          obtain ⟨⟨x1, x2⟩, y1, y2⟩ := hpc
          obtain ⟨xn, rfl⟩ := Int.eq_ofNat_of_zero_le x1
          obtain ⟨yn, rfl⟩ := Int.eq_ofNat_of_zero_le y1
          have hwb := HWB.out k j
          have HA := Lib.hid (fun W => has_any k xn W (by omega) (by omega))
          cases ht : k.testBit xn with
          | true =>
            rw [ht] at HA
            have HF := Lib.hid (hF.next (.cells #[.int .i64 xn, .int .i64 yn] 74) (by simp [wornN, hp, ht]))
            clear hF hp ht
            go_wp2_with (go_at_call 86; refine Calls.mono (HA.out _) ?_; rintro e w' ⟨rfl, rfl⟩)
            go_roundw
            case rel => exact ⟨j + 1, by omega, by go_num, HF.out⟩
            case measure => simp [intOf]; omega
          | false =>
            rw [ht] at HA
            have HF := Lib.hid (hF.worn (.cells #[.int .i64 xn, .int .i64 yn] 74) hsz (wornN L k j ||| 2 ^ yn) (by simp [wornN, hp, ht]))
            have d0 := cellOf hF.box (o := 0) rfl
            have d1 := cellOf hF.box (o := 1) rfl
            have f1 := freeOf hF.box (o := 1)
            have hlb : bx < wr.heap.size := lt_of_block hF.box
            have HO := Lib.hid (or_pow hwb (show yn < 12 by omega))
            clear hF hp ht
            generalize wornN L k j = wn at *
            go_wp2_with (go_at_call 86; refine Calls.mono (HA.out _) ?_; rintro e w' ⟨rfl, rfl⟩)
            refine region_tail 7 (by kernel_rfl) (by kernel_rfl) ?_
            simp only [List.take_succ_cons, List.take_zero, List.drop_succ_cons, List.drop_zero]
            repeat still_step
            refine wpStill_nil ?_
            go_wp2
            rw [HO.out]
            go_roundw
            case rel => exact ⟨j + 1, by omega, by go_num, HF.out⟩
            case measure => simp [intOf]; omega
        · obtain rfl : j = L.length := by omega
          go_wp2
          have HF := Lib.hid hF
          have d0 := cellOf hF.box (o := 0) rfl
          have d1 := cellOf hF.box (o := 1) rfl
          have hwb := HWB.out k L.length
          have HSX := Lib.hid (fun W => esize_any k (wornN L k L.length) W (by omega) hwb)
          have hbw := hF.below
          have hszw := hbw.size
          obtain ⟨A5, c5, hv5, hrow⟩ := OE.form hF.own
          clear hF
          rw [hv5]
          cases hl : (fewN L k)[0]? with
          | none =>
            have hnil : fewN L k = [] := by simpa using hl
            have hl0 : (fewN L k).length = 0 := by rw [hnil]; rfl
            rw [hl0] at hv5 ⊢
            have HN := Lib.hid (show fewN L (k + 1) = fewN L k ++ [(k, wornN L k L.length)] by show stepE (fewN L k) _ = _; rw [hnil]; rfl)
            have HV := Lib.hid hv5
            have HLE := Lib.hid (show (fewN L k).length ≤ 1000000 by have := fewN_len L k; omega)
            clear hl hnil hl0 hv5 hrow hbw
            generalize wornN L k L.length = wn at *
            go_quiet (fail)
            go_wp2
            go_quiet (fail)
            go_wp2_with (at_builtin; refine wpList_pushW rfl _ _ rfl u5 (fewN L k) HV.out.symm HF.out.own HF.out.below (k, wn) rfl rfl rfl rfl rfl HLE.out ?_)
            intro v' w1 hown' hb2
            have HB2 := Lib.hid hb2
            rw [← HN.out] at hown'
            have HO := Lib.hid hown'
            clear hown' hb2
            go_wp2
            go_roundw
            case rel => exact ⟨k + 1, by omega, by go_num, HO.out, HB2.out⟩
            case measure => simp [intOf]; omega
          | some y =>
            obtain ⟨g, rfl, e0, e1, hpos⟩ := hrow y hl
            obtain ⟨a0, b0⟩ := y
            have hym := fewN_mem (List.mem_of_getElem? hl)
            simp only at hym e0 e1
            have HSY := Lib.hid (fun W => esize_any a0 b0 W (by omega) (by rw [hym.2]; exact HWB.out _ _))
            have HL := Lib.hid hl
            have hN0 := fewN_len L k
            have HS1 := Lib.hid (fun (hlt : (pc k : Int) + pc (wornN L k L.length) < (pc a0 : Int) + pc b0) => (show fewN L (k + 1) = [(k, wornN L k L.length)] from stepE_less hl (show pc k + pc (wornN L k L.length) < pc a0 + pc b0 by omega)))
            have HS2 := Lib.hid (fun (hlt : (pc k : Int) + pc (wornN L k L.length) = (pc a0 : Int) + pc b0) => (show fewN L (k + 1) = fewN L k ++ [(k, wornN L k L.length)] from stepE_same hl (show pc k + pc (wornN L k L.length) = pc a0 + pc b0 by omega)))
            have HS3 := Lib.hid (fun (hlt : (pc a0 : Int) + pc b0 < (pc k : Int) + pc (wornN L k L.length)) => (show fewN L (k + 1) = fewN L k from stepE_more hl (show pc a0 + pc b0 < pc k + pc (wornN L k L.length) by omega)))
            have HV := Lib.hid hv5
            clear hl hv5 hrow hbw hym hwb
            generalize (pc k : Int) + pc (wornN L k L.length) = sx at *
            generalize (pc a0 : Int) + pc b0 = sy at *
            generalize wornN L k L.length = wn at *
            generalize hfl : fewN L k = fl at *
            obtain ⟨N, hN⟩ : ∃ N, fl.length = N := ⟨_, rfl⟩
            rw [hN] at HV hpos hN0 ⊢
            have HLN := Lib.hid hN
            have q1 : 0 < (N : Int) := by omega
            have q2 : decide (0 < N) = true := by simpa using hpos
            have q3 : ((N : Int) == 0) = false := by simp; omega
            clear hN hfl
            refine wpIn_wide.1 (region_inv2 (n := 9) (by kernel_rfl) (RQ (QF12 g N c5 a0 b0 k wn sx sy) wr) (by kernel_rfl) rfl (RQ.start _ _ _) ?hstep ?hend)
            case hstep =>
              have hst := QF12_stays g N c5 a0 b0 k wn sx sy
              intro i' o ho val L b' x hF hR hpre hl
              replace hpre := hpre
              match i', ho with
              | 0, ho =>
                simp at ho
                subst ho
                refine step_plain rfl ?_
                have e5 := hF.was 5 (by kernel_rfl) rfl
                have hgoal : ∀ v W', Below x.heap.size x W' → QF12 g N c5 a0 b0 k wn sx sy 0 v W' → RQ (QF12 g N c5 a0 b0 k wn sx sy) wr (upd val 0 v) (L.setIfInBounds 0 true) W' := fun v W' hb hq => hR.step hst hb hq
                clear hF hpre hl hR
                go_simp
                exact ⟨_, rfl, hgoal _ _ (Below.refl _ _) rfl⟩
              | 1, ho =>
                simp at ho
                subst ho
                refine step_plain rfl ?_
                have e36 := hF.gave 0 rfl (hpre ⟨0, .data⟩ (by simp) rfl) rfl
                have v0 := hR.2 0 (hpre ⟨0, .data⟩ (by simp) rfl)
                rw [show val 0 = .slice (some ⟨g, 0, none⟩) N c5 from v0] at e36
                clear v0
                have hgoal : ∀ v W', Below x.heap.size x W' → QF12 g N c5 a0 b0 k wn sx sy 1 v W' → RQ (QF12 g N c5 a0 b0 k wn sx sy) wr (upd val 1 v) (L.setIfInBounds 1 true) W' := fun v W' hb hq => hR.step hst hb hq
                clear hF hpre hl hR
                go_simp
                exact ⟨_, rfl, hgoal _ _ (Below.refl _ _) rfl⟩
              | 2, ho =>
                simp at ho
                subst ho
                refine step_plain rfl ?_
                have e37 := hF.gave 1 rfl (hpre ⟨1, .data⟩ (by simp) rfl) rfl
                have v1 := hR.2 1 (hpre ⟨1, .data⟩ (by simp) rfl)
                rw [show val 1 = .int .i64 N from v1] at e37
                clear v1
                have hgoal : ∀ v W', Below x.heap.size x W' → QF12 g N c5 a0 b0 k wn sx sy 2 v W' → RQ (QF12 g N c5 a0 b0 k wn sx sy) wr (upd val 2 v) (L.setIfInBounds 2 true) W' := fun v W' hb hq => hR.step hst hb hq
                clear hF hpre hl hR
                go_simp
                exact ⟨_, rfl, hgoal _ _ (Below.refl _ _) rfl⟩
              | 3, ho =>
                simp at ho
                subst ho
                refine step_plain rfl ?_
                have e38 := hF.gave 2 rfl (hpre ⟨2, .data⟩ (by simp) rfl) rfl
                have v2 := hR.2 2 (hpre ⟨2, .data⟩ (by simp) rfl)
                rw [show val 2 = .bool true from v2] at e38
                clear v2
                have hgoal : ∀ v W', Below x.heap.size x W' → QF12 g N c5 a0 b0 k wn sx sy 3 v W' → RQ (QF12 g N c5 a0 b0 k wn sx sy) wr (upd val 3 v) (L.setIfInBounds 3 true) W' := fun v W' hb hq => hR.step hst hb hq
                clear hF hpre hl hR
                go_simp
                exact ⟨_, rfl, hgoal _ _ (Below.refl _ _) rfl⟩
              | 4, ho =>
                simp at ho
                subst ho
                refine step_guard (j := 3) (s := 39) (b := true) hF rfl rfl (by kernel_rfl) (hpre ⟨3, .guard⟩ (by simp) rfl) (hR.2 3 (hpre ⟨3, .guard⟩ (by simp) rfl)) ?_
                have e7 := hF.was 7 (by kernel_rfl) rfl
                have hgoal : ∀ v W', Below x.heap.size x W' → QF12 g N c5 a0 b0 k wn sx sy 4 v W' → RQ (QF12 g N c5 a0 b0 k wn sx sy) wr (upd val 4 v) (L.setIfInBounds 4 true) W' := fun v W' hb hq => hR.step hst hb hq
                have q0 := cell_keep hR.1 d0
                have q1 := cell_keep hR.1 d1
                have q2 := cell_keep hR.1 e0
                have q3 := cell_keep hR.1 e1
                clear hF hpre hl hR
                go_simp
                exact ⟨_, rfl, hgoal _ _ (Below.refl _ _) rfl⟩
              | 5, ho =>
                simp at ho
                subst ho
                refine step_guard (j := 3) (s := 39) (b := true) hF rfl rfl (by kernel_rfl) (hpre ⟨3, .guard⟩ (by simp) rfl) (hR.2 3 (hpre ⟨3, .guard⟩ (by simp) rfl)) ?_
                have e40 := hF.gave 4 rfl (hpre ⟨4, .data⟩ (by simp) rfl) rfl
                have v4 := hR.2 4 (hpre ⟨4, .data⟩ (by simp) rfl)
                rw [show val 4 = .agg #[.int .u64 k, .int .u64 wn] from v4] at e40
                clear v4
                have hgoal : ∀ v W', Below x.heap.size x W' → QF12 g N c5 a0 b0 k wn sx sy 5 v W' → RQ (QF12 g N c5 a0 b0 k wn sx sy) wr (upd val 5 v) (L.setIfInBounds 5 true) W' := fun v W' hb hq => hR.step hst hb hq
                have q0 := cell_keep hR.1 d0
                have q1 := cell_keep hR.1 d1
                have q2 := cell_keep hR.1 e0
                have q3 := cell_keep hR.1 e1
                have hM := Lib.hid hR.1
                clear hF hpre hl hR
                go_simp
                refine ⟨trivial, ?_⟩
                refine CallsIn.mono (callsIn_wide.2 (HSX.out _)) ?_
                rintro e w9 ⟨rfl, hb9⟩
                exact ⟨_, rfl, hgoal _ _ hb9 rfl⟩
              | 6, ho =>
                simp at ho
                subst ho
                refine step_guard (j := 3) (s := 39) (b := true) hF rfl rfl (by kernel_rfl) (hpre ⟨3, .guard⟩ (by simp) rfl) (hR.2 3 (hpre ⟨3, .guard⟩ (by simp) rfl)) ?_
                have e5 := hF.was 5 (by kernel_rfl) rfl
                have hgoal : ∀ v W', Below x.heap.size x W' → QF12 g N c5 a0 b0 k wn sx sy 6 v W' → RQ (QF12 g N c5 a0 b0 k wn sx sy) wr (upd val 6 v) (L.setIfInBounds 6 true) W' := fun v W' hb hq => hR.step hst hb hq
                clear hF hpre hl hR
                go_simp
                exact ⟨_, rfl, hgoal _ _ (Below.refl _ _) rfl⟩
              | 7, ho =>
                simp at ho
                subst ho
                refine step_guard (j := 3) (s := 39) (b := true) hF rfl rfl (by kernel_rfl) (hpre ⟨3, .guard⟩ (by simp) rfl) (hR.2 3 (hpre ⟨3, .guard⟩ (by simp) rfl)) ?_
                have e42 := hF.gave 6 rfl (hpre ⟨6, .data⟩ (by simp) rfl) rfl
                have v6 := hR.2 6 (hpre ⟨6, .data⟩ (by simp) rfl)
                rw [show val 6 = .slice (some ⟨g, 0, none⟩) N c5 from v6] at e42
                clear v6
                have hgoal : ∀ v W', Below x.heap.size x W' → QF12 g N c5 a0 b0 k wn sx sy 7 v W' → RQ (QF12 g N c5 a0 b0 k wn sx sy) wr (upd val 7 v) (L.setIfInBounds 7 true) W' := fun v W' hb hq => hR.step hst hb hq
                clear hF hpre hl hR
                go_simp
                exact ⟨_, rfl, hgoal _ _ (Below.refl _ _) rfl⟩
              | 8, ho =>
                simp at ho
                subst ho
                refine step_guard (j := 3) (s := 39) (b := true) hF rfl rfl (by kernel_rfl) (hpre ⟨3, .guard⟩ (by simp) rfl) (hR.2 3 (hpre ⟨3, .guard⟩ (by simp) rfl)) ?_
                have e43 := hF.gave 7 rfl (hpre ⟨7, .data⟩ (by simp) rfl) rfl
                have v7 := hR.2 7 (hpre ⟨7, .data⟩ (by simp) rfl)
                rw [show val 7 = .pointer (some ⟨g, 0, none⟩) from v7] at e43
                clear v7
                have hgoal : ∀ v W', Below x.heap.size x W' → QF12 g N c5 a0 b0 k wn sx sy 8 v W' → RQ (QF12 g N c5 a0 b0 k wn sx sy) wr (upd val 8 v) (L.setIfInBounds 8 true) W' := fun v W' hb hq => hR.step hst hb hq
                have q0 := cell_keep hR.1 d0
                have q1 := cell_keep hR.1 d1
                have q2 := cell_keep hR.1 e0
                have q3 := cell_keep hR.1 e1
                clear hF hpre hl hR
                go_simp
                exact ⟨_, rfl, hgoal _ _ (Below.refl _ _) rfl⟩
              | 9, ho =>
                simp at ho
                subst ho
                refine step_guard (j := 3) (s := 39) (b := true) hF rfl rfl (by kernel_rfl) (hpre ⟨3, .guard⟩ (by simp) rfl) (hR.2 3 (hpre ⟨3, .guard⟩ (by simp) rfl)) ?_
                have e44 := hF.gave 8 rfl (hpre ⟨8, .data⟩ (by simp) rfl) rfl
                have v8 := hR.2 8 (hpre ⟨8, .data⟩ (by simp) rfl)
                rw [show val 8 = .agg #[.int .u64 a0, .int .u64 b0] from v8] at e44
                clear v8
                have hgoal : ∀ v W', Below x.heap.size x W' → QF12 g N c5 a0 b0 k wn sx sy 9 v W' → RQ (QF12 g N c5 a0 b0 k wn sx sy) wr (upd val 9 v) (L.setIfInBounds 9 true) W' := fun v W' hb hq => hR.step hst hb hq
                have q0 := cell_keep hR.1 d0
                have q1 := cell_keep hR.1 d1
                have q2 := cell_keep hR.1 e0
                have q3 := cell_keep hR.1 e1
                have hM := Lib.hid hR.1
                clear hF hpre hl hR
                go_simp
                refine ⟨trivial, ?_⟩
                refine CallsIn.mono (callsIn_wide.2 (HSY.out _)) ?_
                rintro e w9 ⟨rfl, hb9⟩
                exact ⟨_, rfl, hgoal _ _ hb9 rfl⟩
              | 10, ho =>
                simp at ho
                subst ho
                refine step_guard (j := 3) (s := 39) (b := true) hF rfl rfl (by kernel_rfl) (hpre ⟨3, .guard⟩ (by simp) rfl) (hR.2 3 (hpre ⟨3, .guard⟩ (by simp) rfl)) ?_
                have e41 := hF.gave 5 rfl (hpre ⟨5, .data⟩ (by simp) rfl) rfl
                have v5 := hR.2 5 (hpre ⟨5, .data⟩ (by simp) rfl)
                rw [show val 5 = .int .i64 sx from v5] at e41
                clear v5
                have e45 := hF.gave 9 rfl (hpre ⟨9, .data⟩ (by simp) rfl) rfl
                have v9 := hR.2 9 (hpre ⟨9, .data⟩ (by simp) rfl)
                rw [show val 9 = .int .i64 sy from v9] at e45
                clear v9
                have hgoal : ∀ v W', Below x.heap.size x W' → QF12 g N c5 a0 b0 k wn sx sy 10 v W' → RQ (QF12 g N c5 a0 b0 k wn sx sy) wr (upd val 10 v) (L.setIfInBounds 10 true) W' := fun v W' hb hq => hR.step hst hb hq
                clear hF hpre hl hR
                go_simp
                exact ⟨_, rfl, hgoal _ _ (Below.refl _ _) rfl⟩
              | 11, ho =>
                simp at ho
                subst ho
                refine step_plain rfl ?_
                have e39 := hF.gave 3 rfl (hpre ⟨3, .data⟩ (by simp) rfl) rfl
                have v3 := hR.2 3 (hpre ⟨3, .data⟩ (by simp) rfl)
                rw [show val 3 = .bool true from v3] at e39
                clear v3
                have e46 := hF.gave 10 rfl (hpre ⟨10, .data⟩ (by simp) rfl) rfl
                have v10 := hR.2 10 (hpre ⟨10, .data⟩ (by simp) rfl)
                rw [show val 10 = .bool (decide (sx < sy)) from v10] at e46
                clear v10
                have hgoal : ∀ v W', Below x.heap.size x W' → QF12 g N c5 a0 b0 k wn sx sy 11 v W' → RQ (QF12 g N c5 a0 b0 k wn sx sy) wr (upd val 11 v) (L.setIfInBounds 11 true) W' := fun v W' hb hq => hR.step hst hb hq
                clear hF hpre hl hR
                go_simp
                exact ⟨_, rfl, hgoal _ _ (Below.refl _ _) rfl⟩
              | i + 12, ho => simp at ho
            intro val L' b' x0 hF hall hR
            have e := hF.all (by kernel_rfl) hall
            have v11 : val 11 = .bool (decide (sx < sy)) := hR.2 11 (hall 11 (by decide))
            have HX := Lib.hid hR.1
            clear hF hall hR
            subst e
            simp [final, dstOf, List.range, List.range.loop]
            rw [v11]
            clear v11
            by_cases hlt : sx < sy
            · have hd : decide (sx < sy) = true := by simpa using hlt
              rw [hd]
              have HN := Lib.hid (HS1.out hlt)
              have t0 := cell_keep HX.out d0
              have t1 := cell_keep HX.out d1
              have HBX := Lib.hid (HF.out.below.trans (HX.out.mono hszw))
              have hszx := HBX.out.size
              clear hd
              go_wp2
              go_quiet (fail)
              go_wp2_with (at_builtin; refine wpList_pushW rfl _ _ rfl (.slice none 0 0) [] rfl OE.nil HBX.out (k, wn) rfl rfl rfl rfl rfl (Nat.zero_le _) ?_)
              intro v' w1 hown' hb2
              have HB2 := Lib.hid hb2
              rw [← HN.out] at hown'
              have HO := Lib.hid hown'
              clear hown' hb2
              go_wp2
              go_roundw
              case rel => exact ⟨k + 1, by omega, by go_num, HO.out, HB2.out⟩
              case measure => simp [intOf]; omega
            · have hd : decide (sx < sy) = false := by simpa using hlt
              rw [hd]
              have t0 := cell_keep HX.out d0
              have t1 := cell_keep HX.out d1
              have r0 := cell_keep HX.out e0
              have r1 := cell_keep HX.out e1
              have HBX := Lib.hid (HF.out.below.trans (HX.out.mono hszw))
              have HOX := Lib.hid (OE.stay HF.out.own HX.out)
              have hszx := HBX.out.size
              clear hd d0 d1 e0 e1 HX hszw
              go_upto_region 14 with fail
              refine wpIn_wide.1 (region_inv2 (n := 9) (by kernel_rfl) (RQ (QF14 g N c5 a0 b0 k wn sx sy) x0) (by kernel_rfl) rfl (RQ.start _ _ _) ?hstep2 ?hend2)
              case hstep2 =>
                have hst := QF14_stays g N c5 a0 b0 k wn sx sy
                intro i' o ho val L b' x hF hR hpre hl
                replace hpre := hpre
                match i', ho with
                | 0, ho =>
                  simp at ho
                  subst ho
                  refine step_plain rfl ?_
                  have e5 := hF.was 5 (by kernel_rfl) rfl
                  have hgoal : ∀ v W', Below x.heap.size x W' → QF14 g N c5 a0 b0 k wn sx sy 0 v W' → RQ (QF14 g N c5 a0 b0 k wn sx sy) x0 (upd val 0 v) (L.setIfInBounds 0 true) W' := fun v W' hb hq => hR.step hst hb hq
                  clear hF hpre hl hR
                  go_simp
                  exact ⟨_, rfl, hgoal _ _ (Below.refl _ _) rfl⟩
                | 1, ho =>
                  simp at ho
                  subst ho
                  refine step_plain rfl ?_
                  have e48 := hF.gave 0 rfl (hpre ⟨0, .data⟩ (by simp) rfl) rfl
                  have v0 := hR.2 0 (hpre ⟨0, .data⟩ (by simp) rfl)
                  rw [show val 0 = .slice (some ⟨g, 0, none⟩) N c5 from v0] at e48
                  clear v0
                  have hgoal : ∀ v W', Below x.heap.size x W' → QF14 g N c5 a0 b0 k wn sx sy 1 v W' → RQ (QF14 g N c5 a0 b0 k wn sx sy) x0 (upd val 1 v) (L.setIfInBounds 1 true) W' := fun v W' hb hq => hR.step hst hb hq
                  clear hF hpre hl hR
                  go_simp
                  exact ⟨_, rfl, hgoal _ _ (Below.refl _ _) rfl⟩
                | 2, ho =>
                  simp at ho
                  subst ho
                  refine step_plain rfl ?_
                  have e49 := hF.gave 1 rfl (hpre ⟨1, .data⟩ (by simp) rfl) rfl
                  have v1 := hR.2 1 (hpre ⟨1, .data⟩ (by simp) rfl)
                  rw [show val 1 = .int .i64 N from v1] at e49
                  clear v1
                  have hgoal : ∀ v W', Below x.heap.size x W' → QF14 g N c5 a0 b0 k wn sx sy 2 v W' → RQ (QF14 g N c5 a0 b0 k wn sx sy) x0 (upd val 2 v) (L.setIfInBounds 2 true) W' := fun v W' hb hq => hR.step hst hb hq
                  clear hF hpre hl hR
                  go_simp
                  exact ⟨_, rfl, hgoal _ _ (Below.refl _ _) rfl⟩
                | 3, ho =>
                  simp at ho
                  subst ho
                  refine step_plain rfl ?_
                  have e50 := hF.gave 2 rfl (hpre ⟨2, .data⟩ (by simp) rfl) rfl
                  have v2 := hR.2 2 (hpre ⟨2, .data⟩ (by simp) rfl)
                  rw [show val 2 = .bool false from v2] at e50
                  clear v2
                  have hgoal : ∀ v W', Below x.heap.size x W' → QF14 g N c5 a0 b0 k wn sx sy 3 v W' → RQ (QF14 g N c5 a0 b0 k wn sx sy) x0 (upd val 3 v) (L.setIfInBounds 3 true) W' := fun v W' hb hq => hR.step hst hb hq
                  clear hF hpre hl hR
                  go_simp
                  exact ⟨_, rfl, hgoal _ _ (Below.refl _ _) rfl⟩
                | 4, ho =>
                  simp at ho
                  subst ho
                  refine step_guard (j := 3) (s := 51) (b := false) hF rfl rfl (by kernel_rfl) (hpre ⟨3, .guard⟩ (by simp) rfl) (hR.2 3 (hpre ⟨3, .guard⟩ (by simp) rfl)) ?_
                  have e7 := hF.was 7 (by kernel_rfl) rfl
                  have hgoal : ∀ v W', Below x.heap.size x W' → QF14 g N c5 a0 b0 k wn sx sy 4 v W' → RQ (QF14 g N c5 a0 b0 k wn sx sy) x0 (upd val 4 v) (L.setIfInBounds 4 true) W' := fun v W' hb hq => hR.step hst hb hq
                  have q0 := cell_keep hR.1 t0
                  have q1 := cell_keep hR.1 t1
                  have q2 := cell_keep hR.1 r0
                  have q3 := cell_keep hR.1 r1
                  clear hF hpre hl hR
                  go_simp
                  exact ⟨_, rfl, hgoal _ _ (Below.refl _ _) rfl⟩
                | 5, ho =>
                  simp at ho
                  subst ho
                  refine step_guard (j := 3) (s := 51) (b := false) hF rfl rfl (by kernel_rfl) (hpre ⟨3, .guard⟩ (by simp) rfl) (hR.2 3 (hpre ⟨3, .guard⟩ (by simp) rfl)) ?_
                  have e52 := hF.gave 4 rfl (hpre ⟨4, .data⟩ (by simp) rfl) rfl
                  have v4 := hR.2 4 (hpre ⟨4, .data⟩ (by simp) rfl)
                  rw [show val 4 = .agg #[.int .u64 k, .int .u64 wn] from v4] at e52
                  clear v4
                  have hgoal : ∀ v W', Below x.heap.size x W' → QF14 g N c5 a0 b0 k wn sx sy 5 v W' → RQ (QF14 g N c5 a0 b0 k wn sx sy) x0 (upd val 5 v) (L.setIfInBounds 5 true) W' := fun v W' hb hq => hR.step hst hb hq
                  have q0 := cell_keep hR.1 t0
                  have q1 := cell_keep hR.1 t1
                  have q2 := cell_keep hR.1 r0
                  have q3 := cell_keep hR.1 r1
                  have hM := Lib.hid hR.1
                  clear hF hpre hl hR
                  go_simp
                  refine ⟨trivial, ?_⟩
                  refine CallsIn.mono (callsIn_wide.2 (HSX.out _)) ?_
                  rintro e w9 ⟨rfl, hb9⟩
                  exact ⟨_, rfl, hgoal _ _ hb9 rfl⟩
                | 6, ho =>
                  simp at ho
                  subst ho
                  refine step_guard (j := 3) (s := 51) (b := false) hF rfl rfl (by kernel_rfl) (hpre ⟨3, .guard⟩ (by simp) rfl) (hR.2 3 (hpre ⟨3, .guard⟩ (by simp) rfl)) ?_
                  have e5 := hF.was 5 (by kernel_rfl) rfl
                  have hgoal : ∀ v W', Below x.heap.size x W' → QF14 g N c5 a0 b0 k wn sx sy 6 v W' → RQ (QF14 g N c5 a0 b0 k wn sx sy) x0 (upd val 6 v) (L.setIfInBounds 6 true) W' := fun v W' hb hq => hR.step hst hb hq
                  clear hF hpre hl hR
                  go_simp
                  exact ⟨_, rfl, hgoal _ _ (Below.refl _ _) rfl⟩
                | 7, ho =>
                  simp at ho
                  subst ho
                  refine step_guard (j := 3) (s := 51) (b := false) hF rfl rfl (by kernel_rfl) (hpre ⟨3, .guard⟩ (by simp) rfl) (hR.2 3 (hpre ⟨3, .guard⟩ (by simp) rfl)) ?_
                  have e54 := hF.gave 6 rfl (hpre ⟨6, .data⟩ (by simp) rfl) rfl
                  have v6 := hR.2 6 (hpre ⟨6, .data⟩ (by simp) rfl)
                  rw [show val 6 = .slice (some ⟨g, 0, none⟩) N c5 from v6] at e54
                  clear v6
                  have hgoal : ∀ v W', Below x.heap.size x W' → QF14 g N c5 a0 b0 k wn sx sy 7 v W' → RQ (QF14 g N c5 a0 b0 k wn sx sy) x0 (upd val 7 v) (L.setIfInBounds 7 true) W' := fun v W' hb hq => hR.step hst hb hq
                  clear hF hpre hl hR
                  go_simp
                  exact ⟨_, rfl, hgoal _ _ (Below.refl _ _) rfl⟩
                | 8, ho =>
                  simp at ho
                  subst ho
                  refine step_guard (j := 3) (s := 51) (b := false) hF rfl rfl (by kernel_rfl) (hpre ⟨3, .guard⟩ (by simp) rfl) (hR.2 3 (hpre ⟨3, .guard⟩ (by simp) rfl)) ?_
                  have e55 := hF.gave 7 rfl (hpre ⟨7, .data⟩ (by simp) rfl) rfl
                  have v7 := hR.2 7 (hpre ⟨7, .data⟩ (by simp) rfl)
                  rw [show val 7 = .pointer (some ⟨g, 0, none⟩) from v7] at e55
                  clear v7
                  have hgoal : ∀ v W', Below x.heap.size x W' → QF14 g N c5 a0 b0 k wn sx sy 8 v W' → RQ (QF14 g N c5 a0 b0 k wn sx sy) x0 (upd val 8 v) (L.setIfInBounds 8 true) W' := fun v W' hb hq => hR.step hst hb hq
                  have q0 := cell_keep hR.1 t0
                  have q1 := cell_keep hR.1 t1
                  have q2 := cell_keep hR.1 r0
                  have q3 := cell_keep hR.1 r1
                  clear hF hpre hl hR
                  go_simp
                  exact ⟨_, rfl, hgoal _ _ (Below.refl _ _) rfl⟩
                | 9, ho =>
                  simp at ho
                  subst ho
                  refine step_guard (j := 3) (s := 51) (b := false) hF rfl rfl (by kernel_rfl) (hpre ⟨3, .guard⟩ (by simp) rfl) (hR.2 3 (hpre ⟨3, .guard⟩ (by simp) rfl)) ?_
                  have e56 := hF.gave 8 rfl (hpre ⟨8, .data⟩ (by simp) rfl) rfl
                  have v8 := hR.2 8 (hpre ⟨8, .data⟩ (by simp) rfl)
                  rw [show val 8 = .agg #[.int .u64 a0, .int .u64 b0] from v8] at e56
                  clear v8
                  have hgoal : ∀ v W', Below x.heap.size x W' → QF14 g N c5 a0 b0 k wn sx sy 9 v W' → RQ (QF14 g N c5 a0 b0 k wn sx sy) x0 (upd val 9 v) (L.setIfInBounds 9 true) W' := fun v W' hb hq => hR.step hst hb hq
                  have q0 := cell_keep hR.1 t0
                  have q1 := cell_keep hR.1 t1
                  have q2 := cell_keep hR.1 r0
                  have q3 := cell_keep hR.1 r1
                  have hM := Lib.hid hR.1
                  clear hF hpre hl hR
                  go_simp
                  refine ⟨trivial, ?_⟩
                  refine CallsIn.mono (callsIn_wide.2 (HSY.out _)) ?_
                  rintro e w9 ⟨rfl, hb9⟩
                  exact ⟨_, rfl, hgoal _ _ hb9 rfl⟩
                | 10, ho =>
                  simp at ho
                  subst ho
                  refine step_guard (j := 3) (s := 51) (b := false) hF rfl rfl (by kernel_rfl) (hpre ⟨3, .guard⟩ (by simp) rfl) (hR.2 3 (hpre ⟨3, .guard⟩ (by simp) rfl)) ?_
                  have e53 := hF.gave 5 rfl (hpre ⟨5, .data⟩ (by simp) rfl) rfl
                  have v5 := hR.2 5 (hpre ⟨5, .data⟩ (by simp) rfl)
                  rw [show val 5 = .int .i64 sx from v5] at e53
                  clear v5
                  have e57 := hF.gave 9 rfl (hpre ⟨9, .data⟩ (by simp) rfl) rfl
                  have v9 := hR.2 9 (hpre ⟨9, .data⟩ (by simp) rfl)
                  rw [show val 9 = .int .i64 sy from v9] at e57
                  clear v9
                  have hgoal : ∀ v W', Below x.heap.size x W' → QF14 g N c5 a0 b0 k wn sx sy 10 v W' → RQ (QF14 g N c5 a0 b0 k wn sx sy) x0 (upd val 10 v) (L.setIfInBounds 10 true) W' := fun v W' hb hq => hR.step hst hb hq
                  clear hF hpre hl hR
                  go_simp
                  exact ⟨_, rfl, hgoal _ _ (Below.refl _ _) rfl⟩
                | 11, ho =>
                  simp at ho
                  subst ho
                  refine step_plain rfl ?_
                  have e51 := hF.gave 3 rfl (hpre ⟨3, .data⟩ (by simp) rfl) rfl
                  have v3 := hR.2 3 (hpre ⟨3, .data⟩ (by simp) rfl)
                  rw [show val 3 = .bool false from v3] at e51
                  clear v3
                  have e58 := hF.gave 10 rfl (hpre ⟨10, .data⟩ (by simp) rfl) rfl
                  have v10 := hR.2 10 (hpre ⟨10, .data⟩ (by simp) rfl)
                  rw [show val 10 = .bool (sx == sy) from v10] at e58
                  clear v10
                  have hgoal : ∀ v W', Below x.heap.size x W' → QF14 g N c5 a0 b0 k wn sx sy 11 v W' → RQ (QF14 g N c5 a0 b0 k wn sx sy) x0 (upd val 11 v) (L.setIfInBounds 11 true) W' := fun v W' hb hq => hR.step hst hb hq
                  clear hF hpre hl hR
                  go_simp
                  exact ⟨_, rfl, hgoal _ _ (Below.refl _ _) rfl⟩
                | i + 12, ho => simp at ho
              intro val L' b' x hF hall hR
              have e := hF.all (by kernel_rfl) hall
              have v11 : val 11 = .bool (sx == sy) := hR.2 11 (hall 11 (by decide))
              have HX := Lib.hid hR.1
              clear hF hall hR
              subst e
              simp [final, dstOf, List.range, List.range.loop]
              rw [v11]
              clear v11
              by_cases heq : sx = sy
              · have hd2 : (sx == sy) = true := by simpa using heq
                rw [hd2]
                have HN := Lib.hid (HS2.out heq)
                have s0 := cell_keep HX.out t0
                have s1 := cell_keep HX.out t1
                have HB3 := Lib.hid (HBX.out.trans (HX.out.mono hszx))
                have HO3 := Lib.hid (OE.stay HOX.out HX.out)
                have hszy := HB3.out.size
                clear hd2 heq
                go_wp2_with (at_builtin; refine wpList_pushW rfl _ _ rfl u5 fl HV.out.symm HO3.out HB3.out (k, wn) rfl rfl rfl rfl rfl (by rw [HLN.out]; omega) ?_)
                intro v' w1 hown' hb2
                have HB2 := Lib.hid hb2
                rw [← HN.out] at hown'
                have HO := Lib.hid hown'
                clear hown' hb2
                go_wp2
                go_roundw
                case rel => exact ⟨k + 1, by omega, by go_num, HO.out, HB2.out⟩
                case measure => simp [intOf]; omega
              · have hd2 : (sx == sy) = false := by simpa using heq
                rw [hd2]
                have HN := Lib.hid (HS3.out (by omega))
                have HB3 := Lib.hid (HBX.out.trans (HX.out.mono hszx))
                have HO3 := Lib.hid (OE.stay HOX.out HX.out)
                clear hd2 heq
                go_wp2
                go_roundw
                case rel => exact ⟨k + 1, by omega, by go_num, by rw [HN.out, ← HV.out]; exact HO3.out, HB3.out⟩
                case measure => simp [intOf]; omega
    · obtain rfl : k = M := by omega
      rw [HMM.out] at hown
      have HSO := Lib.hid (HSORT.out u5 wr hown hbw)
      clear hown hbw
      go_wp2_with (go_at_call 94; refine Calls.mono HSO.out ?_; rintro e w9 ⟨rfl, ho9, hb9⟩; have HO := Lib.hid (And.intro ho9 hb9); clear ho9 hb9)
      go_ret
      exact ⟨u5, rfl, HO.out.1, HO.out.2⟩
end Go.Proofs.Ytliocbjmledfbaa

/- spans.corners: the iterator. -/
import Derived.Test.YtjdahphnmeaolaaBox
import Derived.Test.YtjdahphnmeaolaaAt
import Derived.RangeFuncNested
import Derived.RangeFuncBound
import Derived.RangeFuncCalls
import Derived.RangeFuncLeaves
import Derived.Shelf.Abstract
import Derived.Shelf.RegionOpen
import Derived.OwnWalkIn
import Derived.TacticsInMore
import Derived.LoopNIn
import Derived.LoopIn
namespace Go.Proofs.Ytjdahphnmeaolaa
open Go.RowKit Go.Shelf

attribute [local go_sem] Oper.semAt_some

/-- Blocks of cells from m on lie as they lay. -/
def KC (m : Nat) (A B : World) : Prop := ∀ k, m ≤ k → ∀ o, A.heap[k]? = some o → o.isCells = true → B.heap[k]? = some o
theorem KC.cell {m g o : Nat} {A B : World} {v : Value} (h : KC m A B) (hk : m ≤ g) (hc : A.cell? ⟨g, o, none⟩ = some v) : B.cell? ⟨g, o, none⟩ = some v := by
  unfold World.cell? at hc ⊢
  split at hc
  · rename_i c t f hh
    rw [h g hk _ hh rfl]
    exact hc
  · cases hc
theorem RI.kc {m g n : Nat} {A B : World} {l : List Int} (h : RI A n (some ⟨g, 0, none⟩) l) (hk : KC m A B) (hg : m ≤ g) (hs : A.heap.size ≤ B.heap.size) (hn : n ≤ A.heap.size) : RI B B.heap.size (some ⟨g, 0, none⟩) l := fun hl => by
  obtain ⟨b, off, e, hb, hc⟩ := h hl
  simp only [Option.some.injEq, Addr.mk.injEq] at e
  obtain ⟨rfl, rfl, _⟩ := e
  exact ⟨_, _, rfl, by omega, fun j u hu => hk.cell hg (hc j u hu)⟩
theorem grown_of_below {a w : World} (h : Below a.heap.size a w) (row : Option Nat) : a.grownBy w row := ⟨h.os, h.tape, h.output, h.size, fun i hi _ => h.block i hi⟩

theorem KC.trans {m : Nat} {A B C : World} (h : KC m A B) (k : KC m B C) : KC m A C := fun j hj o ho hc => k j hj o (h j hj o ho hc) hc
theorem KC.of_below {m : Nat} {A B : World} (h : Below A.heap.size A B) : KC m A B := fun j _ _ ho _ => (h.block j (Array.getElem?_eq_some_iff.1 ho).1).trans ho
/-- What a round keeps: blocks below n, and those of cells from m on. -/
def KP (n m : Nat) (A B : World) : Prop := Below n A B ∧ KC m A B
theorem KP.trans {n m : Nat} {A B C : World} (h : KP n m A B) (k : KP n m B C) : KP n m A C := ⟨h.1.trans k.1, h.2.trans k.2⟩
theorem KP.of_below {n m : Nat} {A B : World} (h : Below A.heap.size A B) (hn : n ≤ A.heap.size) : KP n m A B := ⟨h.mono hn, KC.of_below h⟩

abbrev Cn := Int × Int × Int × Int
def cnV (c : Cn) : Value := .agg #[.int .i64 c.1, .int .i64 c.2.1, .int .i64 c.2.2.1, .int .i64 c.2.2.2]
def cnOf (X Y : List Int) (V : List (List Int)) (i k : Int) : Cn := (atN X Y V i k, atD X Y i k, i, k)
def cornersL (X Y : List Int) (V : List (List Int)) (EX EY : List Int) : List Cn := EX.flatMap fun i => EY.map fun k => cnOf X Y V i k

/-- What every corner of a valid table is. -/
def Good (c : Cn) : Prop := 1 ≤ c.2.1 ∧ c.2.1 ≤ 100000000 ∧ -(1000000 * c.2.1) ≤ c.1 ∧ c.1 ≤ 1000000 * c.2.1
theorem good_of {X Y : List Int} {V : List (List Int)} {x y : Int} (h : ctB X Y V = true) (hx : On X x) (hy : On Y y) : Good (cnOf X Y V x y) := by
  obtain ⟨a, b, _, _⟩ := ctB_get h
  have d := atD_bd a b hx hy
  have n := atN_bd h hx hy
  exact ⟨d.1, d.2, n.1, n.2⟩

theorem endsL_on {X : List Int} {lo hi : Int} (h1 : On X lo) (h2 : On X hi) : ∀ n ∈ endsL X lo hi, On X n := by
  intro n hn
  unfold endsL at hn
  simp only [List.mem_cons, List.mem_append, List.mem_filter, Bool.and_eq_true, decide_eq_true_eq] at hn
  rcases hn with rfl | ⟨_, h3, h4⟩ | hn
  · exact h1
  · exact ⟨by have := h1.1; omega, by have := h2.2; omega⟩
  · split at hn
    · simp at hn; subst hn; exact h2
    · simp at hn
theorem endsL_len (X : List Int) (lo hi : Int) : (endsL X lo hi).length ≤ X.length + 2 := by
  unfold endsL
  have := List.length_filter_le (fun n => decide (lo < n) && decide (n < hi)) X
  split <;> simp <;> omega

theorem split_at {α : Type} {l : List α} {k : Nat} {x : α} (h : l[k]? = some x) : l = l.take k ++ x :: l.drop (k + 1) := by
  obtain ⟨hk, rfl⟩ := List.getElem?_eq_some_iff.1 h
  rw [← List.drop_eq_getElem_cons hk, List.take_append_drop]
theorem corn_pre {X Y : List Int} {V : List (List Int)} {EX EY : List Int} {a k : Nat} {x0 y0 : Int} (hx : EX[a]? = some x0) (hy : EY[k]? = some y0) :
    ∃ rest, cornersL X Y V EX EY = (cornersL X Y V (EX.take a) EY ++ (EY.take k).map (cnOf X Y V x0)) ++ [cnOf X Y V x0 y0] ++ rest := by
  refine ⟨(EY.drop (k + 1)).map (cnOf X Y V x0) ++ cornersL X Y V (EX.drop (a + 1)) EY, ?_⟩
  have e1 : cornersL X Y V EX EY = cornersL X Y V (EX.take a) EY ++ (EY.map (cnOf X Y V x0) ++ cornersL X Y V (EX.drop (a + 1)) EY) := by
    conv => lhs; rw [split_at hx]
    simp [cornersL]
  have e2 : EY.map (cnOf X Y V x0) = (EY.take k).map (cnOf X Y V x0) ++ cnOf X Y V x0 y0 :: (EY.drop (k + 1)).map (cnOf X Y V x0) := by
    conv => lhs; rw [split_at hy]
    simp
  rw [e1, e2]
  simp only [List.append_assoc, List.cons_append, List.nil_append]
theorem corn_row {X Y : List Int} {V : List (List Int)} {EX EY : List Int} {a : Nat} {x0 : Int} (hx : EX[a]? = some x0) :
    cornersL X Y V (EX.take (a + 1)) EY = cornersL X Y V (EX.take a) EY ++ EY.map (cnOf X Y V x0) := by
  unfold cornersL
  rw [List.take_add_one, hx]
  simp

set_option maxRecDepth 100000 in
set_option maxHeartbeats 1600000 in
theorem corners1_in (n : Nat) (hn : 3 ≤ n) (l bT bX bY n₀ m₀ B : Nat) (AX AY AV : Option Addr) (cx cy cv : Nat) (X Y : List Int) (V : List (List Int)) (x1 x2 y1 y2 : Int) (EX EY : List Int) (hEXe : Hid (endsL X x1 x2 = EX)) (hEYe : Hid (endsL Y y1 y2 = EY)) (J Jx : List Cn → World → Prop)
    (hct : ctB X Y V = true) (hx1 : On X x1) (hx2 : On X x2) (hy1 : On Y y1) (hy2 : On Y y2)
    (hT : m₀ ≤ bT) (hX : m₀ ≤ bX) (hBn : B ≤ n₀) (hnm : n₀ ≤ m₀)
    (W : World) (hm : m₀ ≤ W.heap.size) (hJ : AbidesFrom W.heap.size J)
    (hY : ∀ pre x W1, Good x → J pre W1 → pre.length < (cornersL X Y V EX EY).length → YieldAt Fence.wide (n - 1) Try.prog l #[cnV x] W1 fun e W' =>
      (e = .returned (.bool true) ∧ J (pre ++ [x]) W' ∧ KP n₀ m₀ W1 W') ∨ (e = .returned (.bool false) ∧ Jx (pre ++ [x]) W'))
    (hb : TB W B AX AY AV X Y V)
    (k0 : W.cell? ⟨bT, 0, none⟩ = some (.slice AX X.length cx)) (k1 : W.cell? ⟨bT, 1, none⟩ = some (.slice AY Y.length cy)) (k2 : W.cell? ⟨bT, 2, none⟩ = some (.slice AV V.length cv))
    (k3 : W.cell? ⟨bX, 0, none⟩ = some (.int .i64 x1)) (k4 : W.cell? ⟨bX, 1, none⟩ = some (.int .i64 x2)) (k5 : W.cell? ⟨bY, 0, none⟩ = some (.int .i64 y1)) (k6 : W.cell? ⟨bY, 1, none⟩ = some (.int .i64 y2))
    (h0 : J [] W) :
    CallsIn Fence.wide n Try.prog 111 #[.func (.yield l) #[] #[], .pointer (some ⟨bT, 0, none⟩), .pointer (some ⟨bY, 0, none⟩), .pointer (some ⟨bX, 0, none⟩)] W fun e W' => (∃ v, e = .returned v) ∧
      ((∃ ys, ys = cornersL X Y V EX EY ∧ J ys W') ∨ (∃ pre, pre <+: cornersL X Y V EX EY ∧ Jx pre W')) := by
  obtain ⟨hl1, hl2, hl3, hl4⟩ := ctB_len hct
  have box : ∀ wr : World, KP n₀ m₀ W wr → wr.cell? ⟨bT, 0, none⟩ = some (.slice AX X.length cx) ∧ wr.cell? ⟨bT, 1, none⟩ = some (.slice AY Y.length cy) ∧ wr.cell? ⟨bT, 2, none⟩ = some (.slice AV V.length cv) ∧
      wr.cell? ⟨bX, 0, none⟩ = some (.int .i64 x1) ∧ wr.cell? ⟨bX, 1, none⟩ = some (.int .i64 x2) ∧ TB wr B AX AY AV X Y V := fun wr h =>
    ⟨h.2.cell hT k0, h.2.cell hT k1, h.2.cell hT k2, h.2.cell hX k3, h.2.cell hX k4, hb.below (h.1.mono hBn)⟩
  have hEX := endsL_on hx1 hx2
  have hEY := endsL_on hy1 hy2
  have hlx := endsL_len X x1 x2
  have hly := endsL_len Y y1 y2
  rw [hEXe.out] at hEX hlx
  rw [hEYe.out] at hEY hly
  have HY := Lib.hid hY
  have HJ := Lib.hid hJ
  have HBX := Lib.hid box
  have HEX := Lib.hid hEX
  have HEY := Lib.hid hEY
  have HCT := Lib.hid hct
  clear hY hJ box hEX hEY hct hx1 hx2 hy1 hy2
  refine callsIn_of_wp Try.func111 rfl trivial ?_ rfl
  simp only [Try.ntmps111, List.size_toArray, List.length_cons, List.length_nil, Nat.reduceAdd, Nat.reduceSub, Array.replicate_succ, Array.replicate_zero, List.push_toArray, List.append_toArray, List.nil_append, List.cons_append]
  gi_wp2_with (fail)
  refine ⟨trivial, fun _ => by omega, ?_⟩
  have hE1 := ends_any AY _ cy B Y y1 y2 W rfl (by omega) (by omega) hb.y
  rw [hEYe.out] at hE1
  refine CallsIn.mono (callsIn_wide.2 hE1) ?_
  clear hE1
  rintro e W1 ⟨g1, c1, rfl, hg1, hr1, hbw1⟩
  have hz1 := hbw1.size
  have q1 : KP n₀ m₀ W W1 := KP.of_below hbw1 (by omega)
  obtain ⟨j0, j1, j2, j3, j4, j5⟩ := HBX.out W1 q1
  have hJ1 : J [] W1 := HJ.out _ _ _ none h0 (grown_of_below hbw1 none) (fun r e => by cases e)
  clear h0
  gi_wp2_with (fail)
  refine ⟨trivial, fun _ => by omega, ?_⟩
  have hE2 := ends_any AX _ cx B X x1 x2 W1 rfl (by omega) (by omega) j5.x
  rw [hEXe.out] at hE2
  refine CallsIn.mono (callsIn_wide.2 hE2) ?_
  clear hE2
  rintro e W2 ⟨g2, c2, rfl, hg2, hr2, hbw2⟩
  have hz2 := hbw2.size
  have q2 : KP n₀ m₀ W W2 := q1.trans (KP.of_below hbw2 (by omega))
  have hJ2 : J [] W2 := HJ.out _ _ _ none hJ1 (grown_of_below hbw2 none) (fun r e => by cases e)
  have hr1' : RI W2 W2.heap.size (some ⟨g1, 0, none⟩) EY := (hr1.below hbw2).more hz2
  clear hJ1 j0 j1 j2 j3 j4 j5 k0 k1 k2 k3 k4 k5 k6 hr1
  have hgg1 : m₀ ≤ g1 := by omega
  have hgg2 : m₀ ≤ g2 := by omega
  gi_wp2_with (fail)
  gi_loopw [19] (fun i wr => ∃ a : Nat, a ≤ EX.length ∧ i = .int .i64 a ∧ J (cornersL X Y V (EX.take a) EY) wr ∧ KP n₀ m₀ W wr ∧ RI wr wr.heap.size (some ⟨g1, 0, none⟩) EY ∧ RI wr wr.heap.size (some ⟨g2, 0, none⟩) EX) (fun i _ => EX.length - (intOf i).toNat)
  case atStart => exact ⟨0, Nat.zero_le _, rfl, by simpa [cornersL] using hJ2, q2, hr1', hr2⟩
  case round =>
    obtain ⟨a, ha, rfl, hJa, qa, ra1, ra2⟩ := hrel
    by_cases hlt : a < EX.length
    · obtain ⟨g2', o2, x0, he, hgb, hx0, hcx0⟩ := ra2.at_ hlt
      obtain ⟨rfl, rfl⟩ : g2 = g2' ∧ 0 = o2 := by simpa using he
      have HX0 := Lib.hid hx0
      have hox := HEX.out x0 (List.mem_of_getElem? hx0)
      have HOX := Lib.hid hox
      simp only [Nat.zero_add] at hcx0
      clear hx0 hox he hJ2 q2 hr1' hr2
      gi_wp2_with (fail)
      gi_loopw [25] (fun i wr => ∃ k : Nat, k ≤ EY.length ∧ i = .int .i64 k ∧ J (cornersL X Y V (EX.take a) EY ++ (EY.take k).map (cnOf X Y V x0)) wr ∧ KP n₀ m₀ W wr ∧ RI wr wr.heap.size (some ⟨g1, 0, none⟩) EY ∧ RI wr wr.heap.size (some ⟨g2, 0, none⟩) EX) (fun i _ => EY.length - (intOf i).toNat)
      case atStart => exact ⟨0, Nat.zero_le _, rfl, by simpa using hJa, qa, ra1, ra2⟩
      case round =>
        obtain ⟨k, hk, rfl, hJk, qk, rk1, rk2⟩ := hrel
        by_cases hlk : k < EY.length
        · obtain ⟨g1', o1, y0, he, hgb1, hy0, hcy0⟩ := rk1.at_ hlk
          obtain ⟨rfl, rfl⟩ : g1 = g1' ∧ 0 = o1 := by simpa using he
          have HY0 := Lib.hid hy0
          have hoy := HEY.out y0 (List.mem_of_getElem? hy0)
          have HOY := Lib.hid hoy
          simp only [Nat.zero_add] at hcy0
          obtain ⟨j0, j1, j2, _, _, j5⟩ := HBX.out wr qk
          obtain ⟨rest, hrest⟩ := corn_pre (X := X) (Y := Y) (V := V) HX0.out HY0.out
          have HR := Lib.hid hrest
          have hlen : (cornersL X Y V (EX.take a) EY ++ (EY.take k).map (cnOf X Y V x0)).length < (cornersL X Y V EX EY).length := by rw [hrest]; simp
          have HL := Lib.hid hlen
          clear hrest hlen hy0 hoy he
          gi_wp2_with (fail)
          refine ⟨trivial, fun _ => by omega, ?_⟩
          refine CallsIn.mono (callsIn_wide.2 (at_any AX AY AV _ cx _ cy _ cv B X Y V x0 y0 wr rfl rfl rfl (by have := qk.1.size; omega) j5 HCT.out HOX.out HOY.out)) ?_
          rintro e w1 ⟨rfl, hbw⟩
          have hsz1 := hbw.size
          have hJ1 := HJ.out _ _ _ none hJk (grown_of_below hbw none) (fun r e => by cases e)
          obtain ⟨fn, tmps, assign, body, hy, hR⟩ := HY.out _ (cnOf X Y V x0 y0) w1 (good_of HCT.out HOX.out HOY.out) hJ1 HL.out
          have q3 : KP n₀ m₀ W w1 := qk.trans (KP.of_below hbw (by have := qk.1.size; omega))
          have r31 := (rk1.below hbw).more hsz1
          have r32 := (rk2.below hbw).more hsz1
          clear hJ1 hJk rk1 rk2 hcy0 hcx0 j0 j1 j2 j5
          dsimp only [cnV, cnOf] at hy
          gi_wp2_with (fail)
          refine ⟨fun _ => by omega, hR.mono ?_⟩
          rintro e W3 (⟨rfl, hJ3, hk3⟩ | ⟨rfl, hJx3⟩)
          · have q4 : KP n₀ m₀ W W3 := q3.trans hk3
            have s31 := r31.kc hk3.2 hgg1 hk3.1.size (Nat.le_refl _)
            have s32 := r32.kc hk3.2 hgg2 hk3.1.size (Nat.le_refl _)
            clear hy hR
            gi_wp2
            go_roundw
            case rel =>
              refine ⟨k + 1, by omega, by go_num, ?_, q4, s31, s32⟩
              have : (EY.take (k + 1)).map (cnOf X Y V x0) = (EY.take k).map (cnOf X Y V x0) ++ [cnOf X Y V x0 y0] := by
                rw [List.take_add_one, HY0.out]; simp
              rw [this, ← List.append_assoc]
              exact hJ3
            case measure => simp [intOf]; omega
          · clear hy hR
            gi_wp2
            refine bodyPost_ret (results_none rfl _ _ _) rfl ?_
            exact ⟨⟨_, rfl⟩, .inr ⟨_, ⟨rest, by rw [HR.out]⟩, hJx3⟩⟩
        · gi_wp2
          go_roundw
          case rel =>
            refine ⟨a + 1, by omega, by go_num, ?_, qk, rk1, rk2⟩
            rw [corn_row HX0.out]
            rw [show EY.take k = EY from List.take_of_length_le (by omega)] at hJk
            exact hJk
          case measure => simp [intOf]; omega
    · gi_wp2
      go_end0
      exact ⟨⟨_, rfl⟩, .inl ⟨_, by rw [List.take_of_length_le (by omega)], hJa⟩⟩

abbrev GC := { c : Cn // Good c }
/-- The iterator's contract. -/
theorem corners_stops (n : Nat) (hn : 3 ≤ n) (bT bX bY n₀ m₀ B : Nat) (AX AY AV : Option Addr) (cx cy cv : Nat) (X Y : List Int) (V : List (List Int)) (x1 x2 y1 y2 : Int) (EX EY : List Int) (hEXe : Hid (endsL X x1 x2 = EX)) (hEYe : Hid (endsL Y y1 y2 = EY))
    (hct : ctB X Y V = true) (hx1 : On X x1) (hx2 : On X x2) (hy1 : On Y y1) (hy2 : On Y y2)
    (hT : m₀ ≤ bT) (hX : m₀ ≤ bX) (hBn : B ≤ n₀) (hnm : n₀ ≤ m₀)
    (w : World) (hm : m₀ ≤ w.heap.size) (hb : TB w B AX AY AV X Y V)
    (k0 : w.cell? ⟨bT, 0, none⟩ = some (.slice AX X.length cx)) (k1 : w.cell? ⟨bT, 1, none⟩ = some (.slice AY Y.length cy)) (k2 : w.cell? ⟨bT, 2, none⟩ = some (.slice AV V.length cv))
    (k3 : w.cell? ⟨bX, 0, none⟩ = some (.int .i64 x1)) (k4 : w.cell? ⟨bX, 1, none⟩ = some (.int .i64 x2)) (k5 : w.cell? ⟨bY, 0, none⟩ = some (.int .i64 y1)) (k6 : w.cell? ⟨bY, 1, none⟩ = some (.int .i64 y2)) :
    SeqStopsK Fence.wide n Try.prog 111 #[.pointer (some ⟨bT, 0, none⟩), .pointer (some ⟨bY, 0, none⟩), .pointer (some ⟨bX, 0, none⟩)] (fun x : GC => #[cnV x.1]) (KP n₀ m₀) (fun ys => ys.map (·.1) = cornersL X Y V EX EY) (fun pre => pre.map (·.1) <+: cornersL X Y V EX EY)
      (cornersL X Y V EX EY).length w := fun l J Jx W hW hJ _ hY h0 => by
  have hs := hW.size
  refine (corners1_in n hn l bT bX bY n₀ m₀ B AX AY AV cx cy cv X Y V x1 x2 y1 y2 EX EY hEXe hEYe (fun p W => ∃ q : List GC, q.map (·.1) = p ∧ J q W) (fun p W => ∃ q : List GC, q.map (·.1) = p ∧ Jx q W) hct hx1 hx2 hy1 hy2 hT hX hBn hnm W (by omega) ?_ ?_ (hb.below (hW.mono (by omega)))
    (cell_keep hW k0) (cell_keep hW k1) (cell_keep hW k2) (cell_keep hW k3) (cell_keep hW k4) (cell_keep hW k5) (cell_keep hW k6) ⟨[], rfl, h0⟩).mono ?_
  · rintro p A C row ⟨q, hq, hj⟩ hg hr
    exact ⟨q, hq, hJ q A C row hj hg hr⟩
  · rintro p x W1 hgx ⟨q, rfl, hj⟩ hl
    refine (hY q ⟨x, hgx⟩ W1 hj (by simpa using hl)).mono ?_
    rintro e W' (⟨h1, h2, h3⟩ | ⟨h1, h2⟩)
    · exact .inl ⟨h1, ⟨_, by simp, h2⟩, h3⟩
    · exact .inr ⟨h1, ⟨_, by simp, h2⟩⟩
  · rintro e W' ⟨hv, ⟨ys, rfl, q, hq, hj⟩ | ⟨p, hp, q, rfl, hj⟩⟩
    · exact ⟨hv, .inl ⟨q, hq, hj⟩⟩
    · exact ⟨hv, .inr ⟨q, hp, hj⟩⟩

theorem corners_any (AX AY AV : Option Addr) (nx cx ny cy nv cv : Nat) (x1 x2 y1 y2 : Int) (w : World) :
    Calls Try.prog 96 #[.agg #[.slice AX nx cx, .slice AY ny cy, .slice AV nv cv], .agg #[.int .i64 x1, .int .i64 x2], .agg #[.int .i64 y1, .int .i64 y2]] w fun e w' =>
      e = .returned (.func (.func 111) #[] #[.pointer (some ⟨w.heap.size, 0, none⟩), .pointer (some ⟨w.heap.size + 1 + 1, 0, none⟩), .pointer (some ⟨w.heap.size + 1, 0, none⟩)]) ∧
      ((w.alloc (.cells #[.slice AX nx cx, .slice AY ny cy, .slice AV nv cv] 27)).alloc (.cells #[.int .i64 x1, .int .i64 x2] 37)).alloc (.cells #[.int .i64 y1, .int .i64 y2] 37) = w' := by
  have hmf : ∀ (fn : Fn) (first cap : Array Value) (w : World), (Instr.makeFunc fn first cap).run Try.prog w = .ok (.func fn first cap) w := fun _ _ _ _ => rfl
  go_enter Try.func96, Try.ntmps96
  go_wp2
  go_ret
  exact ⟨rfl, rfl⟩

end Go.Proofs.Ytjdahphnmeaolaa

/- Contracts of the functions that the statement reaches: Base, Pure, Whole, Span, Tab, Pure2, Val, Ends, Box, At, Corn, Inv. -/
import Derived.Test.YthhokiigdgpmcaaRows
import Derived.WalkKit
import Derived.WalkSpells
import Derived.WalkLawsBesides
import Derived.Handy
import Derived.Lib.Hide
import Derived.Deep.AppendLies
import Derived.Deep.Draws
import Derived.Deep.QuietTactic
import Derived.BigQuiet
import Derived.Lib.MinMax
import Derived.Deep.RegionWith
import Derived.Deep.RegionHeld3
import Derived.StillTailTactics
import Derived.Deep.CutRange
import Derived.Deep.DeepCutAuto
import Derived.Deep.LoopGhost
import Derived.Deep.DeepFit
import Derived.IntWalk
import Derived.Maps.AppendAt
import Derived.RangeFuncBox
import Derived.RangeFuncNested
import Derived.RangeFuncBound
import Derived.RangeFuncCalls
import Derived.RangeFuncLeaves
import Derived.Shelf.Abstract
import Derived.Shelf.RegionOpen
import Derived.OwnWalkIn
import Derived.TacticsInMore
import Derived.LoopNIn
import Derived.LoopIn
import Derived.OrdersIn
import Derived.CallsIn
import Derived.ControlIn
import Derived.Laws.World

/- Words and small lemmas for memory, used by the walks. -/
namespace Go.Proofs.Ythhokiigdgpmcaa
open Go.RowKit

/-- The slice with the pointer A reads as the cells xs (one cell an element), and lies below block B. -/
def RV (w : World) (B : Nat) (A : Option Addr) (xs : List Value) : Prop :=
  0 < xs.length → ∃ b off, A = some ⟨b, off, none⟩ ∧ b < B ∧ ∀ j u, xs[j]? = some u → w.cell? ⟨b, off + j, none⟩ = some u

section
variable {w w' : World} {B B' : Nat} {A : Option Addr} {xs : List Value}
theorem RV.at_ {k : Nat} (h : RV w B A xs) (hk : k < xs.length) : ∃ b off u, A = some ⟨b, off, none⟩ ∧ b < B ∧ xs[k]? = some u ∧ w.cell? ⟨b, off + k, none⟩ = some u := by
  obtain ⟨b, off, e, hb, hc⟩ := h (by omega)
  exact ⟨b, off, xs[k], e, hb, List.getElem?_eq_getElem hk, hc k _ (List.getElem?_eq_getElem hk)⟩
theorem RV.keep (h : RV w B A xs) (hk : ∀ p : Addr, p.block < B → w'.cell? p = w.cell? p) : RV w' B A xs := fun hn => by
  obtain ⟨b, off, e, hb, hc⟩ := h hn
  exact ⟨b, off, e, hb, fun j u hu => (hk _ hb).trans (hc j u hu)⟩
theorem RV.more (h : RV w B A xs) (hB : B ≤ B') : RV w B' A xs := fun hn => by
  obtain ⟨b, off, e, hb, hc⟩ := h hn
  exact ⟨b, off, e, by omega, hc⟩
theorem RV.below (h : RV w B A xs) (hb : Below B w w') : RV w' B A xs := h.keep fun _ hp => hb.cell hp
theorem RV.nil : RV w B A [] := fun h => absurd h (by simp)
end

/-- A slice of ints. -/
def RI (w : World) (B : Nat) (A : Option Addr) (xs : List Int) : Prop := RV w B A (xs.map (Value.int .i64))

section
variable {w w' : World} {B B' : Nat} {A : Option Addr} {xs : List Int}
theorem RI.at_ {k : Nat} (h : RI w B A xs) (hk : k < xs.length) : ∃ b off x, A = some ⟨b, off, none⟩ ∧ b < B ∧ xs[k]? = some x ∧ w.cell? ⟨b, off + k, none⟩ = some (.int .i64 x) := by
  obtain ⟨b, off, u, e, hb, hu, hc⟩ := RV.at_ h (k := k) (by simpa using hk)
  simp only [List.getElem?_map, Option.map_eq_some_iff] at hu
  obtain ⟨x, hx, rfl⟩ := hu
  exact ⟨b, off, x, e, hb, hx, hc⟩
theorem RI.below (h : RI w B A xs) (hb : Below B w w') : RI w' B A xs := RV.below h hb
theorem cell_newest (w : World) (cs : Array Value) (T : TypeId) (m : Nat × Nat) (o : Nat) : (w.alloc (.cells cs T m)).cell? ⟨w.heap.size, o, none⟩ = cs[o]? := by
  show (match (w.heap.push (.cells cs T m))[w.heap.size]? with | some (.cells c _ _) => if (none : Option Nat).isSome then none else c[o]? | _ => none) = _
  simp
theorem RI.drew {w : World} {B : Nat} {A : Option Addr} {xs : List Int} (h : RI w B A xs) : RI w.drew B A xs := h
theorem RI.drewN {w : World} {B : Nat} {A : Option Addr} {xs : List Int} (h : RI w B A xs) (k : Nat) : RI (w.drewN k) B A xs := h
theorem RI.new1 {w : World} {x : Int} {T : TypeId} {m : Nat × Nat} {b : Nat} (hb : w.heap.size = b) : RI (w.alloc (.cells #[.int .i64 x] T m)) (b + 1) (some ⟨b, 0, none⟩) [x] := fun _ =>
  ⟨_, _, rfl, by omega, fun j u hu => by
    subst hb
    match j, hu with
    | 0, hu => simp at hu; subst hu; rw [cell_newest]; rfl
    | j + 1, hu => simp at hu⟩
theorem RI.new2 {w : World} {x y : Int} {T : TypeId} {m : Nat × Nat} {b : Nat} (hb : w.heap.size = b) : RI (w.alloc (.cells #[.int .i64 x, .int .i64 y] T m)) (b + 1) (some ⟨b, 0, none⟩) [x, y] := fun _ =>
  ⟨_, _, rfl, by omega, fun j u hu => by
    subst hb
    match j, hu with
    | 0, hu => simp at hu; subst hu; rw [cell_newest]; rfl
    | 1, hu => simp at hu; subst hu; rw [cell_newest]; rfl
    | j + 2, hu => simp at hu⟩

/-- A slice of spans. -/
def RS (w : World) (B : Nat) (A : Option Addr) (l : List (Int × Int)) : Prop :=
  0 < l.length → ∃ b off, A = some ⟨b, off, none⟩ ∧ b < B ∧ ∀ j p, l[j]? = some p → w.cell? ⟨b, off + j * 2, none⟩ = some (.int .i64 p.1) ∧ w.cell? ⟨b, off + j * 2 + 1, none⟩ = some (.int .i64 p.2)
theorem RS.at_ {l : List (Int × Int)} {k : Nat} (h : RS w B A l) (hk : k < l.length) : ∃ b off p, A = some ⟨b, off, none⟩ ∧ b < B ∧ l[k]? = some p ∧ w.cell? ⟨b, off + k * 2, none⟩ = some (.int .i64 p.1) ∧ w.cell? ⟨b, off + k * 2 + 1, none⟩ = some (.int .i64 p.2) := by
  obtain ⟨b, off, e, hb, hc⟩ := h (by omega)
  exact ⟨b, off, l[k], e, hb, List.getElem?_eq_getElem hk, hc k _ (List.getElem?_eq_getElem hk)⟩
theorem RS.keep {l : List (Int × Int)} (h : RS w B A l) (hk : ∀ p : Addr, p.block < B → w'.cell? p = w.cell? p) : RS w' B A l := fun hn => by
  obtain ⟨b, off, e, hb, hc⟩ := h hn
  exact ⟨b, off, e, hb, fun j u hu => ⟨(hk _ hb).trans (hc j u hu).1, (hk _ hb).trans (hc j u hu).2⟩⟩
theorem RS.below {l : List (Int × Int)} (h : RS w B A l) (hb : Below B w w') : RS w' B A l := h.keep fun _ hp => hb.cell hp
theorem RS.more {l : List (Int × Int)} (h : RS w B A l) (hB : B ≤ B') : RS w B' A l := fun hn => by
  obtain ⟨b, off, e, hb, hc⟩ := h hn
  exact ⟨b, off, e, by omega, hc⟩

/-- A slice of slices of ints. -/
def RR (w : World) (B : Nat) (A : Option Addr) (V : List (List Int)) : Prop :=
  0 < V.length → ∃ b off, A = some ⟨b, off, none⟩ ∧ b < B ∧ ∀ j r, V[j]? = some r → ∃ A' c', w.cell? ⟨b, off + j, none⟩ = some (.slice A' r.length c') ∧ RI w B A' r
theorem RR.at_ {V : List (List Int)} {k : Nat} (h : RR w B A V) (hk : k < V.length) : ∃ b off r A' c', A = some ⟨b, off, none⟩ ∧ b < B ∧ V[k]? = some r ∧ w.cell? ⟨b, off + k, none⟩ = some (.slice A' r.length c') ∧ RI w B A' r := by
  obtain ⟨b, off, e, hb, hc⟩ := h (by omega)
  obtain ⟨A', c', h1, h2⟩ := hc k _ (List.getElem?_eq_getElem hk)
  exact ⟨b, off, V[k], A', c', e, hb, List.getElem?_eq_getElem hk, h1, h2⟩
theorem RR.keep {V : List (List Int)} (h : RR w B A V) (hk : ∀ p : Addr, p.block < B → w'.cell? p = w.cell? p) : RR w' B A V := fun hn => by
  obtain ⟨b, off, e, hb, hc⟩ := h hn
  refine ⟨b, off, e, hb, fun j r hr => ?_⟩
  obtain ⟨A', c', h1, h2⟩ := hc j r hr
  exact ⟨A', c', (hk _ hb).trans h1, RV.keep h2 hk⟩
theorem RR.below {V : List (List Int)} (h : RR w B A V) (hb : Below B w w') : RR w' B A V := h.keep fun _ hp => hb.cell hp
theorem RR.more {V : List (List Int)} (h : RR w B A V) (hB : B ≤ B') : RR w B' A V := fun hn => by
  obtain ⟨b, off, e, hb, hc⟩ := h hn
  refine ⟨b, off, e, by omega, fun j r hr => ?_⟩
  obtain ⟨A', c', h1, h2⟩ := hc j r hr
  exact ⟨A', c', h1, RV.more h2 hB⟩

/-- A table. -/
structure TB (w : World) (B : Nat) (AX AY AV : Option Addr) (X Y : List Int) (V : List (List Int)) : Prop where
  x : RI w B AX X
  y : RI w B AY Y
  v : RR w B AV V
theorem TB.below {AX AY AV : Option Addr} {X Y : List Int} {V : List (List Int)} (h : TB w B AX AY AV X Y V) (hb : Below B w w') : TB w' B AX AY AV X Y V := ⟨h.x.below hb, h.y.below hb, h.v.below hb⟩
theorem TB.more {AX AY AV : Option Addr} {X Y : List Int} {V : List (List Int)} (h : TB w B AX AY AV X Y V) (hB : B ≤ B') : TB w B' AX AY AV X Y V := ⟨h.x.more hB, h.y.more hB, h.v.more hB⟩

theorem quiet_add {P : Program} {f : FuncId} {args : Array Value} {w : World} {a n : Nat} {v : Value}
    (h : Calls P f args (w.drewN (a + n)) fun e w' => e = .returned v ∧ w.drewN (a + n) = w') :
    Calls P f args (w.drewN (a + n)) fun e w'' => e = .returned v ∧ ∃ m, w'' = w.drewN (a + m) :=
  h.mono fun _ _ ⟨he, hm⟩ => ⟨he, n, hm.symm⟩
theorem quiet_left {P : Program} {f : FuncId} {args : Array Value} {w : World} {n : Nat} {v : Value}
    (h : Calls P f args (w.drewN n) fun e w' => e = .returned v ∧ w.drewN n = w') : Calls P f args (w.drewN n) fun e w'' => e = .returned v ∧ ∃ m, w'' = w.drewN m :=
  h.mono fun _ _ ⟨he, hm⟩ => ⟨he, n, hm.symm⟩

theorem region_tail {P : Program} {id : Nat} {Q : Exit → Act → World → Prop} {a : Act} {w : World} {l : List Oper} (n : Nat) (hm : P.follows .mixedOrders = true) (hB : Region.lexTailB .any l.toArray n = true)
    (h : wpStill P l.toArray w.drew (fun a' => wpList P l.toArray Q (l.drop n) a' w.drew) (l.take n) a) : (Code.region id l.toArray true).wp P Q a w := wp_region_still_tail n hm hB h

/-- A cell that was there reads as it did. -/
theorem cell_keep {W w1 : World} (hb : Below W.heap.size W w1) {b o : Nat} {v : Value} (h : W.cell? ⟨b, o, none⟩ = some v) : w1.cell? ⟨b, o, none⟩ = some v :=
  (hb.cell (p := ⟨b, o, none⟩) (World.block_lt_of_cell? W _ h)).trans h

theorem le_maxLen {n : Nat} (h : n ≤ 1000000) : n ≤ maxLen := by unfold maxLen; omega

theorem bcell {W w1 : World} (hb : Below W.heap.size W w1) : (∀ b o, b < W.heap.size → w1.cell? ⟨b, o, none⟩ = W.cell? ⟨b, o, none⟩) ∧ (∀ b o, b < W.heap.size → w1.frozen? ⟨b, o, none⟩ = W.frozen? ⟨b, o, none⟩) :=
  ⟨fun b o h => hb.cell (p := ⟨b, o, none⟩) h, fun b o h => hb.frozen (p := ⟨b, o, none⟩) h⟩
theorem ret_int {k : IntKind} {a b : Int} (h : a = b) : Ending.returned (.int k a) = .returned (.int k b) := by rw [h]
theorem ret_bool {a b : Bool} (h : a = b) : Ending.returned (.bool a) = .returned (.bool b) := by rw [h]
theorem RI.more (h : RI w B A xs) (hB : B ≤ B') : RI w B' A xs := RV.more h hB
end

end Go.Proofs.Ythhokiigdgpmcaa

/- Plain mathematics: no program. -/
namespace Go.Proofs.Ythhokiigdgpmcaa

/-- whole.Floor, whole.Ceil. -/
def fl (a b : Int) : Int := a / b
def cl (a b : Int) : Int := -((-a) / b)
/-- whole.Within. -/
def wB (lo hi : Int) (xs : List Int) : Bool := xs.all fun n => decide (lo ≤ n) && decide (n ≤ hi)

theorem fl_tdiv_neg {a b : Int} (hb : 1 ≤ b) (h : a.tmod b < 0) : a.tdiv b - 1 = fl a b := by
  unfold fl
  have h1 := Int.mul_tdiv_add_tmod a b
  have h2 := Int.mul_ediv_add_emod a b
  have h3 := Int.emod_nonneg a (show b ≠ 0 by omega)
  have h4 := Int.emod_lt_of_pos a (show 0 < b by omega)
  have h5 : -b < a.tmod b := by
    have := Int.lt_tmod_of_pos a (show 0 < b by omega)
    omega
  have h6 : b * (a.tdiv b - 1 - a / b) = a % b - a.tmod b - b := by grind
  rcases Int.lt_trichotomy (a.tdiv b - 1 - a / b) 0 with h | h | h
  · have : b * (a.tdiv b - 1 - a / b) ≤ b * (-1) := Int.mul_le_mul_of_nonneg_left (by omega) (by omega)
    omega
  · omega
  · have : b * 1 ≤ b * (a.tdiv b - 1 - a / b) := Int.mul_le_mul_of_nonneg_left (by omega) (by omega)
    omega

theorem fl_tdiv_pos {a b : Int} (hb : 1 ≤ b) (h : 0 ≤ a.tmod b) : a.tdiv b = fl a b := by
  unfold fl
  have h1 := Int.mul_tdiv_add_tmod a b
  have h2 := Int.mul_ediv_add_emod a b
  have h3 := Int.emod_nonneg a (show b ≠ 0 by omega)
  have h4 := Int.emod_lt_of_pos a (show 0 < b by omega)
  have h5 : a.tmod b < b := Int.tmod_lt_of_pos a (by omega)
  have h6 : b * (a.tdiv b - a / b) = a % b - a.tmod b := by grind
  rcases Int.lt_trichotomy (a.tdiv b - a / b) 0 with h | h | h
  · have : b * (a.tdiv b - a / b) ≤ b * (-1) := Int.mul_le_mul_of_nonneg_left (by omega) (by omega)
    omega
  · omega
  · have : b * 1 ≤ b * (a.tdiv b - a / b) := Int.mul_le_mul_of_nonneg_left (by omega) (by omega)
    omega

theorem tdiv_bd {a b M : Int} (h1 : -M ≤ a) (h2 : a ≤ M) : -M ≤ a.tdiv b ∧ a.tdiv b ≤ M := by
  have h := Int.natAbs_tdiv_le_natAbs a b
  omega

theorem fl_bd {a b M : Int} (hb : 1 ≤ b) (h1 : -M ≤ a) (h2 : a ≤ M) : -M ≤ fl a b ∧ fl a b ≤ M := by
  unfold fl
  by_cases h0 : 0 ≤ a
  · have := Int.ediv_nonneg h0 (show 0 ≤ b by omega)
    have := Int.ediv_le_self b h0
    omega
  · have h3 := Int.ediv_neg_of_neg_of_pos (show a < 0 by omega) (show 0 < b by omega)
    have h4 : a ≤ a / b := by
      rw [Int.le_ediv_iff_mul_le (by omega)]
      have : a * b ≤ a * 1 := Int.mul_le_mul_of_nonpos_left (by omega) (by omega)
      omega
    omega

theorem wB_step {lo hi x : Int} {xs : List Int} {k : Nat} (hx : xs[k]? = some x) : wB lo hi (xs.take (k + 1)) = (wB lo hi (xs.take k) && (decide (lo ≤ x) && decide (x ≤ hi))) := by
  unfold wB
  rw [List.take_add_one, hx]
  simp

theorem wB_bad {lo hi x : Int} {xs : List Int} {k : Nat} (hx : xs[k]? = some x) (h : x < lo ∨ hi < x) : wB lo hi xs = false := by
  unfold wB
  rw [List.all_eq_false]
  obtain ⟨hk, rfl⟩ := List.getElem?_eq_some_iff.1 hx
  exact ⟨_, List.getElem_mem hk, by simp; omega⟩

theorem wB_mem {lo hi x : Int} {xs : List Int} {k : Nat} (h : wB lo hi xs = true) (hx : xs[k]? = some x) : lo ≤ x ∧ x ≤ hi := by
  unfold wB at h
  rw [List.all_eq_true] at h
  obtain ⟨hk, rfl⟩ := List.getElem?_eq_some_iff.1 hx
  have := h _ (List.getElem_mem hk)
  simp at this
  omega

/-- The steps of an axis. -/
def stN (X : List Int) (n : Nat) : Bool := (List.range n).all fun j => decide (1 ≤ X[j + 1]?.getD 0 - X[j]?.getD 0) && decide (X[j + 1]?.getD 0 - X[j]?.getD 0 ≤ 10000)
def axB (X : List Int) : Bool := decide (2 ≤ X.length) && decide (X.length ≤ 12) && wB (-1000000) 1000000 X && stN X (X.length - 1)

theorem stN_step (X : List Int) (n : Nat) : stN X (n + 1) = (stN X n && (decide (1 ≤ X[n + 1]?.getD 0 - X[n]?.getD 0) && decide (X[n + 1]?.getD 0 - X[n]?.getD 0 ≤ 10000))) := by
  unfold stN
  rw [List.range_succ, List.all_append]
  simp
theorem stN_bad {X : List Int} {n m : Nat} (h : m < n) (hm : X[m + 1]?.getD 0 - X[m]?.getD 0 < 1 ∨ 10000 < X[m + 1]?.getD 0 - X[m]?.getD 0) : stN X n = false := by
  unfold stN
  rw [List.all_eq_false]
  exact ⟨m, List.mem_range.2 h, by simp; omega⟩
theorem stN_get {X : List Int} {n m : Nat} (h : stN X n = true) (hm : m < n) : 1 ≤ X[m + 1]?.getD 0 - X[m]?.getD 0 ∧ X[m + 1]?.getD 0 - X[m]?.getD 0 ≤ 10000 := by
  unfold stN at h
  rw [List.all_eq_true] at h
  have := h m (List.mem_range.2 hm)
  simp at this
  omega

/-- CheckTable. -/
def rowsB (n : Nat) (V : List (List Int)) : Bool := V.all fun r => decide (r.length = n) && wB (-1000000) 1000000 r
def ctB (X Y : List Int) (V : List (List Int)) : Bool := axB X && axB Y && decide (V.length = X.length) && rowsB Y.length V
def ctE (X Y : List Int) (V : List (List Int)) : Int := if ctB X Y V then 0 else 11
theorem ctE_yes {X Y : List Int} {V : List (List Int)} (h : ctB X Y V = true) : ctE X Y V = 0 := by unfold ctE; rw [h]; rfl
theorem ctE_no {X Y : List Int} {V : List (List Int)} (h : ctB X Y V = false) : ctE X Y V = 11 := by unfold ctE; rw [h]; rfl
theorem rowsB_step {n k : Nat} {V : List (List Int)} {r : List Int} (hr : V[k]? = some r) : rowsB n (V.take (k + 1)) = (rowsB n (V.take k) && (decide (r.length = n) && wB (-1000000) 1000000 r)) := by
  unfold rowsB
  rw [List.take_add_one, hr]
  simp
theorem rowsB_bad {n k : Nat} {V : List (List Int)} {r : List Int} (hr : V[k]? = some r) (h : (decide (r.length = n) && wB (-1000000) 1000000 r) = false) : rowsB n V = false := by
  unfold rowsB
  rw [List.all_eq_false]
  obtain ⟨hk, rfl⟩ := List.getElem?_eq_some_iff.1 hr
  exact ⟨_, List.getElem_mem hk, by simp [h]⟩
theorem rowsB_get {n k : Nat} {V : List (List Int)} {r : List Int} (h : rowsB n V = true) (hr : V[k]? = some r) : r.length = n ∧ wB (-1000000) 1000000 r = true := by
  unfold rowsB at h
  rw [List.all_eq_true] at h
  obtain ⟨hk, rfl⟩ := List.getElem?_eq_some_iff.1 hr
  have := h _ (List.getElem_mem hk)
  simpa using this

end Go.Proofs.Ythhokiigdgpmcaa

/- whole.Floor, Ceil, Within. -/
namespace Go.Proofs.Ythhokiigdgpmcaa
open Go.RowKit

theorem floor_any (a b : Int) (w : World) (h1 : 1 ≤ b) (h2 : b ≤ 1000000000000000000) (h3 : -1000000000000000000 ≤ a) (h4 : a ≤ 1000000000000000000) :
    Calls Try.prog 84 #[.int .i64 a, .int .i64 b] w fun e w' => e = .returned (.int .i64 (fl a b)) ∧ w = w' := by
  have hd := tdiv_bd (b := b) h3 h4
  go_enter Try.func84, Try.ntmps84
  go_wp2
  all_goals go_ret
  · exact ⟨ret_int (fl_tdiv_neg h1 (by assumption)), rfl⟩
  · exact ⟨ret_int (fl_tdiv_pos h1 (by assumption)), rfl⟩

theorem ceil_any (a b : Int) (w : World) (h1 : 1 ≤ b) (h2 : b ≤ 1000000000000000000) (h3 : -1000000000000000000 ≤ a) (h4 : a ≤ 1000000000000000000) :
    Calls Try.prog 85 #[.int .i64 a, .int .i64 b] w fun e w' => e = .returned (.int .i64 (cl a b)) ∧ w = w' := by
  have hd := fl_bd (a := -a) h1 (M := 1000000000000000000) (by omega) (by omega)
  go_enter Try.func85, Try.ntmps85
  go_wp2_with (go_at_call 84; refine (floor_any _ _ _ h1 h2 (by omega) (by omega)).mono ?_; rintro e w' ⟨rfl, rfl⟩)
  go_ret
  exact ⟨rfl, rfl⟩

theorem within_any (lo hi : Int) (A : Option Addr) (n c B : Nat) (xs : List Int) (w : World) (hx : xs.length = n) (hn : n ≤ maxLen) (h : RI w B A xs) :
    Calls Try.prog 53 #[.int .i64 lo, .int .i64 hi, .slice A n c] w fun e w' => e = .returned (.bool (wB lo hi xs)) ∧ w = w' := by
  subst hx
  unfold maxLen at hn
  go_enter Try.func53, Try.ntmps53
  go_wp2
  go_loop [11] (fun i => ∃ k : Nat, k ≤ xs.length ∧ i = .int .i64 k ∧ wB lo hi (xs.take k) = true) (fun i => xs.length - (intOf i).toNat)
  case atStart => exact ⟨0, Nat.zero_le _, rfl, by simp [wB]⟩
  case round =>
    obtain ⟨k, hk, rfl, hw⟩ := hrel
    by_cases hlt : k < xs.length
    · obtain ⟨b, off, x, rfl, hb, hx, hc⟩ := h.at_ hlt
      have HX := Lib.hid hx
      clear hx
      by_cases h1 : x < lo
      · go_wp2
        go_ret
        exact ⟨ret_bool (wB_bad HX.out (.inl h1)).symm, rfl⟩
      by_cases h2 : hi < x
      · go_wp2
        go_ret
        exact ⟨ret_bool (wB_bad HX.out (.inr h2)).symm, rfl⟩
      · go_wp2
        go_round
        case rel => exact ⟨k + 1, by omega, by go_num, by rw [wB_step HX.out, hw]; simp; omega⟩
        case measure => simp [intOf]; omega
    · go_wp2
      go_ret
      exact ⟨ret_bool (by rw [← hw, List.take_of_length_le (by omega)]), rfl⟩

end Go.Proofs.Ythhokiigdgpmcaa

/- spans.span, valid, common, value's methods. -/
namespace Go.Proofs.Ythhokiigdgpmcaa
open Go.RowKit

def vS (p : Int × Int) : Bool := decide (p.1 ≤ p.2) && wB (-1000000) 1000000 [p.1, p.2]

theorem span_any (a b : Int) (w : World) :
    Calls Try.prog 72 #[.int .i64 a, .int .i64 b] w fun e w' => e = .returned (.agg #[.int .i64 a, .int .i64 b]) ∧ Below w.heap.size w w' := by
  go_enter Try.func72, Try.ntmps72
  go_wp2
  go_returns
  exact ⟨rfl, by go_grown⟩

theorem vfloor_any (a b : Int) (w : World) (h1 : 1 ≤ b) (h2 : b ≤ 1000000000000000000) (h3 : -1000000000000000000 ≤ a) (h4 : a ≤ 1000000000000000000) :
    Calls Try.prog 74 #[.agg #[.int .i64 a, .int .i64 b]] w fun e w' => e = .returned (.int .i64 (fl a b)) ∧ Below w.heap.size w w' := by
  go_enter Try.func74, Try.ntmps74
  go_wp2_with (go_at_call 84; refine (floor_any _ _ _ h1 h2 h3 h4).mono ?_; rintro e w' ⟨rfl, rfl⟩)
  go_returns
  exact ⟨rfl, by go_grown⟩

theorem vceil_any (a b : Int) (w : World) (h1 : 1 ≤ b) (h2 : b ≤ 1000000000000000000) (h3 : -1000000000000000000 ≤ a) (h4 : a ≤ 1000000000000000000) :
    Calls Try.prog 75 #[.agg #[.int .i64 a, .int .i64 b]] w fun e w' => e = .returned (.int .i64 (cl a b)) ∧ Below w.heap.size w w' := by
  go_enter Try.func75, Try.ntmps75
  go_wp2_with (go_at_call 85; refine (ceil_any _ _ _ h1 h2 h3 h4).mono ?_; rintro e w' ⟨rfl, rfl⟩)
  go_returns
  exact ⟨rfl, by go_grown⟩

theorem vS_bad {l : List (Int × Int)} {k : Nat} {x1 x2 : Int} (hx : l[k]? = some (x1, x2)) (h : vS (x1, x2) = false) : l.all vS = false := by
  rw [List.all_eq_false]
  obtain ⟨hk, e⟩ := List.getElem?_eq_some_iff.1 hx
  exact ⟨_, List.getElem_mem hk, by rw [e, h]; simp⟩
theorem vS_step {l : List (Int × Int)} {k : Nat} {x : Int × Int} (hx : l[k]? = some x) : (l.take (k + 1)).all vS = ((l.take k).all vS && vS x) := by
  rw [List.take_add_one, hx]
  simp

theorem valid_any (A : Option Addr) (n c B : Nat) (l : List (Int × Int)) (w : World) (hx : l.length = n) (hn : n ≤ maxLen) (hB : B ≤ w.heap.size) (h : RS w B A l) :
    Calls Try.prog 82 #[.slice A n c] w fun e w' => e = .returned (.bool (l.all vS)) ∧ Below w.heap.size w w' := by
  subst hx
  unfold maxLen at hn
  go_enter Try.func82, Try.ntmps82
  go_wp2
  go_loopw [7] (fun i wr => ∃ k : Nat, k ≤ l.length ∧ i = .int .i64 k ∧ (l.take k).all vS = true ∧ Below w.heap.size w wr) (fun i _ => l.length - (intOf i).toNat)
  case atStart => exact ⟨0, Nat.zero_le _, rfl, by simp, Below.refl _ _⟩
  case round =>
    obtain ⟨k, hk, rfl, hw, hbw⟩ := hrel
    have hsz := hbw.size
    by_cases hlt : k < l.length
    · obtain ⟨b, off, x, rfl, hb, hx, hc1, hc2⟩ := ((h.more hB).below hbw).at_ hlt
      have hb' : b < wr.heap.size := by omega
      obtain ⟨x1, x2⟩ := x
      simp only at hc1 hc2
      have HX := Lib.hid hx
      clear hx
      have HW := Lib.hid hw
      clear hw
      by_cases h1 : x2 < x1
      · go_wp2
        go_ret
        exact ⟨ret_bool (vS_bad HX.out (by simp [vS]; omega)).symm, by go_grown⟩
      cases hv : wB (-1000000) 1000000 [x1, x2] with
      | false =>
        have HV := Lib.hid hv
        clear hv
        go_wp2_with (go_at_call 53; refine (within_any (-1000000) 1000000 _ 2 _ _ [x1, x2] _ rfl (le_maxLen (by omega)) (RI.new2 (by simp))).mono ?_; rintro e w' ⟨rfl, rfl⟩; rw [HV.out])
        go_ret
        exact ⟨ret_bool (vS_bad HX.out (by simp [vS, HV.out])).symm, by go_grown⟩
      | true =>
        have HV := Lib.hid hv
        clear hv
        go_wp2_with (go_at_call 53; refine (within_any (-1000000) 1000000 _ 2 _ _ [x1, x2] _ rfl (le_maxLen (by omega)) (RI.new2 (by simp))).mono ?_; rintro e w' ⟨rfl, rfl⟩; rw [HV.out])
        go_roundw
        case rel => exact ⟨k + 1, by omega, by go_num, by rw [vS_step HX.out, HW.out]; simp [vS, HV.out]; omega, by go_grown⟩
        case measure => simp [intOf]; omega
    · go_wp2
      go_ret
      exact ⟨ret_bool (by rw [← hw, List.take_of_length_le (by omega)]), hbw⟩

end Go.Proofs.Ythhokiigdgpmcaa

/- spans.axis, onAxis, CheckTable. -/
namespace Go.Proofs.Ythhokiigdgpmcaa
open Go.RowKit

set_option maxHeartbeats 400000 in
theorem axis_any (A : Option Addr) (n c B : Nat) (X : List Int) (w : World) (hx : X.length = n) (hn : n ≤ maxLen) (hB : B ≤ w.heap.size) (h : RI w B A X) :
    Calls Try.prog 123 #[.slice A n c] w fun e w' => e = .returned (.bool (axB X)) ∧ Below w.heap.size w w' := by
  subst hx
  have hn' := hn
  unfold maxLen at hn'
  cases h1 : wB 2 12 [(X.length : Int)] with
  | false =>
    have e1 : axB X = false := by unfold axB; simp [wB] at h1 ⊢; omega
    go_enter Try.func123, Try.ntmps123
    go_wp2_with (go_at_call 53; refine (within_any 2 12 _ 1 _ _ [(X.length : Int)] _ rfl (le_maxLen (by omega)) (RI.new1 (by simp))).mono ?_; rintro e w' ⟨rfl, rfl⟩)
    go_ret
    exact ⟨ret_bool e1.symm, by go_grown⟩
  | true =>
    have hl : 2 ≤ X.length ∧ X.length ≤ 12 := by simp [wB] at h1; omega
    obtain ⟨hl1, hl2⟩ := hl
    cases h2 : wB (-1000000) 1000000 X with
    | false =>
      have e1 : axB X = false := by unfold axB; simp [h2]
      go_enter Try.func123, Try.ntmps123
      go_wp2_with (first
        | (go_at_call_of 53 (Value.int .i64 12); refine (within_any 2 12 _ 1 _ _ [(X.length : Int)] _ rfl (le_maxLen (by omega)) (RI.new1 (by simp))).mono ?_; rintro e w' ⟨rfl, rfl⟩)
        | (go_at_call_of 53 (Value.int .i64 1000000); refine (within_any (-1000000) 1000000 _ _ _ _ X _ rfl hn (h.below (by go_grown))).mono ?_; rintro e w' ⟨rfl, rfl⟩))
      go_ret
      exact ⟨ret_bool e1.symm, by go_grown⟩
    | true =>
      go_enter Try.func123, Try.ntmps123
      go_wp2_with (first
        | (go_at_call_of 53 (Value.int .i64 12); refine (within_any 2 12 _ 1 _ _ [(X.length : Int)] _ rfl (le_maxLen (by omega)) (RI.new1 (by simp))).mono ?_; rintro e w' ⟨rfl, rfl⟩)
        | (go_at_call_of 53 (Value.int .i64 1000000); refine (within_any (-1000000) 1000000 _ _ _ _ X _ rfl hn (h.below (by go_grown))).mono ?_; rintro e w' ⟨rfl, rfl⟩))
      go_loopw [3] (fun i wr => ∃ m : Nat, m + 1 ≤ X.length ∧ i = .int .i64 ((m : Int) + 1) ∧ stN X m = true ∧ Below w.heap.size w wr) (fun i _ => X.length - (intOf i).toNat)
      case atStart => exact ⟨0, by omega, rfl, by simp [stN], by go_grown⟩
      case round =>
        obtain ⟨m, hk, rfl, hw, hbw⟩ := hrel
        have hsz := hbw.size
        by_cases hlt : m + 1 < X.length
        · obtain ⟨b, off, x, rfl, hb, hx, hc⟩ := ((h.more hB).below hbw).at_ hlt
          obtain ⟨b', off', y, hA, hb', hy, hc'⟩ := ((h.more hB).below hbw).at_ (k := m) (by omega)
          obtain ⟨rfl, rfl⟩ : b' = b ∧ off' = off := by simpa [eq_comm] using hA
          have hbx := wB_mem h2 hx
          have hby := wB_mem h2 hy
          have hb'' : b' < wr.heap.size := by omega
          obtain ⟨hbx1, hbx2⟩ := hbx
          obtain ⟨hby1, hby2⟩ := hby
          have hlt1 : (m : Int) + 1 < X.length := by omega
          have hlt2 : (m : Int) < X.length := by omega
          have hi : ((m : Int) + 1).toNat = m + 1 := by omega
          have hi2 : (m : Int) + 1 - 1 = m := by omega
          have hi3 : IntKind.i64.wrap ((m : Int) + 1 - 1) = m := by rw [IntWalk.i64_in _ (by omega)]; omega
          have hi6 : IntKind.i64.wrap (m : Int) = m := IntWalk.i64_in _ (by omega)
          have hi4 : (0 : Int) ≤ (m : Int) + 1 := by omega
          have hi5 : (0 : Int) ≤ (m : Int) := by omega
          have HX := Lib.hid hx
          have HY := Lib.hid hy
          have HW := Lib.hid hw
          have hs : IntKind.i64.wrap (x - y) = x - y := IntWalk.i64_in _ (by omega)
          clear hx hy hw hA hb
          cases hv : wB 1 10000 [x - y] with
          | false =>
            have e1 : axB X = false := by
              have : stN X (X.length - 1) = false := stN_bad (m := m) (by omega) (by rw [HX.out, HY.out]; simp [wB] at hv ⊢; omega)
              unfold axB; simp [this]
            have E1 := Lib.hid e1
            clear e1
            go_wp2
            go_region_held3 (fun w' => w'.cell? ⟨b', off' + (m + 1), none⟩ = some (.int .i64 x) ∧ w'.cell? ⟨b', off' + m, none⟩ = some (.int .i64 y)) (go_keep)
              ((go_at_call 53; refine (within_any 1 10000 _ 1 _ _ [x - y] _ rfl (le_maxLen (by omega)) (RI.drew (RI.new1 (by simp)))).mono ?_; rintro e w' ⟨rfl, rfl⟩))
            all_goals go_wp2
            all_goals go_ret
            exact ⟨ret_bool E1.out.symm, by go_grown⟩
          | true =>
            go_wp2
            go_region_held3 (fun w' => w'.cell? ⟨b', off' + (m + 1), none⟩ = some (.int .i64 x) ∧ w'.cell? ⟨b', off' + m, none⟩ = some (.int .i64 y)) (go_keep)
              ((go_at_call 53; refine (within_any 1 10000 _ 1 _ _ [x - y] _ rfl (le_maxLen (by omega)) (RI.drew (RI.new1 (by simp)))).mono ?_; rintro e w' ⟨rfl, rfl⟩))
            all_goals go_wp2
            all_goals go_roundw
            case rel => exact ⟨m + 1, by omega, by go_num, by rw [stN_step, HW.out, HX.out, HY.out]; simp [wB] at hv ⊢; omega, by go_grown⟩
            case measure => simp [intOf]; omega
        · go_wp2
          go_ret
          exact ⟨ret_bool (by
            obtain rfl : m = X.length - 1 := by omega
            unfold axB
            simp [h2, hw]; omega), hbw⟩

def onB (X L : List Int) : Bool := wB (X[0]?.getD 0) (X[X.length - 1]?.getD 0) L

theorem onAxis_any (A A' : Option Addr) (n c n' c' B B' : Nat) (X L : List Int) (w : World) (hx : X.length = n) (hn : n ≤ maxLen) (h2 : 2 ≤ n) (hx' : L.length = n') (hn' : n' ≤ maxLen) (h : RI w B A X) (h' : RI w B' A' L) :
    Calls Try.prog 105 #[.slice A n c, .slice A' n' c'] w fun e w' => e = .returned (.bool (onB X L)) ∧ Below w.heap.size w w' := by
  subst hx
  unfold maxLen at hn
  obtain ⟨b, off, x, rfl, hb, hx, hc⟩ := h.at_ (k := 0) (by omega)
  obtain ⟨b', off', y, hA, hb', hy, hc'⟩ := h.at_ (k := X.length - 1) (by omega)
  obtain ⟨rfl, rfl⟩ : b' = b ∧ off' = off := by simpa [eq_comm] using hA
  have e1 : onB X L = wB x y L := by unfold onB; rw [hx, hy]; rfl
  rw [e1]
  clear hx hy e1 hA h hb'
  have i0 : (0 : Int) < (X.length : Int) := by omega
  have i1 : IntKind.i64.wrap ((X.length : Int) - 1) = (X.length : Int) - 1 := IntWalk.i64_in _ (by omega)
  have i2 : ((X.length : Int) - 1).toNat = X.length - 1 := by omega
  have i3 : (0 : Int) ≤ (X.length : Int) - 1 := by omega
  have i4 : (X.length : Int) - 1 < (X.length : Int) := by omega
  have i5 : (1 : Int) ≤ (X.length : Int) := by omega
  simp only [Nat.add_zero] at hc
  go_enter Try.func105, Try.ntmps105
  go_wp2
  go_quiet ((go_at_call 53; exact quiet_left (within_any x y _ _ _ _ L _ hx' hn' (h'.drewN _))))
  go_wp2
  go_ret
  exact ⟨rfl, by first | exact below_drewN (Below.refl _ _) _ | go_grown⟩

theorem checkTable_any (AX AY AV : Option Addr) (nx cx ny cy nv cv B : Nat) (X Y : List Int) (V : List (List Int)) (w : World) (hx : X.length = nx) (hy : Y.length = ny) (hv : V.length = nv) (hnx : nx ≤ maxLen) (hny : ny ≤ maxLen) (hnv : nv ≤ maxLen) (hnr : ∀ r ∈ V, r.length ≤ maxLen)
    (hB : B ≤ w.heap.size) (h : TB w B AX AY AV X Y V) :
    Calls Try.prog 104 #[.agg #[.slice AX nx cx, .slice AY ny cy, .slice AV nv cv]] w fun e w' => e = .returned (.int .i64 (ctE X Y V)) ∧ Below w.heap.size w w' := by
  subst hx hy hv
  cases h1 : axB X with
  | false =>
    have e1 : ctE X Y V = 11 := ctE_no (by unfold ctB; simp [h1])
    rw [e1]
    clear e1
    go_enter Try.func104, Try.ntmps104
    go_wp2_with (go_at_call 123; refine (axis_any AX _ _ B X _ rfl hnx (by simp; omega) (h.x.below (by go_grown))).mono ?_; rintro e w1 ⟨rfl, hb1⟩)
    go_ret
    exact ⟨rfl, Below.trans (by go_grown) (hb1.mono (by simp))⟩
  | true =>
  cases h2 : axB Y with
  | false =>
    have e1 : ctE X Y V = 11 := ctE_no (by unfold ctB; simp [h2])
    rw [e1]
    clear e1
    go_enter Try.func104, Try.ntmps104
    go_wp2_with (first
      | (go_at_call_of 123 (Value.slice AX X.length cx); refine (axis_any AX _ _ B X _ rfl hnx (by simp; omega) (h.x.below (by go_grown))).mono ?_; rintro e w1 ⟨rfl, hb1⟩; obtain ⟨hc1, hf1⟩ := bcell hb1; have hB1 := hb1.size; simp at hB1; have hz1 : w.heap.size < w1.heap.size := by omega)
      | (go_at_call_of 123 (Value.slice AY Y.length cy); refine (axis_any AY _ _ B Y _ rfl hny (by omega) ((h.y.below (by go_grown)).below (hb1.mono (by simp; omega)))).mono ?_; rintro e w2 ⟨rfl, hb2⟩))
    go_ret
    exact ⟨rfl, (Below.trans (by go_grown) (hb1.mono (by simp))).trans (hb2.mono (by omega))⟩
  | true =>
  by_cases h3 : V.length = X.length
  · have h3' : ((V.length : Int) != (X.length : Int)) = false := by rw [bne_eq_false_iff_eq]; omega
    have H3 := Lib.hid h3
    clear h3
    have hnv' := hnv
    unfold maxLen at hnv'
    go_enter Try.func104, Try.ntmps104
    go_wp2_with (first
      | (go_at_call_of 123 (Value.slice AX X.length cx); refine (axis_any AX _ _ B X _ rfl hnx (by simp; omega) (h.x.below (by go_grown))).mono ?_; rintro e w1 ⟨rfl, hb1⟩; obtain ⟨hc1, hf1⟩ := bcell hb1; have hB1 := hb1.size; simp at hB1; have hz1 : w.heap.size < w1.heap.size := by omega)
      | (go_at_call_of 123 (Value.slice AY Y.length cy); refine (axis_any AY _ _ B Y _ rfl hny (by omega) ((h.y.below (by go_grown)).below (hb1.mono (by simp; omega)))).mono ?_; rintro e w2 ⟨rfl, hb2⟩; obtain ⟨hc2, hf2⟩ := bcell hb2; have hB2 := hb2.size; have hz2 : w.heap.size < w2.heap.size := by omega))
    have hbw : Below w.heap.size w w2 := (Below.trans (by go_grown) (hb1.mono (by simp))).trans (hb2.mono (by omega))
    have hbox : w2.cell? ⟨w.heap.size, 1, none⟩ = some (.slice AY Y.length cy) := by rw [hc2 _ _ hz1, hc1 _ _ (by simp)]; rw [cell_newest]; rfl
    have hV := (h.v.below (hbw.mono hB))
    have HV := Lib.hid hV
    clear hV hc1 hf1 hc2 hf2 hb1 hb2 h h3'
    go_loopw [27] (fun i wr => ∃ k : Nat, k ≤ V.length ∧ i = .int .i64 k ∧ rowsB Y.length (V.take k) = true ∧ w2 = wr) (fun i _ => V.length - (intOf i).toNat)
    case atStart => exact ⟨0, by omega, rfl, by simp [rowsB], rfl⟩
    case round =>
      obtain ⟨k, hk, rfl, hw, rfl⟩ := hrel
      by_cases hlt : k < V.length
      · obtain ⟨b, off, r, A', c', rfl, hb, hr, hc, hri⟩ := HV.out.at_ hlt
        have HR := Lib.hid hr
        have HRI := Lib.hid hri
        have hrl : r.length ≤ maxLen := hnr r (List.mem_of_getElem? hr)
        clear hr hri
        by_cases g1 : r.length = Y.length
        · cases g2 : wB (-1000000) 1000000 r with
          | true => 
            have g1' : ((r.length : Int) != (Y.length : Int)) = false := by rw [bne_eq_false_iff_eq]; omega
            have G1 := Lib.hid g1
            clear g1
            go_wp2_with (go_at_call 53; refine (within_any (-1000000) 1000000 A' _ c' _ r _ rfl hrl HRI.out).mono ?_; rintro e w' ⟨rfl, rfl⟩)
            go_roundw
            case rel => exact ⟨k + 1, by omega, by go_num, by rw [rowsB_step HR.out, hw, G1.out, g2]; simp, by first | rfl | trivial⟩
            case measure => simp [intOf]; omega
          | false =>
            have g1' : ((r.length : Int) != (Y.length : Int)) = false := by rw [bne_eq_false_iff_eq]; omega
            have G1 := Lib.hid g1
            clear g1
            go_wp2_with (go_at_call 53; refine (within_any (-1000000) 1000000 A' _ c' _ r _ rfl hrl HRI.out).mono ?_; rintro e w' ⟨rfl, rfl⟩)
            go_ret
            exact ⟨ret_int (ctE_no (by unfold ctB; rw [rowsB_bad HR.out (n := Y.length) (by simp [g2])]; simp)).symm, hbw⟩
        · have g1' : ((r.length : Int) != (Y.length : Int)) = true := by rw [bne_iff_ne]; omega
          go_wp2
          go_ret
          exact ⟨ret_int (ctE_no (by unfold ctB; rw [rowsB_bad HR.out (n := Y.length) (by simp [g1])]; simp)).symm, hbw⟩
      · go_wp2
        go_ret
        exact ⟨ret_int (ctE_yes (by unfold ctB; rw [List.take_of_length_le (by omega)] at hw; simp [h1, h2, H3.out, hw])).symm, hbw⟩
  · have e1 : ctE X Y V = 11 := ctE_no (by unfold ctB; simp [h3])
    rw [e1]
    clear e1
    have h3' : ((V.length : Int) != (X.length : Int)) = true := by rw [bne_iff_ne]; omega
    go_enter Try.func104, Try.ntmps104
    go_wp2_with (first
      | (go_at_call_of 123 (Value.slice AX X.length cx); refine (axis_any AX _ _ B X _ rfl hnx (by simp; omega) (h.x.below (by go_grown))).mono ?_; rintro e w1 ⟨rfl, hb1⟩; obtain ⟨hc1, hf1⟩ := bcell hb1; have hB1 := hb1.size; simp at hB1; have hz1 : w.heap.size < w1.heap.size := by omega)
      | (go_at_call_of 123 (Value.slice AY Y.length cy); refine (axis_any AY _ _ B Y _ rfl hny (by omega) ((h.y.below (by go_grown)).below (hb1.mono (by simp; omega)))).mono ?_; rintro e w2 ⟨rfl, hb2⟩; obtain ⟨hc2, hf2⟩ := bcell hb2; have hB2 := hb2.size; have hz2 : w.heap.size < w2.heap.size := by omega))
    go_ret
    exact ⟨rfl, (Below.trans (by go_grown) (hb1.mono (by simp))).trans (hb2.mono (by omega))⟩

end Go.Proofs.Ythhokiigdgpmcaa

/- Plain mathematics: the values of a table. -/
namespace Go.Proofs.Ythhokiigdgpmcaa

def gz (l : List Int) (i : Nat) : Int := l[i]?.getD 0
def gr (V : List (List Int)) (i : Nat) : List Int := V[i]?.getD []

theorem gz_of {l : List Int} {i : Nat} {x : Int} (h : l[i]? = some x) : gz l i = x := by unfold gz; rw [h]; rfl
theorem gr_of {V : List (List Int)} {i : Nat} {r : List Int} (h : V[i]? = some r) : gr V i = r := by unfold gr; rw [h]; rfl

/-- spans.part. -/
def partN : List Int → Int → Nat
  | a :: b :: c :: l, n => if b ≤ n then 1 + partN (b :: c :: l) n else (fun _ => 0) a
  | _, _ => 0

theorem partN_lt : ∀ (l : List Int) (n : Int), 2 ≤ l.length → partN l n + 2 ≤ l.length
  | [], n, h => by simp at h
  | [_], n, h => by simp at h
  | [_, _], n, _ => by simp [partN]
  | a :: b :: c :: l, n, _ => by
    unfold partN
    split
    · have := partN_lt (b :: c :: l) n (by simp)
      simp at this ⊢
      omega
    · simp

theorem partN_in : ∀ (l : List Int) (n : Int), 2 ≤ l.length → gz l 0 ≤ n → n ≤ gz l (l.length - 1) → gz l (partN l n) ≤ n ∧ n ≤ gz l (partN l n + 1)
  | [], n, h, _, _ => by simp at h
  | [_], n, h, _, _ => by simp at h
  | [a, b], n, _, h0, h1 => by simpa [partN, gz] using ⟨h0, h1⟩
  | a :: b :: c :: l, n, _, h0, h1 => by
    unfold partN
    split
    · have := partN_in (b :: c :: l) n (by simp) (by simpa [gz]) (by simpa [gz] using h1)
      have e1 : gz (a :: b :: c :: l) (1 + partN (b :: c :: l) n) = gz (b :: c :: l) (partN (b :: c :: l) n) := by rw [Nat.add_comm]; simp [gz]
      have e2 : gz (a :: b :: c :: l) (1 + partN (b :: c :: l) n + 1) = gz (b :: c :: l) (partN (b :: c :: l) n + 1) := by rw [Nat.add_comm 1]; simp [gz]
      rw [e1, e2]
      exact this
    · simp [gz] at h0 ⊢
      omega

theorem partN_go {l : List Int} {n : Int} {i : Nat} {b : Int} (hl : i + 2 < l.length) (hb : l[i + 1]? = some b) (h : b ≤ n) : partN (l.drop i) n = 1 + partN (l.drop (i + 1)) n := by
  have e : l.drop i = l[i] :: b :: l[i + 2] :: l.drop (i + 3) := by
    rw [List.drop_eq_getElem_cons (by omega), List.drop_eq_getElem_cons (i := i + 1) (by omega), List.drop_eq_getElem_cons (i := i + 1 + 1) (by omega)]
    rw [List.getElem?_eq_some_iff] at hb
    obtain ⟨_, hb⟩ := hb
    rw [hb]
  have e' : l.drop (i + 1) = b :: l[i + 2] :: l.drop (i + 3) := by
    rw [List.drop_eq_getElem_cons (i := i + 1) (by omega), List.drop_eq_getElem_cons (i := i + 1 + 1) (by omega)]
    rw [List.getElem?_eq_some_iff] at hb
    obtain ⟨_, hb⟩ := hb
    rw [hb]
  rw [e, e']
  conv => lhs; unfold partN
  rw [if_pos h]
theorem partN_stop {l : List Int} {n : Int} {i : Nat} {b : Int} (hl : i + 2 < l.length) (hb : l[i + 1]? = some b) (h : n < b) : partN (l.drop i) n = 0 := by
  have e : l.drop i = l[i] :: b :: l[i + 2] :: l.drop (i + 3) := by
    rw [List.drop_eq_getElem_cons (by omega), List.drop_eq_getElem_cons (i := i + 1) (by omega), List.drop_eq_getElem_cons (i := i + 1 + 1) (by omega)]
    rw [List.getElem?_eq_some_iff] at hb
    obtain ⟨_, hb⟩ := hb
    rw [hb]
  rw [e]
  unfold partN
  rw [if_neg (by omega)]
theorem partN_end {l : List Int} {n : Int} {i : Nat} (hl : l.length = i + 2) : partN (l.drop i) n = 0 := by
  have e : l.drop i = [l[i], l[i + 1]] := by
    rw [List.drop_eq_getElem_cons (by omega), List.drop_eq_getElem_cons (i := i + 1) (by omega), List.drop_of_length_le (by omega)]
  rw [e]
  rfl

/-- What an axis gives for a number on it. -/
structure Seg (X : List Int) (n : Int) (k : Nat) : Prop where
  lt : k + 1 < X.length
  lo : gz X k ≤ n
  hi : n ≤ gz X (k + 1)
  d1 : 1 ≤ gz X (k + 1) - gz X k
  d2 : gz X (k + 1) - gz X k ≤ 10000
theorem axB_get {X : List Int} (h : axB X = true) : 2 ≤ X.length ∧ X.length ≤ 12 ∧ wB (-1000000) 1000000 X = true ∧ stN X (X.length - 1) = true := by
  unfold axB at h
  simp at h
  exact ⟨h.1.1.1, h.1.1.2, h.1.2, h.2⟩
theorem seg_of {X : List Int} {n : Int} (h : axB X = true) (h0 : gz X 0 ≤ n) (h1 : n ≤ gz X (X.length - 1)) : Seg X n (partN X n) := by
  obtain ⟨a, b, c, d⟩ := axB_get h
  have p := partN_lt X n a
  have q := partN_in X n a h0 h1
  have r := stN_get d (m := partN X n) (by omega)
  exact ⟨by omega, q.1, q.2, r.1, r.2⟩
theorem gz_bd {X : List Int} {k : Nat} (h : wB (-1000000) 1000000 X = true) (hk : k < X.length) : -1000000 ≤ gz X k ∧ gz X k ≤ 1000000 := by
  unfold gz
  rw [List.getElem?_eq_getElem hk]
  exact wB_mem h (List.getElem?_eq_getElem hk)

theorem mix_bd {a b u v M : Int} (ha : 0 ≤ a) (hb : 0 ≤ b) (hu1 : -M ≤ u) (hu2 : u ≤ M) (hv1 : -M ≤ v) (hv2 : v ≤ M) : -(M * (a + b)) ≤ a * u + b * v ∧ a * u + b * v ≤ M * (a + b) := by
  have h1 := Int.mul_le_mul_of_nonneg_left hu2 ha
  have h2 := Int.mul_le_mul_of_nonneg_left hv2 hb
  have h3 := Int.mul_le_mul_of_nonneg_left hu1 ha
  have h4 := Int.mul_le_mul_of_nonneg_left hv1 hb
  have e1 : M * (a + b) = a * M + b * M := by grind
  have e2 : a * -M = -(a * M) := by grind
  have e3 : b * -M = -(b * M) := by grind
  omega

theorem mul_bd {a u A M : Int} (ha : 0 ≤ a) (hA : a ≤ A) (hu1 : -M ≤ u) (hu2 : u ≤ M) (hM : 0 ≤ M) : -(A * M) ≤ a * u ∧ a * u ≤ A * M := by
  have h1 := Int.mul_le_mul_of_nonneg_left hu2 ha
  have h3 := Int.mul_le_mul_of_nonneg_left hu1 ha
  have h5 := Int.mul_le_mul_of_nonneg_right hA hM
  have e2 : a * -M = -(a * M) := by grind
  omega

/-- spans.onKnot, spans.at. -/
def kNum (Y : List Int) (V : List (List Int)) (i : Nat) (y : Int) : Int :=
  (gz Y (partN Y y + 1) - y) * gz (gr V i) (partN Y y) + (y - gz Y (partN Y y)) * gz (gr V i) (partN Y y + 1)
def kDen (Y : List Int) (y : Int) : Int := gz Y (partN Y y + 1) - gz Y (partN Y y)
def atN (X Y : List Int) (V : List (List Int)) (x y : Int) : Int :=
  (gz X (partN X x + 1) - x) * kNum Y V (partN X x) y + (x - gz X (partN X x)) * kNum Y V (partN X x + 1) y
def atD (X Y : List Int) (x y : Int) : Int := (gz X (partN X x + 1) - gz X (partN X x)) * kDen Y y

theorem ctB_get {X Y : List Int} {V : List (List Int)} (h : ctB X Y V = true) : axB X = true ∧ axB Y = true ∧ V.length = X.length ∧ rowsB Y.length V = true := by
  unfold ctB at h
  simp at h
  exact ⟨h.1.1.1, h.1.1.2, h.1.2, h.2⟩
theorem row_get {X Y : List Int} {V : List (List Int)} {i : Nat} (h : ctB X Y V = true) (hi : i < X.length) : (gr V i).length = Y.length ∧ wB (-1000000) 1000000 (gr V i) = true := by
  obtain ⟨_, _, c, d⟩ := ctB_get h
  have e : V[i]? = some (gr V i) := by unfold gr; rw [List.getElem?_eq_getElem (by omega)]; rfl
  exact rowsB_get d e

/-- The number y is on the axis. -/
def On (Y : List Int) (y : Int) : Prop := gz Y 0 ≤ y ∧ y ≤ gz Y (Y.length - 1)

theorem kDen_bd {Y : List Int} {y : Int} (h : axB Y = true) (ho : On Y y) : 1 ≤ kDen Y y ∧ kDen Y y ≤ 10000 := by
  have s := seg_of h ho.1 ho.2
  unfold kDen
  exact ⟨s.d1, s.d2⟩
theorem kNum_bd {X Y : List Int} {V : List (List Int)} {i : Nat} {y : Int} (h : ctB X Y V = true) (hi : i < X.length) (ho : On Y y) : -(1000000 * kDen Y y) ≤ kNum Y V i y ∧ kNum Y V i y ≤ 1000000 * kDen Y y := by
  obtain ⟨_, b, _, _⟩ := ctB_get h
  obtain ⟨r1, r2⟩ := row_get h hi
  have s := seg_of b ho.1 ho.2
  have l := s.lt
  obtain ⟨u1, u2⟩ := gz_bd (k := partN Y y) r2 (by omega)
  obtain ⟨v1, v2⟩ := gz_bd (k := partN Y y + 1) r2 (by omega)
  have := mix_bd (a := gz Y (partN Y y + 1) - y) (b := y - gz Y (partN Y y)) (M := 1000000) (by have := s.hi; omega) (by have := s.lo; omega) u1 u2 v1 v2
  have e : gz Y (partN Y y + 1) - y + (y - gz Y (partN Y y)) = kDen Y y := by unfold kDen; omega
  rw [e] at this
  exact this
theorem atD_bd {X Y : List Int} {x y : Int} (h : axB X = true) (h' : axB Y = true) (hx : On X x) (hy : On Y y) : 1 ≤ atD X Y x y ∧ atD X Y x y ≤ 100000000 := by
  have s := seg_of h hx.1 hx.2
  have k := kDen_bd h' hy
  have d1 := s.d1
  have d2 := s.d2
  unfold atD
  constructor
  · have := Int.mul_le_mul d1 k.1 (by omega) (by omega)
    omega
  · have := Int.mul_le_mul d2 k.2 (by omega) (by omega)
    omega
theorem atN_bd {X Y : List Int} {V : List (List Int)} {x y : Int} (h : ctB X Y V = true) (hx : On X x) (hy : On Y y) : -(1000000 * atD X Y x y) ≤ atN X Y V x y ∧ atN X Y V x y ≤ 1000000 * atD X Y x y := by
  obtain ⟨a, b, _, _⟩ := ctB_get h
  have s := seg_of a hx.1 hx.2
  have l := s.lt
  obtain ⟨u1, u2⟩ := kNum_bd (i := partN X x) h (by omega) hy
  obtain ⟨v1, v2⟩ := kNum_bd (i := partN X x + 1) h (by omega) hy
  have := mix_bd (a := gz X (partN X x + 1) - x) (b := x - gz X (partN X x)) (M := 1000000 * kDen Y y) (by have := s.hi; omega) (by have := s.lo; omega) u1 u2 v1 v2
  have e : 1000000 * kDen Y y * (gz X (partN X x + 1) - x + (x - gz X (partN X x))) = 1000000 * atD X Y x y := by unfold atD; grind
  rw [e] at this
  exact this

/-- spans.ends. -/
def endsL (X : List Int) (lo hi : Int) : List Int := lo :: (X.filter (fun n => decide (lo < n) && decide (n < hi)) ++ if lo < hi then [hi] else [])

end Go.Proofs.Ythhokiigdgpmcaa

/- spans.part, onKnot, at. -/
namespace Go.Proofs.Ythhokiigdgpmcaa
open Go.RowKit

theorem part_any (A : Option Addr) (n c B : Nat) (X : List Int) (y : Int) (w : World) (hx : X.length = n) (hn : n ≤ maxLen) (h2 : 2 ≤ n) (h : RI w B A X) :
    Calls Try.prog 124 #[.slice A n c, .int .i64 y] w fun e w' => e = .returned (.int .i64 (partN X y : Nat)) ∧ w = w' := by
  subst hx
  unfold maxLen at hn
  have i1 : IntKind.i64.wrap ((X.length : Int) - 2) = (X.length : Int) - 2 := IntWalk.i64_in _ (by omega)
  go_enter Try.func124, Try.ntmps124
  go_wp2
  go_loop [5] (fun i => ∃ k : Nat, k + 2 ≤ X.length ∧ i = .int .i64 k ∧ partN X y = k + partN (X.drop k) y) (fun i => X.length - (intOf i).toNat)
  case atStart => exact ⟨0, by omega, rfl, by simp⟩
  case round =>
    obtain ⟨k, hk, rfl, hw⟩ := hrel
    have HW := Lib.hid hw
    clear hw
    by_cases hlt : k + 2 < X.length
    · obtain ⟨b, off, x, rfl, hb, hx, hc⟩ := h.at_ (k := k + 1) (by omega)
      have HX := Lib.hid hx
      clear hx
      have hlt' : decide ((k : Int) < (X.length : Int) - 2) = true := by simp; omega
      have i4 : (k : Int) + 1 < X.length := by omega
      by_cases hle : x ≤ y
      · go_wp2
        go_round
        case rel => exact ⟨k + 1, by omega, by go_num, by rw [HW.out, partN_go hlt HX.out hle]; omega⟩
        case measure => simp [intOf]; omega
      · go_wp2
        go_ret
        exact ⟨ret_int (by rw [HW.out, partN_stop hlt HX.out (by omega)]; omega), rfl⟩
    · have hlt' : decide ((k : Int) < (X.length : Int) - 2) = false := by simp; omega
      go_wp2
      go_ret
      exact ⟨ret_int (by rw [HW.out, partN_end (by omega)]; omega), rfl⟩

set_option maxHeartbeats 800000 in
set_option maxRecDepth 100000 in
theorem onKnot_any (AX AY AV : Option Addr) (nx cx ny cy nv cv B : Nat) (X Y : List Int) (V : List (List Int)) (i y : Int) (w : World) (hx : X.length = nx) (hy : Y.length = ny) (hv : V.length = nv)
    (hB : B ≤ w.heap.size) (h : TB w B AX AY AV X Y V) (hct : ctB X Y V = true) (hi0 : 0 ≤ i) (hi : i < X.length) (ho : On Y y) :
    Calls Try.prog 125 #[.agg #[.slice AX nx cx, .slice AY ny cy, .slice AV nv cv], .int .i64 i, .int .i64 y] w fun e w' =>
      e = .returned (.agg #[.int .i64 (kNum Y V i.toNat y), .int .i64 (kDen Y y)]) ∧ Below w.heap.size w w' := by
  subst hx hy hv
  obtain ⟨i, rfl⟩ := Int.eq_ofNat_of_zero_le hi0
  rw [Int.toNat_natCast]
  obtain ⟨ha, hb, hl, _⟩ := ctB_get hct
  obtain ⟨p1, p2, p3, p4⟩ := axB_get hb
  obtain ⟨q1, q2, _, _⟩ := axB_get ha
  obtain ⟨r1, r2⟩ := row_get hct (i := i) (by omega)
  have s := seg_of hb ho.1 ho.2
  have sl := s.lt
  have slo := s.lo
  have shi := s.hi
  have sd1 := s.d1
  have sd2 := s.d2
  obtain ⟨bv, ov, r, A', c', rfl, hbv, hr, hcr, hri⟩ := h.v.at_ (k := i) (by omega)
  have er : gr V i = r := gr_of hr
  obtain ⟨by1, oy, y0, rfl, hby, hy0, hcy0⟩ := h.y.at_ (k := partN Y y) (by omega)
  obtain ⟨by2, oy2, y1, hA, _, hy1, hcy1⟩ := h.y.at_ (k := partN Y y + 1) (by omega)
  obtain ⟨rfl, rfl⟩ : by2 = by1 ∧ oy2 = oy := by simpa [eq_comm] using hA
  have ey0 : gz Y (partN Y y) = y0 := gz_of hy0
  have ey1 : gz Y (partN Y y + 1) = y1 := gz_of hy1
  rw [er] at r1 r2
  obtain ⟨br, or, v0, rfl, hbr, hv0, hcv0⟩ := hri.at_ (k := partN Y y) (by omega)
  obtain ⟨br2, or2, v1, hA', _, hv1, hcv1⟩ := hri.at_ (k := partN Y y + 1) (by omega)
  obtain ⟨rfl, rfl⟩ : br2 = br ∧ or2 = or := by simpa [eq_comm] using hA'
  have ev0 : gz r (partN Y y) = v0 := gz_of hv0
  have ev1 : gz r (partN Y y + 1) = v1 := gz_of hv1
  have e1 : kNum Y V i y = (y1 - y) * v0 + (y - y0) * v1 := by unfold kNum; rw [er, ev0, ev1, ey0, ey1]
  have e2 : kDen Y y = y1 - y0 := by unfold kDen; rw [ey0, ey1]
  rw [e1, e2]
  rw [ey0, ey1] at sd1 sd2
  rw [ey0] at slo
  rw [ey1] at shi
  obtain ⟨u1, u2⟩ := wB_mem r2 hv0
  obtain ⟨u3, u4⟩ := wB_mem r2 hv1
  obtain ⟨u5, u6⟩ := wB_mem p3 hy0
  obtain ⟨u7, u8⟩ := wB_mem p3 hy1
  have m1 := mul_bd (a := y1 - y) (A := 10000) (M := 1000000) (by omega) (by omega) u1 u2 (by omega)
  have m2 := mul_bd (a := y - y0) (A := 10000) (M := 1000000) (by omega) (by omega) u3 u4 (by omega)
  obtain ⟨m11, m12⟩ := m1
  obtain ⟨m21, m22⟩ := m2
  generalize hk : partN Y y = k at *
  have HK := Lib.hid hk
  have hYl : Y.length ≤ maxLen := le_maxLen (by omega)
  have hY2 := p1
  have hpart : ∀ W, RI W B (some ⟨by2, oy2, none⟩) Y → Calls Try.prog 124 #[.slice (some ⟨by2, oy2, none⟩) Y.length cy, .int .i64 y] W fun e w' => e = .returned (.int .i64 (k : Nat)) ∧ W = w' := fun W hW => by
    rw [← HK.out]; exact part_any _ _ _ B Y y W rfl hYl hY2 hW
  have HP := Lib.hid hpart
  have HT := Lib.hid h.y
  have f1 : (i : Int) < V.length := by omega
  have f2 : (k : Int) < r.length := by omega
  have f3 : (k : Int) + 1 < r.length := by omega
  have f4 : (k : Int) < Y.length := by omega
  have f5 : (k : Int) + 1 < Y.length := by omega
  have f6 : IntKind.i64.wrap ((k : Int) + 1) = (k : Int) + 1 := IntWalk.i64_in _ (by omega)
  have f7 : ((k : Int) + 1).toNat = k + 1 := by omega
  have f8 : (0 : Int) ≤ (k : Int) + 1 := by omega
  have g1 : by2 < w.heap.size := by omega
  have g2 : bv < w.heap.size := by omega
  have g3 : br2 < w.heap.size := by omega
  clear hk hpart h hA hA' hr hy0 hy1 hv0 hv1 er ey0 ey1 ev0 ev1 e1 e2 ha hb hl hct p3 p4 r2 r1 s ho hri
  go_enter Try.func125, Try.ntmps125
  go_wp2_with (go_at_call 124; refine (HP.out _ (HT.out.below (by go_grown))).mono ?_; rintro e w' ⟨rfl, rfl⟩)
  go_quiet (fail)
  go_wp2
  refine region_tail 33 (by kernel_rfl) (by kernel_rfl) ?_
  simp only [List.take_succ_cons, List.take_zero, List.drop_succ_cons, List.drop_zero]
  repeat still_step
  refine wpStill_nil ?_
  go_wp2
  go_returns
  exact ⟨rfl, by go_grown <;> (refine below_drewN ?_ _; go_grown)⟩

end Go.Proofs.Ythhokiigdgpmcaa

/- spans.ends. -/
namespace Go.Proofs.Ythhokiigdgpmcaa
open Go.RowKit

theorem info_int : (Try.prog.info? 3).map (fun i => (i.zero, i.size, i.bytes)) = some (some (.int .i64 0), 1, 8) := by kernel_rfl

/-- What is returned is a slice of the call's own, which reads as the list. -/
def GivesInts (w : World) (l : List Int) (e : Ending) (w' : World) : Prop :=
  ∃ g c, e = .returned (.slice (some ⟨g, 0, none⟩) l.length c) ∧ w.heap.size ≤ g ∧ RI w' w'.heap.size (some ⟨g, 0, none⟩) l ∧ Below w.heap.size w w'

theorem RI.of_own {w : World} {base n g c : Nat} {E : TypeId} {l : List Int} (h : w.ownsRow base E 1 (.slice (some ⟨g, 0, none⟩) n c) n (l.map (Value.int .i64))) : RI w w.heap.size (some ⟨g, 0, none⟩) l := fun _ =>
  ⟨g, 0, rfl, (h.lt g rfl).2, fun j u hu => by
    have hj : j < n * 1 := by
      have h1 := h.1
      have h2 := (List.getElem?_eq_some_iff.1 hu).1
      omega
    rw [Nat.zero_add, h.cellAt j hj]
    exact hu⟩

def endK (X : List Int) (lo hi : Int) (k : Nat) : List Int := lo :: (X.take k).filter (fun n => decide (lo < n) && decide (n < hi))
theorem endK_hit {X : List Int} {lo hi x : Int} {k : Nat} (hx : X[k]? = some x) (h1 : lo < x) (h2 : x < hi) : endK X lo hi (k + 1) = endK X lo hi k ++ [x] := by
  unfold endK
  rw [List.take_add_one, hx]
  simp [List.filter_append, h1, h2]
theorem endK_miss {X : List Int} {lo hi x : Int} {k : Nat} (hx : X[k]? = some x) (h : ¬ (lo < x ∧ x < hi)) : endK X lo hi (k + 1) = endK X lo hi k := by
  unfold endK
  rw [List.take_add_one, hx]
  have : (decide (lo < x) && decide (x < hi)) = false := by simp; omega
  simp [List.filter_append, this]
theorem endK_len (X : List Int) (lo hi : Int) (k : Nat) : (endK X lo hi k).length ≤ k + 1 := by
  unfold endK
  have := List.length_filter_le (fun n => decide (lo < n) && decide (n < hi)) (X.take k)
  simp at this ⊢
  omega
theorem endK_all (X : List Int) (lo hi : Int) : endsL X lo hi = endK X lo hi X.length ++ if lo < hi then [hi] else [] := by
  unfold endsL endK
  simp

set_option maxHeartbeats 800000 in
theorem ends_any (A : Option Addr) (n c B : Nat) (X : List Int) (lo hi : Int) (w : World) (hx : X.length = n) (hn : n ≤ 1000000) (hB : B ≤ w.heap.size) (h : RI w B A X) :
    Calls Try.prog 114 #[.slice A n c, .agg #[.int .i64 lo, .int .i64 hi]] w (GivesInts w (endsL X lo hi)) := by
  subst hx
  obtain ⟨i0, hi0, hz0, hz1, hz2⟩ := info_parts info_int
  go_enter Try.func114, Try.ntmps114
  go_wp2
  have hown0 : ((w.alloc (.cells #[.int .i64 lo, .int .i64 hi] 34)).alloc (.cells #[.int .i64 lo] 3)).ownsRow (w.heap.size + 1) 3 1 (.slice (some ⟨w.heap.size + 1, 0, none⟩) 1 1) 1 [.int .i64 lo] := by
    have := World.ownsRow_lit (base := w.heap.size + 1) (e := 3) (size := 1) (w.alloc (.cells #[.int .i64 lo, .int .i64 hi] 34)) #[.int .i64 lo] 1 (by simp) (le_maxLen (by omega)) (by simp)
    simpa using this
  go_loopw [5, 13] (fun v i wr => ∃ k : Nat, k ≤ X.length ∧ i = .int .i64 k ∧ wr.ownsRow (w.heap.size + 1) 3 1 v (endK X lo hi k).length ((endK X lo hi k).map (Value.int .i64)) ∧
      wr.cell? ⟨w.heap.size, 0, none⟩ = some (.int .i64 lo) ∧ wr.cell? ⟨w.heap.size, 1, none⟩ = some (.int .i64 hi) ∧ w.heap.size < wr.heap.size ∧ Below w.heap.size w wr) (fun _ i _ => X.length - (intOf i).toNat)
  case atStart => exact ⟨0, Nat.zero_le _, rfl, by simpa [endK] using hown0, by go_simp, by go_simp, by simp; omega, by go_grown⟩
  case round =>
    obtain ⟨k, hk, rfl, hown, hc1, hc2, hsz, hbw⟩ := hrel
    have hel := endK_len X lo hi k
    by_cases hlt : k < X.length
    · obtain ⟨b, off, x, rfl, hb, hx, hc⟩ := ((RI.more h hB).below hbw).at_ hlt
      have HX := Lib.hid hx
      clear hx hown0
      by_cases h1 : lo < x
      · by_cases h2 : x < hi
        · go_wp2_with (at_builtin; refine wpList_append_own _ rfl _ _ 22 rfl (w.heap.size + 1) 3 i0 (.int .i64 0) 1 8 Try.underlying22 hi0 hz0 hz1 hz2 rfl (by decide) _ _ _ rfl (hown.alloc _) ⟨wr.heap.size, 0, none⟩ 1 1 [.int .i64 x] rfl rfl ?c1 ?c2 ?c3 ?c4 ?c5 ?_)
          case c1 => exact cell_one_new _ _ _
          case c2 => intro u hu; simp at hu; subst hu; rfl
          case c3 => unfold maxLen; omega
          case c4 => omega
          case c5 => simp; omega
          intro v' w1 hown' hgrow _
          have hne := fun e => (absurd (hown.lt w.heap.size e).1 (by omega) : False)
          have hb2 : Below w.heap.size w w1 := (hbw.alloc (by omega) (.cells #[.int .i64 x] 3)).grown hgrow (by simp; omega) (fun q hq => by have := (hown.lt _ hq).1; omega)
          have d1 : w1.cell? ⟨w.heap.size, 0, none⟩ = some (.int .i64 lo) := hgrow.cell (by rw [World.cell?_alloc_past _ _ _ hsz]; exact hc1) (fun e => hne e.symm)
          have d2 : w1.cell? ⟨w.heap.size, 1, none⟩ = some (.int .i64 hi) := hgrow.cell (by rw [World.cell?_alloc_past _ _ _ hsz]; exact hc2) (fun e => hne e.symm)
          have hs1 : w.heap.size < w1.heap.size := by have := hgrow.size; simp at this; omega
          have ho : w1.ownsRow (w.heap.size + 1) 3 1 v' (endK X lo hi (k + 1)).length ((endK X lo hi (k + 1)).map (Value.int .i64)) := by
            rw [endK_hit HX.out h1 h2]; simpa using hown'
          clear hown' hgrow hown hc hc1 hc2 hbw
          go_wp2
          go_roundw
          case rel => exact ⟨k + 1, by omega, by go_num, ho, d1, d2, hs1, hb2⟩
          case measure => simp [intOf]; omega
        · have e1 := endK_miss (lo := lo) (hi := hi) HX.out (by omega)
          have E1 := Lib.hid e1
          clear e1
          go_wp2
          go_roundw
          case rel => exact ⟨k + 1, by omega, by go_num, by rw [E1.out]; exact hown, hc1, hc2, hsz, hbw⟩
          case measure => simp [intOf]; omega
      · have e1 := endK_miss (lo := lo) (hi := hi) HX.out (by omega)
        have E1 := Lib.hid e1
        clear e1
        go_wp2
        go_roundw
        case rel => exact ⟨k + 1, by omega, by go_num, by rw [E1.out]; exact hown, hc1, hc2, hsz, hbw⟩
        case measure => simp [intOf]; omega
    · obtain rfl : k = X.length := by omega
      obtain ⟨g, cap, rfl⟩ := ownsRow_succ (k := (X.take X.length |>.filter (fun n => decide (lo < n) && decide (n < hi))).length) (by simpa [endK] using hown)
      have hbig : (endK X lo hi X.length).length = (X.take X.length |>.filter (fun n => decide (lo < n) && decide (n < hi))).length + 1 := by simp [endK]
      rw [← hbig] at *
      have HB := Lib.hid hbig
      clear hbig
      by_cases hlh : lo < hi
      · have e2 : endsL X lo hi = endK X lo hi X.length ++ [hi] := by rw [endK_all, if_pos hlh]
        have E2 := Lib.hid e2
        clear e2 hown0
        go_wp2_with (at_builtin; refine wpList_append_own _ rfl _ _ 22 rfl (w.heap.size + 1) 3 i0 (.int .i64 0) 1 8 Try.underlying22 hi0 hz0 hz1 hz2 rfl (by decide) _ _ _ rfl (hown.alloc _) ⟨wr.heap.size, 0, none⟩ 1 1 [.int .i64 hi] rfl rfl ?d1 ?d2 ?d3 ?d4 ?d5 ?_)
        case d2 => first | rfl | (intro u hu; simp at hu; subst hu; rfl)
        case d3 => first | omega | (unfold maxLen; omega)
        case d4 => omega
        case d5 => first | omega | (simp; omega)
        intro v' w1 hown' hgrow _
        have hb2 : Below w.heap.size w w1 := (hbw.alloc (by omega) (.cells #[.int .i64 hi] 3)).grown hgrow (by simp; omega) (fun q hq => by have := (hown.lt _ hq).1; omega)
        obtain ⟨g', cap', hv'⟩ := ownsRow_succ hown'
        subst hv'
        have ho : RI w1 w1.heap.size (some ⟨g', 0, none⟩) (endsL X lo hi) := by
          rw [E2.out]
          exact RI.of_own (n := (endK X lo hi X.length).length + 1) (by simpa using hown')
        have hg' : w.heap.size ≤ g' := by have := (hown'.lt g' rfl).1; omega
        clear hown' hgrow hown hc1 hc2 hbw
        go_wp2
        go_ret
        exact ⟨g', cap', by rw [E2.out]; simp, hg', ho, hb2⟩
      · have e2 : endsL X lo hi = endK X lo hi X.length := by rw [endK_all, if_neg hlh]; simp
        have E2 := Lib.hid e2
        clear e2 hown0
        go_wp2
        go_ret
        exact ⟨g, cap, by rw [E2.out]; rfl, by have := (hown.lt g rfl).1; omega, by rw [E2.out]; exact RI.of_own hown, hbw⟩

end Go.Proofs.Ythhokiigdgpmcaa

/- spans.checkBox. -/
namespace Go.Proofs.Ythhokiigdgpmcaa
open Go.RowKit

theorem RS.new2 {w : World} {x y x' y' : Int} {T : TypeId} {m : Nat × Nat} {b : Nat} (hb : w.heap.size = b) : RS (w.alloc (.cells #[.int .i64 x, .int .i64 y, .int .i64 x', .int .i64 y'] T m)) (b + 1) (some ⟨b, 0, none⟩) [(x, y), (x', y')] := fun _ =>
  ⟨_, _, rfl, by omega, fun j p hp => by
    subst hb
    match j, hp with
    | 0, hp => simp at hp; subst hp; rw [cell_newest, cell_newest]; exact ⟨rfl, rfl⟩
    | 1, hp => simp at hp; subst hp; rw [cell_newest, cell_newest]; exact ⟨rfl, rfl⟩
    | j + 2, hp => simp at hp⟩
theorem RS.new1 {w : World} {x y : Int} {T : TypeId} {m : Nat × Nat} {b : Nat} (hb : w.heap.size = b) : RS (w.alloc (.cells #[.int .i64 x, .int .i64 y] T m)) (b + 1) (some ⟨b, 0, none⟩) [(x, y)] := fun _ =>
  ⟨_, _, rfl, by omega, fun j p hp => by
    subst hb
    match j, hp with
    | 0, hp => simp at hp; subst hp; rw [cell_newest, cell_newest]; exact ⟨rfl, rfl⟩
    | j + 1, hp => simp at hp⟩

/-- checkBox's answer. -/
def cbE (X Y : List Int) (V : List (List Int)) (x1 x2 y1 y2 : Int) : Int :=
  if ctB X Y V then (if [(x1, x2), (y1, y2)].all vS then (if onB X [x1, x2] then (if onB Y [y1, y2] then 0 else 1) else 1) else 10) else 11

theorem ctB_len {X Y : List Int} {V : List (List Int)} (h : ctB X Y V = true) : 2 ≤ X.length ∧ X.length ≤ 12 ∧ 2 ≤ Y.length ∧ Y.length ≤ 12 := by
  obtain ⟨a, b, _, _⟩ := ctB_get h
  obtain ⟨c, d, _⟩ := axB_get a
  obtain ⟨e, f, _⟩ := axB_get b
  exact ⟨c, d, e, f⟩

set_option maxHeartbeats 1000000 in
theorem checkBox_any (AX AY AV : Option Addr) (nx cx ny cy nv cv B : Nat) (X Y : List Int) (V : List (List Int)) (x1 x2 y1 y2 : Int) (w : World) (hx : X.length = nx) (hy : Y.length = ny) (hv : V.length = nv) (hnx : nx ≤ maxLen) (hny : ny ≤ maxLen) (hnv : nv ≤ maxLen) (hnr : ∀ r ∈ V, r.length ≤ maxLen)
    (hB : B ≤ w.heap.size) (h : TB w B AX AY AV X Y V) :
    Calls Try.prog 71 #[.agg #[.slice AX nx cx, .slice AY ny cy, .slice AV nv cv], .agg #[.int .i64 x1, .int .i64 x2], .agg #[.int .i64 y1, .int .i64 y2]] w fun e w' => e = .returned (.int .i64 (cbE X Y V x1 x2 y1 y2)) ∧ Below w.heap.size w w' := by
  subst hx hy hv
  have hT := Lib.hid h
  have hR := Lib.hid hnr
  clear h hnr
  cases h1 : ctB X Y V with
  | false =>
    have e0 : cbE X Y V x1 x2 y1 y2 = 11 := by unfold cbE; rw [h1]; rfl
    rw [e0]
    have e1 : ctE X Y V = 11 := ctE_no h1
    clear e0
    go_enter Try.func71, Try.ntmps71
    go_wp2_with (go_at_call 104; refine Calls.mono (checkTable_any AX AY AV _ _ _ _ _ _ B X Y V _ rfl rfl rfl hnx hny hnv hR.out ?c1 (hT.out.below ?c2)) ?_; (case c1 => (simp; omega)); (case c2 => go_grown); rintro e w1 ⟨rfl, hb1⟩)
    go_ret
    exact ⟨rfl, Below.trans (by go_grown) (hb1.mono (by simp; omega))⟩
  | true =>
  have e1 : ctE X Y V = 0 := ctE_yes h1
  cases h2 : [(x1, x2), (y1, y2)].all vS with
  | false =>
    have e0 : cbE X Y V x1 x2 y1 y2 = 10 := by unfold cbE; rw [h1, h2]; rfl
    rw [e0]
    clear e0
    have H2 := Lib.hid h2
    clear h2
    go_enter Try.func71, Try.ntmps71
    go_wp2_with (first
      | (go_at_call 104; refine Calls.mono (checkTable_any AX AY AV _ _ _ _ _ _ B X Y V _ rfl rfl rfl hnx hny hnv hR.out ?c1 (hT.out.below ?c2)) ?_; (case c1 => (simp; omega)); (case c2 => go_grown); rintro e w1 ⟨rfl, hb1⟩; obtain ⟨hc1, hf1⟩ := bcell hb1; have hz1 := hb1.size; simp at hz1; have hz2 : w.heap.size < w1.heap.size := (by omega); have hz3 : w.heap.size + 1 < w1.heap.size := (by omega); have hz4 : w.heap.size + 1 + 1 < w1.heap.size := (by omega))
      | (go_at_call 82; refine Calls.mono (valid_any _ _ _ _ [(x1, x2), (y1, y2)] _ rfl (le_maxLen (by simp)) ?c3 (RS.new2 rfl)) ?_; (case c3 => simp); rintro e w2 ⟨rfl, hb2⟩; rw [H2.out]))
    go_ret
    exact ⟨rfl, (Below.trans (by go_grown) (hb1.mono (by simp; omega))).trans (Below.trans (by go_grown) (hb2.mono (by simp; omega)))⟩
  | true =>
  obtain ⟨hl1, _, hl2, _⟩ := ctB_len h1
  cases h3 : onB X [x1, x2] with
  | false =>
    have e0 : cbE X Y V x1 x2 y1 y2 = 1 := by unfold cbE; rw [h1, h2, h3]; rfl
    rw [e0]
    clear e0
    go_enter Try.func71, Try.ntmps71
    go_wp2_with (first
      | (go_at_call 104; refine Calls.mono (checkTable_any AX AY AV _ _ _ _ _ _ B X Y V _ rfl rfl rfl hnx hny hnv hR.out ?c1 (hT.out.below ?c2)) ?_; (case c1 => (simp; omega)); (case c2 => go_grown); rintro e w1 ⟨rfl, hb1⟩; obtain ⟨hc1, hf1⟩ := bcell hb1; have hz1 := hb1.size; simp at hz1; have hz2 : w.heap.size < w1.heap.size := (by omega); have hz3 : w.heap.size + 1 < w1.heap.size := (by omega); have hz4 : w.heap.size + 1 + 1 < w1.heap.size := (by omega); have hbb1 : Below w.heap.size w w1 := (Below.trans (by go_grown) (hb1.mono (by simp; omega))))
      | (go_at_call 82; refine Calls.mono (valid_any _ _ _ _ [(x1, x2), (y1, y2)] _ rfl (le_maxLen (by simp)) ?c3 (RS.new2 rfl)) ?_; (case c3 => simp); rintro e w2 ⟨rfl, hb2⟩; obtain ⟨hc2, hf2⟩ := bcell hb2; have hy1 := hb2.size; simp at hy1; have hy2 : w.heap.size < w2.heap.size := (by omega); have hy3 : w.heap.size + 1 < w2.heap.size := (by omega); have hy4 : w.heap.size + 1 + 1 < w2.heap.size := (by omega); have hbb2 : Below w.heap.size w w2 := (hbb1.trans (Below.trans (by go_grown) (hb2.mono (by simp; omega)))))
      | (go_at_call_of 105 (Value.slice AX X.length cx); refine Calls.mono (onAxis_any AX _ _ _ _ _ B _ X [x1, x2] _ rfl hnx hl1 rfl (le_maxLen (by simp)) (hT.out.x.below ?c4) (RI.new2 rfl)) ?_; (case c4 => exact (Below.trans (hbb2.mono hB) (by go_grown))); rintro e w3 ⟨rfl, hb3⟩; obtain ⟨hc3, hf3⟩ := bcell hb3; have hv1 := hb3.size; simp at hv1; have hv2 : w.heap.size < w3.heap.size := (by omega); have hv3 : w.heap.size + 1 < w3.heap.size := (by omega); have hv4 : w.heap.size + 1 + 1 < w3.heap.size := (by omega); have hbb3 : Below w.heap.size w w3 := (hbb2.trans (Below.trans (by go_grown) (hb3.mono (by simp; omega))))))
    go_ret
    exact ⟨rfl, hbb3⟩
  | true =>
  cases h4 : onB Y [y1, y2] with
  | false =>
    have e0 : cbE X Y V x1 x2 y1 y2 = 1 := by unfold cbE; rw [h1, h2, h3, h4]; rfl
    rw [e0]
    clear e0
    go_enter Try.func71, Try.ntmps71
    go_wp2_with (first
      | (go_at_call 104; refine Calls.mono (checkTable_any AX AY AV _ _ _ _ _ _ B X Y V _ rfl rfl rfl hnx hny hnv hR.out ?c1 (hT.out.below ?c2)) ?_; (case c1 => (simp; omega)); (case c2 => go_grown); rintro e w1 ⟨rfl, hb1⟩; obtain ⟨hc1, hf1⟩ := bcell hb1; have hz1 := hb1.size; simp at hz1; have hz2 : w.heap.size < w1.heap.size := (by omega); have hz3 : w.heap.size + 1 < w1.heap.size := (by omega); have hz4 : w.heap.size + 1 + 1 < w1.heap.size := (by omega); have hbb1 : Below w.heap.size w w1 := (Below.trans (by go_grown) (hb1.mono (by simp; omega))))
      | (go_at_call 82; refine Calls.mono (valid_any _ _ _ _ [(x1, x2), (y1, y2)] _ rfl (le_maxLen (by simp)) ?c3 (RS.new2 rfl)) ?_; (case c3 => simp); rintro e w2 ⟨rfl, hb2⟩; obtain ⟨hc2, hf2⟩ := bcell hb2; have hy1 := hb2.size; simp at hy1; have hy2 : w.heap.size < w2.heap.size := (by omega); have hy3 : w.heap.size + 1 < w2.heap.size := (by omega); have hy4 : w.heap.size + 1 + 1 < w2.heap.size := (by omega); have hbb2 : Below w.heap.size w w2 := (hbb1.trans (Below.trans (by go_grown) (hb2.mono (by simp; omega)))))
      | (go_at_call_of 105 (Value.slice AX X.length cx); refine Calls.mono (onAxis_any AX _ _ _ _ _ B _ X [x1, x2] _ rfl hnx hl1 rfl (le_maxLen (by simp)) (hT.out.x.below ?c4) (RI.new2 rfl)) ?_; (case c4 => exact (Below.trans (hbb2.mono hB) (by go_grown))); rintro e w3 ⟨rfl, hb3⟩; obtain ⟨hc3, hf3⟩ := bcell hb3; have hv1 := hb3.size; simp at hv1; have hv2 : w.heap.size < w3.heap.size := (by omega); have hv3 : w.heap.size + 1 < w3.heap.size := (by omega); have hv4 : w.heap.size + 1 + 1 < w3.heap.size := (by omega); have hbb3 : Below w.heap.size w w3 := (hbb2.trans (Below.trans (by go_grown) (hb3.mono (by simp; omega)))))
      | (go_at_call 105; refine Calls.mono (onAxis_any AY _ _ _ _ _ B _ Y [y1, y2] _ rfl hny hl2 rfl (le_maxLen (by simp)) (hT.out.y.below ?c5) (RI.new2 rfl)) ?_; (case c5 => exact (Below.trans (hbb3.mono hB) (by go_grown))); rintro e w4 ⟨rfl, hb4⟩; have hbb4 : Below w.heap.size w w4 := (hbb3.trans (Below.trans (by go_grown) (hb4.mono (by simp; omega))))))
    go_ret
    exact ⟨rfl, hbb4⟩
  | true =>
    have e0 : cbE X Y V x1 x2 y1 y2 = 0 := by unfold cbE; rw [h1, h2, h3, h4]; rfl
    rw [e0]
    clear e0
    go_enter Try.func71, Try.ntmps71
    go_wp2_with (first
      | (go_at_call 104; refine Calls.mono (checkTable_any AX AY AV _ _ _ _ _ _ B X Y V _ rfl rfl rfl hnx hny hnv hR.out ?c1 (hT.out.below ?c2)) ?_; (case c1 => (simp; omega)); (case c2 => go_grown); rintro e w1 ⟨rfl, hb1⟩; obtain ⟨hc1, hf1⟩ := bcell hb1; have hz1 := hb1.size; simp at hz1; have hz2 : w.heap.size < w1.heap.size := (by omega); have hz3 : w.heap.size + 1 < w1.heap.size := (by omega); have hz4 : w.heap.size + 1 + 1 < w1.heap.size := (by omega); have hbb1 : Below w.heap.size w w1 := (Below.trans (by go_grown) (hb1.mono (by simp; omega))))
      | (go_at_call 82; refine Calls.mono (valid_any _ _ _ _ [(x1, x2), (y1, y2)] _ rfl (le_maxLen (by simp)) ?c3 (RS.new2 rfl)) ?_; (case c3 => simp); rintro e w2 ⟨rfl, hb2⟩; obtain ⟨hc2, hf2⟩ := bcell hb2; have hy1 := hb2.size; simp at hy1; have hy2 : w.heap.size < w2.heap.size := (by omega); have hy3 : w.heap.size + 1 < w2.heap.size := (by omega); have hy4 : w.heap.size + 1 + 1 < w2.heap.size := (by omega); have hbb2 : Below w.heap.size w w2 := (hbb1.trans (Below.trans (by go_grown) (hb2.mono (by simp; omega)))))
      | (go_at_call_of 105 (Value.slice AX X.length cx); refine Calls.mono (onAxis_any AX _ _ _ _ _ B _ X [x1, x2] _ rfl hnx hl1 rfl (le_maxLen (by simp)) (hT.out.x.below ?c4) (RI.new2 rfl)) ?_; (case c4 => exact (Below.trans (hbb2.mono hB) (by go_grown))); rintro e w3 ⟨rfl, hb3⟩; obtain ⟨hc3, hf3⟩ := bcell hb3; have hv1 := hb3.size; simp at hv1; have hv2 : w.heap.size < w3.heap.size := (by omega); have hv3 : w.heap.size + 1 < w3.heap.size := (by omega); have hv4 : w.heap.size + 1 + 1 < w3.heap.size := (by omega); have hbb3 : Below w.heap.size w w3 := (hbb2.trans (Below.trans (by go_grown) (hb3.mono (by simp; omega)))))
      | (go_at_call 105; refine Calls.mono (onAxis_any AY _ _ _ _ _ B _ Y [y1, y2] _ rfl hny hl2 rfl (le_maxLen (by simp)) (hT.out.y.below ?c5) (RI.new2 rfl)) ?_; (case c5 => exact (Below.trans (hbb3.mono hB) (by go_grown))); rintro e w4 ⟨rfl, hb4⟩; have hbb4 : Below w.heap.size w w4 := (hbb3.trans (Below.trans (by go_grown) (hb4.mono (by simp; omega))))))
    go_ret
    exact ⟨rfl, hbb4⟩

end Go.Proofs.Ythhokiigdgpmcaa

/- spans.at. -/
namespace Go.Proofs.Ythhokiigdgpmcaa
open Go.RowKit

def AtMid (W0 : World) (a0 a1 d : Int) (s8 s9 : Value) (wx : World) : Prop :=
  ∃ g8 g9 : Nat, s8 = .pointer (some ⟨g8, 0, none⟩) ∧ s9 = .pointer (some ⟨g9, 0, none⟩) ∧ wx.cell? ⟨g8, 0, none⟩ = some (.int .i64 a0) ∧ wx.cell? ⟨g8, 1, none⟩ = some (.int .i64 d) ∧
    wx.cell? ⟨g9, 0, none⟩ = some (.int .i64 a1) ∧ wx.cell? ⟨g9, 1, none⟩ = some (.int .i64 d) ∧ Below W0.heap.size W0 wx

set_option maxHeartbeats 4000000 in
set_option maxRecDepth 100000 in
theorem at_any (AX AY AV : Option Addr) (nx cx ny cy nv cv B : Nat) (X Y : List Int) (V : List (List Int)) (x y : Int) (w : World) (hx : X.length = nx) (hy : Y.length = ny) (hv : V.length = nv)
    (hB : B ≤ w.heap.size) (h : TB w B AX AY AV X Y V) (hct : ctB X Y V = true) (ho' : On X x) (ho : On Y y) :
    Calls Try.prog 106 #[.agg #[.slice AX nx cx, .slice AY ny cy, .slice AV nv cv], .int .i64 x, .int .i64 y] w fun e w' =>
      e = .returned (.agg #[.int .i64 (atN X Y V x y), .int .i64 (atD X Y x y)]) ∧ Below w.heap.size w w' := by
  subst hx hy hv
  obtain ⟨ha, hb, hl, _⟩ := ctB_get hct
  obtain ⟨q1, q2, q3, q4⟩ := axB_get ha
  have s := seg_of ha ho'.1 ho'.2
  have sl := s.lt
  have slo := s.lo
  have shi := s.hi
  have sd1 := s.d1
  have sd2 := s.d2
  have kd := kDen_bd hb ho
  obtain ⟨kd1, kd2⟩ := kd
  obtain ⟨n1, n2⟩ := kNum_bd (i := partN X x) hct (by omega) ho
  obtain ⟨n3, n4⟩ := kNum_bd (i := partN X x + 1) hct (by omega) ho
  obtain ⟨bx, ox, x0, rfl, hbx, hx0, hcx0⟩ := h.x.at_ (k := partN X x) (by omega)
  obtain ⟨bx2, ox2, x1, hA, _, hx1, hcx1⟩ := h.x.at_ (k := partN X x + 1) (by omega)
  obtain ⟨rfl, rfl⟩ : bx2 = bx ∧ ox2 = ox := by simpa [eq_comm] using hA
  have ex0 : gz X (partN X x) = x0 := gz_of hx0
  have ex1 : gz X (partN X x + 1) = x1 := gz_of hx1
  have hon : ∀ (W0 : World) (i : Nat) (j : Int) W, Below w.heap.size w W0 → j = (i : Int) → i < X.length → Below W0.heap.size W0 W → Calls Try.prog 125 #[.agg #[.slice (some ⟨bx2, ox2, none⟩) X.length cx, .slice AY Y.length cy, .slice AV V.length cv], .int .i64 j, .int .i64 y] W fun e w' =>
      e = .returned (.agg #[.int .i64 (kNum Y V i y), .int .i64 (kDen Y y)]) ∧ Below W0.heap.size W0 w' ∧ Below W.heap.size W w' := fun W0 i j W hW0 hj hi hW => by
    subst hj
    have hs := hW0.size
    have hs' := hW.size
    have := onKnot_any _ AY AV _ cx _ cy _ cv B X Y V (i : Nat) y W rfl rfl rfl (by omega) ((h.below (hW0.mono hB)).below (hW.mono (by omega))) hct (by omega) (by omega) ho
    rw [Int.toNat_natCast] at this
    exact this.mono fun e w' ⟨h1, h2⟩ => ⟨h1, hW.trans (h2.mono hs'), h2⟩
  have e1 : atN X Y V x y = (x1 - x) * kNum Y V (partN X x) y + (x - x0) * kNum Y V (partN X x + 1) y := by unfold atN; rw [ex0, ex1]
  have e2 : atD X Y x y = (x1 - x0) * kDen Y y := by unfold atD; rw [ex0, ex1]
  rw [e1, e2]
  rw [ex0, ex1] at sd1 sd2
  rw [ex0] at slo
  rw [ex1] at shi
  obtain ⟨u5, u6⟩ := wB_mem q3 hx0
  obtain ⟨u7, u8⟩ := wB_mem q3 hx1
  have hon1 := fun W0 W hW0 => hon W0 (partN X x) (partN X x : Nat) W hW0 rfl (by omega)
  have hon2 := fun W0 W hW0 => hon W0 (partN X x + 1) ((partN X x : Nat) + 1) W hW0 (by omega) (by omega)
  generalize hk : partN X x = k at *
  have HK := Lib.hid hk
  generalize kNum Y V k y = a0 at *
  generalize kNum Y V (k + 1) y = a1 at *
  generalize kDen Y y = d at *
  have m1 := mul_bd (a := x1 - x) (u := a0) (A := 10000) (M := 10000000000) (by omega) (by omega) (by omega) (by omega) (by omega)
  have m2 := mul_bd (a := x - x0) (u := a1) (A := 10000) (M := 10000000000) (by omega) (by omega) (by omega) (by omega) (by omega)
  have m3 := mul_bd (a := x1 - x0) (u := d) (A := 10000) (M := 10000) (by omega) (by omega) (by omega) (by omega) (by omega)
  obtain ⟨m11, m12⟩ := m1
  obtain ⟨m21, m22⟩ := m2
  obtain ⟨m31, m32⟩ := m3
  have hXl : X.length ≤ maxLen := le_maxLen (by omega)
  have hX2 := q1
  have hpart : ∀ W, RI W B (some ⟨bx2, ox2, none⟩) X → Calls Try.prog 124 #[.slice (some ⟨bx2, ox2, none⟩) X.length cx, .int .i64 x] W fun e w' => e = .returned (.int .i64 (k : Nat)) ∧ W = w' := fun W hW => by
    rw [← HK.out]; exact part_any _ _ _ B X x W rfl hXl hX2 hW
  have HP := Lib.hid hpart
  have HT := Lib.hid h.x
  have HO1 := Lib.hid hon1
  have HO2 := Lib.hid hon2
  have hk1 : k < X.length := by omega
  have f4 : (k : Int) < X.length := by omega
  have f5 : (k : Int) + 1 < X.length := by omega
  have f6 : IntKind.i64.wrap ((k : Int) + 1) = (k : Int) + 1 := IntWalk.i64_in _ (by omega)
  have f7 : ((k : Int) + 1).toNat = k + 1 := by omega
  have f8 : (0 : Int) ≤ (k : Int) + 1 := by omega
  have g1 : bx2 < w.heap.size := by omega
  clear hk hpart h hA hx0 hx1 ex0 ex1 e1 e2 ha hb hl hct q3 q4 s ho ho' hon hon1 hon2
  go_enter Try.func106, Try.ntmps106
  go_upto_region 2 with (go_at_call 124; refine (HP.out _ (HT.out.below (by go_grown))).mono ?_; rintro e w' ⟨rfl, rfl⟩)
  generalize hW0 : ((w.alloc _).alloc _) = W0
  have hs0 : W0.heap.size = w.heap.size + 2 := by rw [← hW0]; simp
  have k0 : W0.cell? ⟨w.heap.size, 0, none⟩ = some (.slice (some ⟨bx2, ox2, none⟩) X.length cx) := by rw [← hW0]; simp [go_sem]
  have k1 : W0.cell? ⟨w.heap.size, 1, none⟩ = some (.slice AY Y.length cy) := by rw [← hW0]; simp [go_sem]
  have k2 : W0.cell? ⟨w.heap.size, 2, none⟩ = some (.slice AV V.length cv) := by rw [← hW0]; simp [go_sem]
  have k3 : W0.frozen? ⟨w.heap.size + 1, 0, none⟩ = false := by rw [← hW0]; simp [go_sem]
  have k4 : W0.frozen? ⟨w.heap.size + 1, 1, none⟩ = false := by rw [← hW0]; simp [go_sem]
  have k5 : W0.cell? ⟨w.heap.size + 1, 0, none⟩ = some (.int .i64 0) := by rw [← hW0]; simp [go_sem]
  have k6 : W0.cell? ⟨w.heap.size + 1, 1, none⟩ = some (.int .i64 0) := by rw [← hW0]; simp [go_sem]
  have k7 : W0.cell? ⟨bx2, ox2 + k, none⟩ = some (.int .i64 x0) := by rw [← hW0]; simp [go_sem, hcx0, g1]
  have k8 : W0.cell? ⟨bx2, ox2 + (k + 1), none⟩ = some (.int .i64 x1) := by rw [← hW0]; simp [go_sem, hcx1, g1]
  have hB0 : Below w.heap.size w W0 := by rw [← hW0]; go_grown
  have HB0 := Lib.hid hB0
  have hbx : ∀ wx : World, Below W0.heap.size W0 wx → wx.cell? ⟨w.heap.size, 0, none⟩ = some (.slice (some ⟨bx2, ox2, none⟩) X.length cx) ∧ wx.cell? ⟨w.heap.size, 1, none⟩ = some (.slice AY Y.length cy) ∧ wx.cell? ⟨w.heap.size, 2, none⟩ = some (.slice AV V.length cv) :=
    fun wx hb => ⟨cell_keep hb k0, cell_keep hb k1, cell_keep hb k2⟩
  have HBX := Lib.hid hbx
  clear hbx hW0 hcx0 hcx1 hB0
  go_cut [8, 9] (fun s8 s9 wx => AtMid W0 a0 a1 d s8 s9 wx)
  case first =>
    have hg0 : W0.heap.size ≤ W0.heap.size := Nat.le_refl _
    have hs1 : w.heap.size < W0.heap.size := by omega
    have HS0 := Lib.hid hs0
    clear hs0
    go_region_held3 (fun w' => w'.cell? ⟨w.heap.size, 0, none⟩ = some (.slice (some ⟨bx2, ox2, none⟩) X.length cx) ∧ w'.cell? ⟨w.heap.size, 1, none⟩ = some (.slice AY Y.length cy) ∧ w'.cell? ⟨w.heap.size, 2, none⟩ = some (.slice AV V.length cv))
      ((refine HBX.out _ ?_; go_grown))
      (first
        | (go_at_call_of 125 (Value.int .i64 (k : Int)); go_must (refine Calls.mono (HO1.out W0 _ HB0.out ?c1) ?_; (case c1 => (go_grown; done))); go_must (rintro e w1 ⟨rfl, hbb1, hb1⟩); have hz1 := hbb1.size; have hs2 := Nat.lt_of_lt_of_le hs1 hz1; obtain ⟨y0, y1, y2⟩ := HBX.out _ hbb1; obtain ⟨hc1, hf1⟩ := bcell hb1; have hy1 := hb1.size; (try simp [Nat.add_one_le_iff] at hy1); (try have hy1' := Nat.lt_of_succ_lt hy1))
        | (go_at_call 125; go_must (refine Calls.mono (HO2.out W0 _ HB0.out ?c1) ?_; (case c1 => (go_grown; done))); rintro e w2 ⟨rfl, hbb2, hb2⟩; have hz2 := hbb2.size; obtain ⟨hc2, hf2⟩ := bcell hb2; have hy2 := hb2.size; (try simp [Nat.add_one_le_iff] at hy2); (try have hy2' := Nat.lt_of_succ_lt hy2); (try have hq1 := Nat.lt_of_lt_of_le hy1 hy2); (try have hq2 := Nat.lt_trans hy1 hy2); (try have hq3 := Nat.lt_of_lt_of_le hy1' hy2); (try have hq4 := Nat.lt_trans hy1' hy2); (try have hq5 := Nat.lt_of_le_of_lt hy1 hy2)))
    all_goals (go_wp2_with fail; go_meet)
    all_goals
      refine ⟨_, _, rfl, rfl, ?_, ?_, ?_, ?_, ?_⟩
      · first | (go_simp; done) | (go_simp; refine World.cell?_setCell_same' _ _ _ ?_; go_simp)
      · first | (go_simp; done) | (go_simp; refine World.cell?_setCell_same' _ _ _ ?_; go_simp)
      · first | (go_simp; done) | (go_simp; refine World.cell?_setCell_same' _ _ _ ?_; go_simp)
      · first | (go_simp; done) | (go_simp; refine World.cell?_setCell_same' _ _ _ ?_; go_simp)
      · go_grown
  case rest =>
    obtain ⟨g8, g9, rfl, rfl, c1, c2, c3, c4, hbw⟩ := hcut
    obtain ⟨y0, y1, y2⟩ := HBX.out _ hbw
    have e5 := cell_keep hbw k7
    have e6 := cell_keep hbw k8
    have f1 : wc.frozen? ⟨w.heap.size + 1, 0, none⟩ = false := (hbw.frozen (p := ⟨w.heap.size + 1, 0, none⟩) (by simp; omega)).trans k3
    have f2 : wc.frozen? ⟨w.heap.size + 1, 1, none⟩ = false := (hbw.frozen (p := ⟨w.heap.size + 1, 1, none⟩) (by simp; omega)).trans k4
    have e7 := cell_keep hbw k5
    have e8 := cell_keep hbw k6
    have hbw' := Lib.hid (HB0.out.trans (hbw.mono (by omega)))
    clear k0 k1 k2 k3 k4 k5 k6 k7 k8 hs0 hbw HO1 HO2 HP HT
    go_wp2
    refine region_tail 38 (by kernel_rfl) (by kernel_rfl) ?_
    simp only [List.take_succ_cons, List.take_zero, List.drop_succ_cons, List.drop_zero]
    repeat still_step
    refine wpStill_nil ?_
    go_wp2
    have z1 : ∀ v, (wc.setCell ⟨w.heap.size + 1, 0, none⟩ v).cell? ⟨w.heap.size + 1, 0, none⟩ = some v := fun v => World.cell?_setCell_same' _ _ _ (by rw [e7]; rfl)
    have z2 : ∀ v u, ((wc.setCell ⟨w.heap.size + 1, 0, none⟩ v).setCell ⟨w.heap.size + 1, 1, none⟩ u).cell? ⟨w.heap.size + 1, 1, none⟩ = some u := fun v u => World.cell?_setCell_same' _ _ _ (by rw [World.cell?_setCell_other _ _ _ _ (by simp), e8]; rfl)
    refine bodyPost_ret (v := .agg #[.int .i64 ((x1 - x) * a0 + (x - x0) * a1), .int .i64 ((x1 - x0) * d)]) (by simp [results, Try.results106, go_sem, z1, z2]) rfl ?_
    have hb2 := hbw'.out
    exact ⟨rfl, by go_grown⟩

end Go.Proofs.Ythhokiigdgpmcaa

/- spans.corners: the iterator. -/
namespace Go.Proofs.Ythhokiigdgpmcaa
open Go.RowKit Go.Shelf

attribute [local go_sem] Oper.semAt_some

/-- Blocks of cells from m on lie as they lay. -/
def KC (m : Nat) (A B : World) : Prop := ∀ k, m ≤ k → ∀ o, A.heap[k]? = some o → o.isCells = true → B.heap[k]? = some o
theorem KC.cell {m g o : Nat} {A B : World} {v : Value} (h : KC m A B) (hk : m ≤ g) (hc : A.cell? ⟨g, o, none⟩ = some v) : B.cell? ⟨g, o, none⟩ = some v := by
  unfold World.cell? at hc ⊢
  split at hc
  · rename_i c t f hh
    rw [h g hk _ hh rfl]
    exact hc
  · cases hc
theorem RI.kc {m g n : Nat} {A B : World} {l : List Int} (h : RI A n (some ⟨g, 0, none⟩) l) (hk : KC m A B) (hg : m ≤ g) (hs : A.heap.size ≤ B.heap.size) (hn : n ≤ A.heap.size) : RI B B.heap.size (some ⟨g, 0, none⟩) l := fun hl => by
  obtain ⟨b, off, e, hb, hc⟩ := h hl
  simp only [Option.some.injEq, Addr.mk.injEq] at e
  obtain ⟨rfl, rfl, _⟩ := e
  exact ⟨_, _, rfl, by omega, fun j u hu => hk.cell hg (hc j u hu)⟩
theorem grown_of_below {a w : World} (h : Below a.heap.size a w) (row : Option Nat) : a.grownBy w row := ⟨h.os, h.tape, h.output, h.size, fun i hi _ => h.block i hi⟩

theorem KC.trans {m : Nat} {A B C : World} (h : KC m A B) (k : KC m B C) : KC m A C := fun j hj o ho hc => k j hj o (h j hj o ho hc) hc
theorem KC.of_below {m : Nat} {A B : World} (h : Below A.heap.size A B) : KC m A B := fun j _ _ ho _ => (h.block j (Array.getElem?_eq_some_iff.1 ho).1).trans ho
/-- What a round keeps: blocks below n, and those of cells from m on. -/
def KP (n m : Nat) (A B : World) : Prop := Below n A B ∧ KC m A B
theorem KP.trans {n m : Nat} {A B C : World} (h : KP n m A B) (k : KP n m B C) : KP n m A C := ⟨h.1.trans k.1, h.2.trans k.2⟩
theorem KP.of_below {n m : Nat} {A B : World} (h : Below A.heap.size A B) (hn : n ≤ A.heap.size) : KP n m A B := ⟨h.mono hn, KC.of_below h⟩

abbrev Cn := Int × Int × Int × Int
def cnV (c : Cn) : Value := .agg #[.int .i64 c.1, .int .i64 c.2.1, .int .i64 c.2.2.1, .int .i64 c.2.2.2]
def cnOf (X Y : List Int) (V : List (List Int)) (i k : Int) : Cn := (atN X Y V i k, atD X Y i k, i, k)
def cornersL (X Y : List Int) (V : List (List Int)) (EX EY : List Int) : List Cn := EX.flatMap fun i => EY.map fun k => cnOf X Y V i k

/-- What every corner of a valid table is. -/
def Good (c : Cn) : Prop := 1 ≤ c.2.1 ∧ c.2.1 ≤ 100000000 ∧ -(1000000 * c.2.1) ≤ c.1 ∧ c.1 ≤ 1000000 * c.2.1
theorem good_of {X Y : List Int} {V : List (List Int)} {x y : Int} (h : ctB X Y V = true) (hx : On X x) (hy : On Y y) : Good (cnOf X Y V x y) := by
  obtain ⟨a, b, _, _⟩ := ctB_get h
  have d := atD_bd a b hx hy
  have n := atN_bd h hx hy
  exact ⟨d.1, d.2, n.1, n.2⟩

theorem endsL_on {X : List Int} {lo hi : Int} (h1 : On X lo) (h2 : On X hi) : ∀ n ∈ endsL X lo hi, On X n := by
  intro n hn
  unfold endsL at hn
  simp only [List.mem_cons, List.mem_append, List.mem_filter, Bool.and_eq_true, decide_eq_true_eq] at hn
  rcases hn with rfl | ⟨_, h3, h4⟩ | hn
  · exact h1
  · exact ⟨by have := h1.1; omega, by have := h2.2; omega⟩
  · split at hn
    · simp at hn; subst hn; exact h2
    · simp at hn
theorem endsL_len (X : List Int) (lo hi : Int) : (endsL X lo hi).length ≤ X.length + 2 := by
  unfold endsL
  have := List.length_filter_le (fun n => decide (lo < n) && decide (n < hi)) X
  split <;> simp <;> omega

theorem split_at {α : Type} {l : List α} {k : Nat} {x : α} (h : l[k]? = some x) : l = l.take k ++ x :: l.drop (k + 1) := by
  obtain ⟨hk, rfl⟩ := List.getElem?_eq_some_iff.1 h
  rw [← List.drop_eq_getElem_cons hk, List.take_append_drop]
theorem corn_pre {X Y : List Int} {V : List (List Int)} {EX EY : List Int} {a k : Nat} {x0 y0 : Int} (hx : EX[a]? = some x0) (hy : EY[k]? = some y0) :
    ∃ rest, cornersL X Y V EX EY = (cornersL X Y V (EX.take a) EY ++ (EY.take k).map (cnOf X Y V x0)) ++ [cnOf X Y V x0 y0] ++ rest := by
  refine ⟨(EY.drop (k + 1)).map (cnOf X Y V x0) ++ cornersL X Y V (EX.drop (a + 1)) EY, ?_⟩
  have e1 : cornersL X Y V EX EY = cornersL X Y V (EX.take a) EY ++ (EY.map (cnOf X Y V x0) ++ cornersL X Y V (EX.drop (a + 1)) EY) := by
    conv => lhs; rw [split_at hx]
    simp [cornersL]
  have e2 : EY.map (cnOf X Y V x0) = (EY.take k).map (cnOf X Y V x0) ++ cnOf X Y V x0 y0 :: (EY.drop (k + 1)).map (cnOf X Y V x0) := by
    conv => lhs; rw [split_at hy]
    simp
  rw [e1, e2]
  simp only [List.append_assoc, List.cons_append, List.nil_append]
theorem corn_row {X Y : List Int} {V : List (List Int)} {EX EY : List Int} {a : Nat} {x0 : Int} (hx : EX[a]? = some x0) :
    cornersL X Y V (EX.take (a + 1)) EY = cornersL X Y V (EX.take a) EY ++ EY.map (cnOf X Y V x0) := by
  unfold cornersL
  rw [List.take_add_one, hx]
  simp

set_option maxRecDepth 100000 in
set_option maxHeartbeats 1600000 in
theorem corners1_in (n : Nat) (hn : 3 ≤ n) (l bT bX bY n₀ m₀ B : Nat) (AX AY AV : Option Addr) (cx cy cv : Nat) (X Y : List Int) (V : List (List Int)) (x1 x2 y1 y2 : Int) (EX EY : List Int) (hEXe : Hid (endsL X x1 x2 = EX)) (hEYe : Hid (endsL Y y1 y2 = EY)) (J Jx : List Cn → World → Prop)
    (hct : ctB X Y V = true) (hx1 : On X x1) (hx2 : On X x2) (hy1 : On Y y1) (hy2 : On Y y2)
    (hT : m₀ ≤ bT) (hX : m₀ ≤ bX) (hBn : B ≤ n₀) (hnm : n₀ ≤ m₀)
    (W : World) (hm : m₀ ≤ W.heap.size) (hJ : AbidesFrom W.heap.size J)
    (hY : ∀ pre x W1, Good x → J pre W1 → pre.length < (cornersL X Y V EX EY).length → YieldAt Fence.wide (n - 1) Try.prog l #[cnV x] W1 fun e W' =>
      (e = .returned (.bool true) ∧ J (pre ++ [x]) W' ∧ KP n₀ m₀ W1 W') ∨ (e = .returned (.bool false) ∧ Jx (pre ++ [x]) W'))
    (hb : TB W B AX AY AV X Y V)
    (k0 : W.cell? ⟨bT, 0, none⟩ = some (.slice AX X.length cx)) (k1 : W.cell? ⟨bT, 1, none⟩ = some (.slice AY Y.length cy)) (k2 : W.cell? ⟨bT, 2, none⟩ = some (.slice AV V.length cv))
    (k3 : W.cell? ⟨bX, 0, none⟩ = some (.int .i64 x1)) (k4 : W.cell? ⟨bX, 1, none⟩ = some (.int .i64 x2)) (k5 : W.cell? ⟨bY, 0, none⟩ = some (.int .i64 y1)) (k6 : W.cell? ⟨bY, 1, none⟩ = some (.int .i64 y2))
    (h0 : J [] W) :
    CallsIn Fence.wide n Try.prog 113 #[.func (.yield l) #[] #[], .pointer (some ⟨bT, 0, none⟩), .pointer (some ⟨bY, 0, none⟩), .pointer (some ⟨bX, 0, none⟩)] W fun e W' => (∃ v, e = .returned v) ∧
      ((∃ ys, ys = cornersL X Y V EX EY ∧ J ys W') ∨ (∃ pre, pre <+: cornersL X Y V EX EY ∧ Jx pre W')) := by
  obtain ⟨hl1, hl2, hl3, hl4⟩ := ctB_len hct
  have box : ∀ wr : World, KP n₀ m₀ W wr → wr.cell? ⟨bT, 0, none⟩ = some (.slice AX X.length cx) ∧ wr.cell? ⟨bT, 1, none⟩ = some (.slice AY Y.length cy) ∧ wr.cell? ⟨bT, 2, none⟩ = some (.slice AV V.length cv) ∧
      wr.cell? ⟨bX, 0, none⟩ = some (.int .i64 x1) ∧ wr.cell? ⟨bX, 1, none⟩ = some (.int .i64 x2) ∧ TB wr B AX AY AV X Y V := fun wr h =>
    ⟨h.2.cell hT k0, h.2.cell hT k1, h.2.cell hT k2, h.2.cell hX k3, h.2.cell hX k4, hb.below (h.1.mono hBn)⟩
  have hEX := endsL_on hx1 hx2
  have hEY := endsL_on hy1 hy2
  have hlx := endsL_len X x1 x2
  have hly := endsL_len Y y1 y2
  rw [hEXe.out] at hEX hlx
  rw [hEYe.out] at hEY hly
  have HY := Lib.hid hY
  have HJ := Lib.hid hJ
  have HBX := Lib.hid box
  have HEX := Lib.hid hEX
  have HEY := Lib.hid hEY
  have HCT := Lib.hid hct
  clear hY hJ box hEX hEY hct hx1 hx2 hy1 hy2
  refine callsIn_of_wp Try.func113 rfl trivial ?_ rfl
  simp only [Try.ntmps113, List.size_toArray, List.length_cons, List.length_nil, Nat.reduceAdd, Nat.reduceSub, Array.replicate_succ, Array.replicate_zero, List.push_toArray, List.append_toArray, List.nil_append, List.cons_append]
  gi_wp2_with (fail)
  refine ⟨trivial, fun _ => by omega, ?_⟩
  have hE1 := ends_any AY _ cy B Y y1 y2 W rfl (by omega) (by omega) hb.y
  rw [hEYe.out] at hE1
  refine CallsIn.mono (callsIn_wide.2 hE1) ?_
  clear hE1
  rintro e W1 ⟨g1, c1, rfl, hg1, hr1, hbw1⟩
  have hz1 := hbw1.size
  have q1 : KP n₀ m₀ W W1 := KP.of_below hbw1 (by omega)
  obtain ⟨j0, j1, j2, j3, j4, j5⟩ := HBX.out W1 q1
  have hJ1 : J [] W1 := HJ.out _ _ _ none h0 (grown_of_below hbw1 none) (fun r e => by cases e)
  clear h0
  gi_wp2_with (fail)
  refine ⟨trivial, fun _ => by omega, ?_⟩
  have hE2 := ends_any AX _ cx B X x1 x2 W1 rfl (by omega) (by omega) j5.x
  rw [hEXe.out] at hE2
  refine CallsIn.mono (callsIn_wide.2 hE2) ?_
  clear hE2
  rintro e W2 ⟨g2, c2, rfl, hg2, hr2, hbw2⟩
  have hz2 := hbw2.size
  have q2 : KP n₀ m₀ W W2 := q1.trans (KP.of_below hbw2 (by omega))
  have hJ2 : J [] W2 := HJ.out _ _ _ none hJ1 (grown_of_below hbw2 none) (fun r e => by cases e)
  have hr1' : RI W2 W2.heap.size (some ⟨g1, 0, none⟩) EY := (hr1.below hbw2).more hz2
  clear hJ1 j0 j1 j2 j3 j4 j5 k0 k1 k2 k3 k4 k5 k6 hr1
  have hgg1 : m₀ ≤ g1 := by omega
  have hgg2 : m₀ ≤ g2 := by omega
  gi_wp2_with (fail)
  gi_loopw [19] (fun i wr => ∃ a : Nat, a ≤ EX.length ∧ i = .int .i64 a ∧ J (cornersL X Y V (EX.take a) EY) wr ∧ KP n₀ m₀ W wr ∧ RI wr wr.heap.size (some ⟨g1, 0, none⟩) EY ∧ RI wr wr.heap.size (some ⟨g2, 0, none⟩) EX) (fun i _ => EX.length - (intOf i).toNat)
  case atStart => exact ⟨0, Nat.zero_le _, rfl, by simpa [cornersL] using hJ2, q2, hr1', hr2⟩
  case round =>
    obtain ⟨a, ha, rfl, hJa, qa, ra1, ra2⟩ := hrel
    by_cases hlt : a < EX.length
    · obtain ⟨g2', o2, x0, he, hgb, hx0, hcx0⟩ := ra2.at_ hlt
      obtain ⟨rfl, rfl⟩ : g2 = g2' ∧ 0 = o2 := by simpa using he
      have HX0 := Lib.hid hx0
      have hox := HEX.out x0 (List.mem_of_getElem? hx0)
      have HOX := Lib.hid hox
      simp only [Nat.zero_add] at hcx0
      clear hx0 hox he hJ2 q2 hr1' hr2
      gi_wp2_with (fail)
      gi_loopw [25] (fun i wr => ∃ k : Nat, k ≤ EY.length ∧ i = .int .i64 k ∧ J (cornersL X Y V (EX.take a) EY ++ (EY.take k).map (cnOf X Y V x0)) wr ∧ KP n₀ m₀ W wr ∧ RI wr wr.heap.size (some ⟨g1, 0, none⟩) EY ∧ RI wr wr.heap.size (some ⟨g2, 0, none⟩) EX) (fun i _ => EY.length - (intOf i).toNat)
      case atStart => exact ⟨0, Nat.zero_le _, rfl, by simpa using hJa, qa, ra1, ra2⟩
      case round =>
        obtain ⟨k, hk, rfl, hJk, qk, rk1, rk2⟩ := hrel
        by_cases hlk : k < EY.length
        · obtain ⟨g1', o1, y0, he, hgb1, hy0, hcy0⟩ := rk1.at_ hlk
          obtain ⟨rfl, rfl⟩ : g1 = g1' ∧ 0 = o1 := by simpa using he
          have HY0 := Lib.hid hy0
          have hoy := HEY.out y0 (List.mem_of_getElem? hy0)
          have HOY := Lib.hid hoy
          simp only [Nat.zero_add] at hcy0
          obtain ⟨j0, j1, j2, _, _, j5⟩ := HBX.out wr qk
          obtain ⟨rest, hrest⟩ := corn_pre (X := X) (Y := Y) (V := V) HX0.out HY0.out
          have HR := Lib.hid hrest
          have hlen : (cornersL X Y V (EX.take a) EY ++ (EY.take k).map (cnOf X Y V x0)).length < (cornersL X Y V EX EY).length := by rw [hrest]; simp
          have HL := Lib.hid hlen
          clear hrest hlen hy0 hoy he
          gi_wp2_with (fail)
          refine ⟨trivial, fun _ => by omega, ?_⟩
          refine CallsIn.mono (callsIn_wide.2 (at_any AX AY AV _ cx _ cy _ cv B X Y V x0 y0 wr rfl rfl rfl (by have := qk.1.size; omega) j5 HCT.out HOX.out HOY.out)) ?_
          rintro e w1 ⟨rfl, hbw⟩
          have hsz1 := hbw.size
          have hJ1 := HJ.out _ _ _ none hJk (grown_of_below hbw none) (fun r e => by cases e)
          obtain ⟨fn, tmps, assign, body, hy, hR⟩ := HY.out _ (cnOf X Y V x0 y0) w1 (good_of HCT.out HOX.out HOY.out) hJ1 HL.out
          have q3 : KP n₀ m₀ W w1 := qk.trans (KP.of_below hbw (by have := qk.1.size; omega))
          have r31 := (rk1.below hbw).more hsz1
          have r32 := (rk2.below hbw).more hsz1
          clear hJ1 hJk rk1 rk2 hcy0 hcx0 j0 j1 j2 j5
          dsimp only [cnV, cnOf] at hy
          gi_wp2_with (fail)
          refine ⟨fun _ => by omega, hR.mono ?_⟩
          rintro e W3 (⟨rfl, hJ3, hk3⟩ | ⟨rfl, hJx3⟩)
          · have q4 : KP n₀ m₀ W W3 := q3.trans hk3
            have s31 := r31.kc hk3.2 hgg1 hk3.1.size (Nat.le_refl _)
            have s32 := r32.kc hk3.2 hgg2 hk3.1.size (Nat.le_refl _)
            clear hy hR
            gi_wp2
            go_roundw
            case rel =>
              refine ⟨k + 1, by omega, by go_num, ?_, q4, s31, s32⟩
              have : (EY.take (k + 1)).map (cnOf X Y V x0) = (EY.take k).map (cnOf X Y V x0) ++ [cnOf X Y V x0 y0] := by
                rw [List.take_add_one, HY0.out]; simp
              rw [this, ← List.append_assoc]
              exact hJ3
            case measure => simp [intOf]; omega
          · clear hy hR
            gi_wp2
            refine bodyPost_ret (results_none rfl _ _ _) rfl ?_
            exact ⟨⟨_, rfl⟩, .inr ⟨_, ⟨rest, by rw [HR.out]⟩, hJx3⟩⟩
        · gi_wp2
          go_roundw
          case rel =>
            refine ⟨a + 1, by omega, by go_num, ?_, qk, rk1, rk2⟩
            rw [corn_row HX0.out]
            rw [show EY.take k = EY from List.take_of_length_le (by omega)] at hJk
            exact hJk
          case measure => simp [intOf]; omega
    · gi_wp2
      go_end0
      exact ⟨⟨_, rfl⟩, .inl ⟨_, by rw [List.take_of_length_le (by omega)], hJa⟩⟩

abbrev GC := { c : Cn // Good c }
/-- The iterator's contract. -/
theorem corners_stops (n : Nat) (hn : 3 ≤ n) (bT bX bY n₀ m₀ B : Nat) (AX AY AV : Option Addr) (cx cy cv : Nat) (X Y : List Int) (V : List (List Int)) (x1 x2 y1 y2 : Int) (EX EY : List Int) (hEXe : Hid (endsL X x1 x2 = EX)) (hEYe : Hid (endsL Y y1 y2 = EY))
    (hct : ctB X Y V = true) (hx1 : On X x1) (hx2 : On X x2) (hy1 : On Y y1) (hy2 : On Y y2)
    (hT : m₀ ≤ bT) (hX : m₀ ≤ bX) (hBn : B ≤ n₀) (hnm : n₀ ≤ m₀)
    (w : World) (hm : m₀ ≤ w.heap.size) (hb : TB w B AX AY AV X Y V)
    (k0 : w.cell? ⟨bT, 0, none⟩ = some (.slice AX X.length cx)) (k1 : w.cell? ⟨bT, 1, none⟩ = some (.slice AY Y.length cy)) (k2 : w.cell? ⟨bT, 2, none⟩ = some (.slice AV V.length cv))
    (k3 : w.cell? ⟨bX, 0, none⟩ = some (.int .i64 x1)) (k4 : w.cell? ⟨bX, 1, none⟩ = some (.int .i64 x2)) (k5 : w.cell? ⟨bY, 0, none⟩ = some (.int .i64 y1)) (k6 : w.cell? ⟨bY, 1, none⟩ = some (.int .i64 y2)) :
    SeqStopsK Fence.wide n Try.prog 113 #[.pointer (some ⟨bT, 0, none⟩), .pointer (some ⟨bY, 0, none⟩), .pointer (some ⟨bX, 0, none⟩)] (fun x : GC => #[cnV x.1]) (KP n₀ m₀) (fun ys => ys.map (·.1) = cornersL X Y V EX EY) (fun pre => pre.map (·.1) <+: cornersL X Y V EX EY)
      (cornersL X Y V EX EY).length w := fun l J Jx W hW hJ _ hY h0 => by
  have hs := hW.size
  refine (corners1_in n hn l bT bX bY n₀ m₀ B AX AY AV cx cy cv X Y V x1 x2 y1 y2 EX EY hEXe hEYe (fun p W => ∃ q : List GC, q.map (·.1) = p ∧ J q W) (fun p W => ∃ q : List GC, q.map (·.1) = p ∧ Jx q W) hct hx1 hx2 hy1 hy2 hT hX hBn hnm W (by omega) ?_ ?_ (hb.below (hW.mono (by omega)))
    (cell_keep hW k0) (cell_keep hW k1) (cell_keep hW k2) (cell_keep hW k3) (cell_keep hW k4) (cell_keep hW k5) (cell_keep hW k6) ⟨[], rfl, h0⟩).mono ?_
  · rintro p A C row ⟨q, hq, hj⟩ hg hr
    exact ⟨q, hq, hJ q A C row hj hg hr⟩
  · rintro p x W1 hgx ⟨q, rfl, hj⟩ hl
    refine (hY q ⟨x, hgx⟩ W1 hj (by simpa using hl)).mono ?_
    rintro e W' (⟨h1, h2, h3⟩ | ⟨h1, h2⟩)
    · exact .inl ⟨h1, ⟨_, by simp, h2⟩, h3⟩
    · exact .inr ⟨h1, ⟨_, by simp, h2⟩⟩
  · rintro e W' ⟨hv, ⟨ys, rfl, q, hq, hj⟩ | ⟨p, hp, q, rfl, hj⟩⟩
    · exact ⟨hv, .inl ⟨q, hq, hj⟩⟩
    · exact ⟨hv, .inr ⟨q, hp, hj⟩⟩

theorem corners_any (AX AY AV : Option Addr) (nx cx ny cy nv cv : Nat) (x1 x2 y1 y2 : Int) (w : World) :
    Calls Try.prog 73 #[.agg #[.slice AX nx cx, .slice AY ny cy, .slice AV nv cv], .agg #[.int .i64 x1, .int .i64 x2], .agg #[.int .i64 y1, .int .i64 y2]] w fun e w' =>
      e = .returned (.func (.func 113) #[] #[.pointer (some ⟨w.heap.size, 0, none⟩), .pointer (some ⟨w.heap.size + 1 + 1, 0, none⟩), .pointer (some ⟨w.heap.size + 1, 0, none⟩)]) ∧
      ((w.alloc (.cells #[.slice AX nx cx, .slice AY ny cy, .slice AV nv cv] 25)).alloc (.cells #[.int .i64 x1, .int .i64 x2] 34)).alloc (.cells #[.int .i64 y1, .int .i64 y2] 34) = w' := by
  have hmf : ∀ (fn : Fn) (first cap : Array Value) (w : World), (Instr.makeFunc fn first cap).run Try.prog w = .ok (.func fn first cap) w := fun _ _ _ _ => rfl
  go_enter Try.func73, Try.ntmps73
  go_wp2
  go_ret
  exact ⟨rfl, rfl⟩

end Go.Proofs.Ythhokiigdgpmcaa

/- A region that draws its order, by an invariant: one step an operation, in whatever order. -/
namespace Go.Proofs.Ythhokiigdgpmcaa

section
variable {F : Fence} {n : Nat} {P : Program} {ops : Array Oper} {Q : Exit → Act → World → Prop}

def dstOf (ops : Array Oper) (i : Nat) : Option Tmp := (ops[i]?).bind (·.dst)

/-- Each operation writes a slot of its own, that the frame has; and each waits for earlier ones alone. -/
def regionB (ops : Array Oper) (N : Nat) : Bool :=
  (List.range ops.size).all fun i =>
    ((ops[i]?).map fun o => o.after.all fun e => !Region.binds .any e || decide (e.on < i)).getD true &&
    match dstOf ops i with
    | none => true
    | some s => decide (s < N) && (List.range ops.size).all fun j => decide (i = j) || dstOf ops j != some s

structure Fr (ops : Array Oper) (T : Array Value) (val : Nat → Value) (L : Array Bool) (a : Act) : Prop where
  defers : a.defers = []
  size : a.tmps.size = T.size
  lsize : L.size = ops.size
  done : ∀ i s, dstOf ops i = some s → L.getD i false = true → a.tmps.getD s undef = val i
  base : ∀ s, (∀ i, dstOf ops i = some s → L.getD i false = false) → a.tmps.getD s undef = T.getD s undef
  closed : ∀ j o, ops[j]? = some o → L.getD j false = true → ∀ e ∈ o.after, Region.binds .any e = true → L.getD e.on false = true

theorem getD_same {L : Array Bool} {i : Nat} (h : i < L.size) : L.getD i true = L.getD i false := by simp [h]
theorem getD_set_eq {L : Array Bool} {i : Nat} (h : i < L.size) : (L.setIfInBounds i true).getD i false = true := by simp [h]
theorem getD_set_other {L : Array Bool} {i j : Nat} (h : i ≠ j) : (L.setIfInBounds i true).getD j false = L.getD j false := by
  simp [h]

theorem Fr.put {T : Array Value} {val : Nat → Value} {L : Array Bool} {a : Act} {i : Nat} {o : Oper} (h : Fr ops T val L a) (hB : regionB ops T.size = true) (ho : ops[i]? = some o) (hl : L.getD i true = false) (hpre : ∀ e ∈ o.after, Region.binds .any e = true → L.getD e.on false = true) :
    Fr ops T val (L.setIfInBounds i true) (a.put o.dst (val i)) := by
  have hi : i < ops.size := (Array.getElem?_eq_some_iff.1 ho).1
  have hiL : i < L.size := by rw [h.lsize]; exact hi
  have hd : dstOf ops i = o.dst := by unfold dstOf; rw [ho]; rfl
  have hl' : L.getD i false = false := by rw [← getD_same hiL]; exact hl
  have hB' := List.all_eq_true.1 hB i (List.mem_range.2 hi)
  rw [Bool.and_eq_true] at hB'
  have hB2 := hB'.2
  have hcl : ∀ j oj, ops[j]? = some oj → (L.setIfInBounds i true).getD j false = true → ∀ e ∈ oj.after, Region.binds .any e = true → (L.setIfInBounds i true).getD e.on false = true := by
    intro j oj hoj hlj e he hb
    have key : L.getD e.on false = true := by
      by_cases hij : i = j
      · subst hij
        rw [ho] at hoj
        cases hoj
        exact hpre e he hb
      · rw [getD_set_other hij] at hlj
        exact h.closed j oj hoj hlj e he hb
    by_cases hie : i = e.on
    · rw [← hie]; exact getD_set_eq hiL
    · rw [getD_set_other hie]; exact key
  cases hs : o.dst with
  | none =>
    refine ⟨h.defers, h.size, by simpa using h.lsize, fun j s hj hlj => ?_, fun s hn => ?_, hcl⟩
    · have hne : i ≠ j := fun e => by subst e; rw [hd, hs] at hj; cases hj
      rw [getD_set_other hne] at hlj
      exact h.done j s hj hlj
    · refine h.base s fun j hj => ?_
      have hne : i ≠ j := fun e => by subst e; rw [hd, hs] at hj; cases hj
      have := hn j hj
      rwa [getD_set_other hne] at this
  | some s0 =>
    rw [hd, hs] at hB2
    simp only [Bool.and_eq_true, decide_eq_true_eq] at hB2
    obtain ⟨hlt, hall⟩ := hB2
    have huniq : ∀ j, dstOf ops j = some s0 → i = j := fun j hj => by
      have hjl : j < ops.size := by
        unfold dstOf at hj
        cases hoj : ops[j]? with
        | none => rw [hoj] at hj; cases hj
        | some oj => exact (Array.getElem?_eq_some_iff.1 hoj).1
      have := List.all_eq_true.1 hall j (List.mem_range.2 hjl)
      simp only [Bool.or_eq_true, decide_eq_true_eq, bne_iff_ne, ne_eq] at this
      exact this.resolve_right (fun hne => hne hj)
    have hput : (a.put (some s0) (val i)).tmps = a.tmps.setIfInBounds s0 (val i) := rfl
    refine ⟨h.defers, by rw [hput]; simpa using h.size, by simpa using h.lsize, fun j s hj hlj => ?_, fun s hn => ?_, hcl⟩
    · rw [hput]
      by_cases hji : i = j
      · subst hji
        rw [hd, hs] at hj
        cases hj
        have : s0 < a.tmps.size := by rw [h.size]; exact hlt
        simp [this]
      · rw [getD_set_other hji] at hlj
        have hne : s0 ≠ s := fun e => by subst e; exact hji (huniq j hj)
        have := h.done j s hj hlj
        simpa [Array.getElem?_setIfInBounds, hne] using this
    · rw [hput]
      have hne : s0 ≠ s := fun e => by
        subst e
        have := hn i (by rw [hd, hs])
        rw [getD_set_eq hiL] at this
        cases this
      have := h.base s fun j hj => by
        have hne : i ≠ j := fun e => by subst e; rw [hd, hs] at hj; cases hj; exact hne rfl
        have := hn j hj
        rwa [getD_set_other hne] at this
      simpa [Array.getElem?_setIfInBounds, hne] using this

theorem getD_replicate_no (m j : Nat) : (Array.replicate m false).getD j false = false := by
  rcases Nat.lt_or_ge j m with h | h
  · simp [h]
  · simp [h]

theorem step_plain {o : Oper} {y : Nat → Option Bool} {A B : Prop} (hg : o.guard = none) (h : A) : if Region.wanted o y then A else B := by
  have : Region.wanted o y = true := by unfold Region.wanted; rw [hg]
  rw [if_pos this]
  exact h

def noDst (ops : Array Oper) (s : Tmp) : Bool := (List.range ops.size).all fun j => dstOf ops j != some s
theorem Fr.was {T : Array Value} {val : Nat → Value} {L : Array Bool} {a : Act} (h : Fr ops T val L a) (s : Tmp) {v : Value} (hs : noDst ops s = true) (hv : T.getD s undef = v) : a.tmps[s]?.getD undef = v := by
  rw [← Array.getD_eq_getD_getElem?]
  exact (h.base s fun i hi => by
    have hil : i < ops.size := by
      unfold dstOf at hi
      cases hoj : ops[i]? with
      | none => rw [hoj] at hi; cases hi
      | some oj => exact (Array.getElem?_eq_some_iff.1 hoj).1
    have := List.all_eq_true.1 hs i (List.mem_range.2 hil)
    simp [hi] at this).trans hv
theorem Fr.gave {T : Array Value} {val : Nat → Value} {L : Array Bool} {a : Act} (h : Fr ops T val L a) (i : Nat) {s : Tmp} {v : Value} (hi : dstOf ops i = some s) (hl : L.getD i false = true) (hv : val i = v) : a.tmps[s]?.getD undef = v := by
  rw [← Array.getD_eq_getD_getElem?]
  exact (h.done i s hi hl).trans hv
/-- An operation for which j waits has not come up: so j has not, either. -/
theorem Fr.later {T : Array Value} {val : Nat → Value} {L : Array Bool} {a : Act} (h : Fr ops T val L a) {i : Nat} (hl : L.getD i true = false) (j : Nat) {o : Oper} (ho : ops[j]? = some o) {e : Edge} (he : e ∈ o.after) (hb : Region.binds .any e = true) (hi : e.on = i) : L.getD j false = false := by
  cases hj : L.getD j false with
  | false => rfl
  | true =>
    have h1 := h.closed j o ho hj e he hb
    rw [hi] at h1
    by_cases hlt : i < L.size
    · rw [getD_same hlt] at hl
      rw [hl] at h1
      cases h1
    · simp [hlt] at hl

/-- How many operations are not yet listed. -/
def left (N : Nat) (L : Array Bool) : Nat := (List.range N).countP fun i => !L.getD i true
theorem left_set {L : Array Bool} {i : Nat} (hi : i < L.size) (hl : L.getD i true = false) : left L.size (L.setIfInBounds i true) + 1 ≤ left L.size L := by
  unfold left
  have hmem : i ∈ List.range L.size := List.mem_range.2 hi
  obtain ⟨l1, l2, hsplit⟩ := List.append_of_mem hmem
  rw [hsplit]
  simp only [List.countP_append, List.countP_cons]
  have hnd : (List.range L.size).Nodup := List.nodup_range
  rw [hsplit] at hnd
  have hn1 : ∀ x ∈ l1, i ≠ x := fun x hx e => by
    subst e
    have := (List.nodup_append.1 hnd).2.2 i hx i (by simp)
    exact this rfl
  have hn2 : ∀ x ∈ l2, i ≠ x := fun x hx e => by
    subst e
    have := (List.nodup_append.1 hnd).2.1
    rw [List.nodup_cons] at this
    exact this.1 hx
  have e1 : l1.countP (fun j => !(L.setIfInBounds i true).getD j true) = l1.countP (fun j => !L.getD j true) :=
    List.countP_congr fun x hx => by rw [getD_set_ne true (hn1 x hx)]
  have e2 : l2.countP (fun j => !(L.setIfInBounds i true).getD j true) = l2.countP (fun j => !L.getD j true) :=
    List.countP_congr fun x hx => by rw [getD_set_ne true (hn2 x hx)]
  have e3 : (L.setIfInBounds i true).getD i true = true := by simp
  rw [e1, e2, hl, e3]
  simp
  omega

theorem anyIn_inv {T : Array Value} {val : Nat → Value} {R : Array Bool → World → Prop} (hB : regionB ops T.size = true)
    (hstep : ∀ i o, ops[i]? = some o → ∀ L b W, Fr ops T val L b → R L W → (∀ e ∈ o.after, Region.binds .any e = true → L.getD e.on false = true) → L.getD i true = false →
      if Region.wanted o (yielded ops b.tmps) then o.wpIn F n P b W (fun b' W' => b' = b.put o.dst (val i) ∧ R (L.setIfInBounds i true) W') Q
      else (∀ f, o.about P W b.eval = some f → F.fn f) ∧ val i = undef ∧ R (L.setIfInBounds i true) W)
    (hend : ∀ L b W, Fr ops T val L b → (∀ i, i < ops.size → L.getD i false = true) → R L W → Q .normal b W) :
    ∀ fuel L b W, Fr ops T val L b → R L W → left ops.size L ≤ fuel → wpAnyIn F n P .any ops Q fuel L b W := by
  have hnone : ∀ L b W, Fr ops T val L b → R L W → Region.ready .any ops L = [] → Q .normal b W := by
    intro L b W hF hR hr
    refine hend L b W hF ?_ hR
    intro i
    induction i using Nat.strongRecOn with
    | ind i ih =>
      intro hi
      cases hl : L.getD i false with
      | true => rfl
      | false =>
        have hiL : i < L.size := by rw [hF.lsize]; exact hi
        have ho : ops[i]? = some ops[i] := Array.getElem?_eq_getElem hi
        have hB' := List.all_eq_true.1 hB i (List.mem_range.2 hi)
        rw [Bool.and_eq_true] at hB'
        have hB1 := hB'.1
        rw [ho] at hB1
        simp only [Option.map_some, Option.getD_some, Array.all_eq_true_iff_forall_mem, Bool.or_eq_true, Bool.not_eq_true', decide_eq_true_eq] at hB1
        have : i ∈ Region.ready .any ops L := mem_ready.2 ⟨by rw [getD_same hiL]; exact hl, _, ho, fun e he hb => by
          have hlt := (hB1 e he).resolve_left (by rw [hb]; simp)
          exact ih e.on hlt (by omega)⟩
        rw [hr] at this
        cases this
  intro fuel
  induction fuel with
  | zero =>
    intro L b W hF hR hle
    have hr : Region.ready .any ops L = [] := by
      rw [List.eq_nil_iff_forall_not_mem]
      intro i hi
      obtain ⟨hl, o, ho, _⟩ := mem_ready.1 hi
      have hio : i < ops.size := (Array.getElem?_eq_some_iff.1 ho).1
      have hpos : 0 < left ops.size L := List.countP_pos_iff.2 ⟨i, List.mem_range.2 hio, by rw [hl]; rfl⟩
      omega
    exact ⟨hr, hnone L b W hF hR hr⟩
  | succ fuel ih =>
    intro L b W hF hR hle
    refine ⟨hnone L b W hF hR, fun i hi => ?_⟩
    obtain ⟨hl, o, ho, hpre⟩ := mem_ready.1 hi
    have hio : i < ops.size := (Array.getElem?_eq_some_iff.1 ho).1
    have hiL : i < L.size := by rw [hF.lsize]; exact hio
    have hs := hstep i o ho L b W hF hR hpre hl
    have hls := left_set hiL hl
    rw [hF.lsize] at hls
    have hF' := hF.put hB ho hl hpre
    unfold wpOpIn
    rw [ho]
    dsimp only
    split
    · rename_i hw
      rw [if_pos hw] at hs
      refine Oper.wpIn_mono ?_ hs
      rintro a w ⟨rfl, hR'⟩
      exact ih _ _ _ hF' hR' (by omega)
    · rename_i hw
      rw [if_neg hw] at hs
      refine ⟨hs.1, ?_⟩
      rw [← hs.2.1]
      exact ih _ _ _ hF' hs.2.2 (by omega)

/-- THE RULE: a region that draws its order: each operation, wherever it may come up, gives its slot the value that belongs to it and keeps R. -/
theorem region_inv {id : Nat} {a : Act} {w : World} (hm : P.follows .mixedOrders = true) (val : Nat → Value) (R : Array Bool → World → Prop) (hB : regionB ops a.tmps.size = true) (hd : a.defers = [])
    (h0 : R (Array.replicate ops.size false) w.drew)
    (hstep : ∀ i o, ops[i]? = some o → ∀ L b W, Fr ops a.tmps val L b → R L W → (∀ e ∈ o.after, Region.binds .any e = true → L.getD e.on false = true) → L.getD i true = false →
      if Region.wanted o (yielded ops b.tmps) then o.wpIn F n P b W (fun b' W' => b' = b.put o.dst (val i) ∧ R (L.setIfInBounds i true) W') Q
      else (∀ f, o.about P W b.eval = some f → F.fn f) ∧ val i = undef ∧ R (L.setIfInBounds i true) W)
    (hend : ∀ L b W, Fr ops a.tmps val L b → (∀ i, i < ops.size → L.getD i false = true) → R L W → Q .normal b W) : (Code.region id ops true).wpIn F n P Q a w := by
  refine wpIn_region_any hm (anyIn_inv hB hstep hend _ _ _ _ ⟨hd, rfl, by simp, fun i s _ hl => ?_, fun s _ => rfl, fun j o _ hl => ?_⟩ h0 ?_)
  · rw [getD_replicate_no] at hl; cases hl
  · rw [getD_replicate_no] at hl; cases hl
  · unfold left; exact Nat.le_trans List.countP_le_length (by simp)

/-! ### The same, where a value hangs on the order (the address of a new block): the values are part of the state. -/
def upd (val : Nat → Value) (i : Nat) (v : Value) : Nat → Value := fun j => if j = i then v else val j
theorem upd_same (val : Nat → Value) (i : Nat) (v : Value) : upd val i v i = v := by simp [upd]
theorem upd_other {val : Nat → Value} {i j : Nat} {v : Value} (h : j ≠ i) : upd val i v j = val j := by simp [upd, h]
theorem Fr.upd_ {T : Array Value} {val : Nat → Value} {L : Array Bool} {a : Act} {i : Nat} {v : Value} (h : Fr ops T val L a) (hi : i < ops.size) (hl : L.getD i true = false) : Fr ops T (upd val i v) L a :=
  ⟨h.defers, h.size, h.lsize, fun j s hj hlj => by
    have hne : j ≠ i := fun e => by
      subst e
      rw [getD_same (by rw [h.lsize]; exact hi), hlj] at hl
      cases hl
    rw [upd_other hne]
    exact h.done j s hj hlj, h.base, h.closed⟩

theorem anyIn_inv2 {T : Array Value} {R : (Nat → Value) → Array Bool → World → Prop} (hB : regionB ops T.size = true)
    (hstep : ∀ i o, ops[i]? = some o → ∀ val L b W, Fr ops T val L b → R val L W → (∀ e ∈ o.after, Region.binds .any e = true → L.getD e.on false = true) → L.getD i true = false →
      if Region.wanted o (yielded ops b.tmps) then o.wpIn F n P b W (fun b' W' => ∃ v, b' = b.put o.dst v ∧ R (upd val i v) (L.setIfInBounds i true) W') Q
      else (∀ f, o.about P W b.eval = some f → F.fn f) ∧ R (upd val i undef) (L.setIfInBounds i true) W)
    (hend : ∀ val L b W, Fr ops T val L b → (∀ i, i < ops.size → L.getD i false = true) → R val L W → Q .normal b W) :
    ∀ fuel val L b W, Fr ops T val L b → R val L W → left ops.size L ≤ fuel → wpAnyIn F n P .any ops Q fuel L b W := by
  have hnone : ∀ val L b W, Fr ops T val L b → R val L W → Region.ready .any ops L = [] → Q .normal b W := by
    intro val L b W hF hR hr
    refine hend val L b W hF ?_ hR
    intro i
    induction i using Nat.strongRecOn with
    | ind i ih =>
      intro hi
      cases hl : L.getD i false with
      | true => rfl
      | false =>
        have hiL : i < L.size := by rw [hF.lsize]; exact hi
        have ho : ops[i]? = some ops[i] := Array.getElem?_eq_getElem hi
        have hB' := List.all_eq_true.1 hB i (List.mem_range.2 hi)
        rw [Bool.and_eq_true] at hB'
        have hB1 := hB'.1
        rw [ho] at hB1
        simp only [Option.map_some, Option.getD_some, Array.all_eq_true_iff_forall_mem, Bool.or_eq_true, Bool.not_eq_true', decide_eq_true_eq] at hB1
        have : i ∈ Region.ready .any ops L := mem_ready.2 ⟨by rw [getD_same hiL]; exact hl, _, ho, fun e he hb => by
          have hlt := (hB1 e he).resolve_left (by rw [hb]; simp)
          exact ih e.on hlt (by omega)⟩
        rw [hr] at this
        cases this
  intro fuel
  induction fuel with
  | zero =>
    intro val L b W hF hR hle
    have hr : Region.ready .any ops L = [] := by
      rw [List.eq_nil_iff_forall_not_mem]
      intro i hi
      obtain ⟨hl, o, ho, _⟩ := mem_ready.1 hi
      have hio : i < ops.size := (Array.getElem?_eq_some_iff.1 ho).1
      have hpos : 0 < left ops.size L := List.countP_pos_iff.2 ⟨i, List.mem_range.2 hio, by rw [hl]; rfl⟩
      omega
    exact ⟨hr, hnone val L b W hF hR hr⟩
  | succ fuel ih =>
    intro val L b W hF hR hle
    refine ⟨hnone val L b W hF hR, fun i hi => ?_⟩
    obtain ⟨hl, o, ho, hpre⟩ := mem_ready.1 hi
    have hio : i < ops.size := (Array.getElem?_eq_some_iff.1 ho).1
    have hiL : i < L.size := by rw [hF.lsize]; exact hio
    have hs := hstep i o ho val L b W hF hR hpre hl
    have hls := left_set hiL hl
    rw [hF.lsize] at hls
    have hput : ∀ v, Fr ops T (upd val i v) (L.setIfInBounds i true) (b.put o.dst v) := fun v => by
      have := (hF.upd_ (v := v) hio hl).put hB ho hl hpre
      rwa [upd_same] at this
    unfold wpOpIn
    rw [ho]
    dsimp only
    split
    · rename_i hw
      rw [if_pos hw] at hs
      refine Oper.wpIn_mono ?_ hs
      rintro a w ⟨v, rfl, hR'⟩
      exact ih _ _ _ _ (hput v) hR' (by omega)
    · rename_i hw
      rw [if_neg hw] at hs
      exact ⟨hs.1, ih _ _ _ _ (hput undef) hs.2 (by omega)⟩

theorem region_inv2 {id : Nat} {a : Act} {w : World} (hm : P.follows .mixedOrders = true) (R : (Nat → Value) → Array Bool → World → Prop) (hB : regionB ops a.tmps.size = true) (hd : a.defers = [])
    (h0 : R (fun _ => undef) (Array.replicate ops.size false) w.drew)
    (hstep : ∀ i o, ops[i]? = some o → ∀ val L b W, Fr ops a.tmps val L b → R val L W → (∀ e ∈ o.after, Region.binds .any e = true → L.getD e.on false = true) → L.getD i true = false →
      if Region.wanted o (yielded ops b.tmps) then o.wpIn F n P b W (fun b' W' => ∃ v, b' = b.put o.dst v ∧ R (upd val i v) (L.setIfInBounds i true) W') Q
      else (∀ f, o.about P W b.eval = some f → F.fn f) ∧ R (upd val i undef) (L.setIfInBounds i true) W)
    (hend : ∀ val L b W, Fr ops a.tmps val L b → (∀ i, i < ops.size → L.getD i false = true) → R val L W → Q .normal b W) : (Code.region id ops true).wpIn F n P Q a w := by
  refine wpIn_region_any hm (anyIn_inv2 hB hstep hend _ _ _ _ _ ⟨hd, rfl, by simp, fun i s _ hl => ?_, fun s _ => rfl, fun j o _ hl => ?_⟩ h0 ?_)
  · rw [getD_replicate_no] at hl; cases hl
  · rw [getD_replicate_no] at hl; cases hl
  · unfold left; exact Nat.le_trans List.countP_le_length (by simp)

/-- The frame behind the region, written out. -/
def final (ops : Array Oper) (T : Array Value) (val : Nat → Value) : List Nat → Array Value
  | [] => T
  | i :: l => match dstOf ops i with
    | some s => (final ops T val l).setIfInBounds s (val i)
    | none => final ops T val l
theorem final_size (ops : Array Oper) (T : Array Value) (val : Nat → Value) : ∀ l, (final ops T val l).size = T.size
  | [] => rfl
  | i :: l => by
    unfold final
    split
    · simp [final_size ops T val l]
    · exact final_size ops T val l
theorem final_base (ops : Array Oper) (T : Array Value) (val : Nat → Value) (s : Tmp) : ∀ l, (∀ i ∈ l, dstOf ops i ≠ some s) → (final ops T val l)[s]? = T[s]?
  | [], _ => rfl
  | i :: l, h => by
    unfold final
    split
    · rename_i s' hs
      have hne : s' ≠ s := fun e => h i (by simp) (by rw [hs, e])
      rw [Array.getElem?_setIfInBounds]
      simp only [hne, if_false]
      exact final_base ops T val s l fun j hj => h j (by simp [hj])
    · exact final_base ops T val s l fun j hj => h j (by simp [hj])
theorem final_done (ops : Array Oper) (T : Array Value) (val : Nat → Value) (s : Tmp) (hs : s < T.size) (i : Nat) (hi : dstOf ops i = some s) (hu : ∀ j, dstOf ops j = some s → i = j) : ∀ l, i ∈ l → (final ops T val l)[s]? = some (val i)
  | [], h => by simp at h
  | j :: l, h => by
    unfold final
    by_cases hij : i = j
    · subst hij
      rw [hi]
      simp [final_size, hs]
    · have hmem : i ∈ l := by simpa [hij] using h
      have ih := final_done ops T val s hs i hi hu l hmem
      split
      · rename_i s' hs'
        have hne : s' ≠ s := fun e => by subst e; exact hij (hu j hs')
        rw [Array.getElem?_setIfInBounds]
        simp only [hne, if_false]
        exact ih
      · exact ih
theorem Fr.all {T : Array Value} {val : Nat → Value} {L : Array Bool} {a : Act} (h : Fr ops T val L a) (hB : regionB ops T.size = true) (hall : ∀ i, i < ops.size → L.getD i false = true) : a = { tmps := final ops T val (List.range ops.size), defers := [] } := by
  have hlt : ∀ i s, dstOf ops i = some s → i < ops.size := fun i s hi => by
    unfold dstOf at hi
    cases hoj : ops[i]? with
    | none => rw [hoj] at hi; cases hi
    | some oj => exact (Array.getElem?_eq_some_iff.1 hoj).1
  have key : a.tmps = final ops T val (List.range ops.size) := by
    apply Array.ext (by rw [final_size]; exact h.size)
    intro s h1 h2
    have hsT : s < T.size := by rw [← h.size]; exact h1
    have e : a.tmps[s]? = (final ops T val (List.range ops.size))[s]? := by
      by_cases hex : ∃ i, dstOf ops i = some s
      · obtain ⟨i, hi⟩ := hex
        have hil := hlt i s hi
        have hu : ∀ j, dstOf ops j = some s → i = j := fun j hj => by
          have hB' := List.all_eq_true.1 hB i (List.mem_range.2 hil)
          rw [Bool.and_eq_true] at hB'
          have hB2 := hB'.2
          rw [hi] at hB2
          simp only [Bool.and_eq_true, decide_eq_true_eq] at hB2
          have := List.all_eq_true.1 hB2.2 j (List.mem_range.2 (hlt j s hj))
          simp only [Bool.or_eq_true, decide_eq_true_eq, bne_iff_ne, ne_eq] at this
          exact this.resolve_right (fun hne => hne hj)
        rw [final_done ops T val s hsT i hi hu _ (List.mem_range.2 hil)]
        have := h.done i s hi (hall i hil)
        rw [Array.getElem?_eq_getElem h1]
        simpa [h1] using this
      · have hno : ∀ i, dstOf ops i ≠ some s := fun i hi => hex ⟨i, hi⟩
        rw [final_base ops T val s _ fun i _ => hno i]
        have := h.base s fun i hi => absurd hi (hno i)
        rw [Array.getElem?_eq_getElem h1, Array.getElem?_eq_getElem hsT]
        simpa [h1, hsT] using this
    rw [Array.getElem?_eq_getElem h1, Array.getElem?_eq_getElem h2] at e
    exact Option.some.inj e
  cases a
  simp only at key
  have hd := h.defers
  simp only at hd
  rw [key, hd]

end
end Go.Proofs.Ythhokiigdgpmcaa

/- Words and small lemmas for memory, used by the walks. -/
import Derived.Test.YtliocbjmledfbaaRows
import Derived.WalkKit
import Derived.WalkSpells
import Derived.WalkLawsBesides
import Derived.Handy
import Derived.Lib.Hide
import Derived.Deep.AppendLies
import Derived.Deep.Draws
import Derived.Deep.QuietTactic
import Derived.BigQuiet
import Derived.Lib.MinMax
import Derived.Deep.RegionWith
import Derived.Deep.RegionHeld3
import Derived.StillTailTactics
import Derived.Deep.CutRange
import Derived.Deep.DeepCutAuto
import Derived.Deep.LoopGhost
import Derived.Deep.DeepFit
namespace Go.Proofs.Ytliocbjmledfbaa
open Go.RowKit

/-- The slice with the pointer A reads as the cells xs (one cell an element), and lies below block B. -/
def RV (w : World) (B : Nat) (A : Option Addr) (xs : List Value) : Prop :=
  0 < xs.length → ∃ b off, A = some ⟨b, off, none⟩ ∧ b < B ∧ ∀ j u, xs[j]? = some u → w.cell? ⟨b, off + j, none⟩ = some u

section
variable {w w' : World} {B B' : Nat} {A : Option Addr} {xs : List Value}
theorem RV.at_ {k : Nat} (h : RV w B A xs) (hk : k < xs.length) : ∃ b off u, A = some ⟨b, off, none⟩ ∧ b < B ∧ xs[k]? = some u ∧ w.cell? ⟨b, off + k, none⟩ = some u := by
  obtain ⟨b, off, e, hb, hc⟩ := h (by omega)
  exact ⟨b, off, xs[k], e, hb, List.getElem?_eq_getElem hk, hc k _ (List.getElem?_eq_getElem hk)⟩
theorem RV.keep (h : RV w B A xs) (hk : ∀ p : Addr, p.block < B → w'.cell? p = w.cell? p) : RV w' B A xs := fun hn => by
  obtain ⟨b, off, e, hb, hc⟩ := h hn
  exact ⟨b, off, e, hb, fun j u hu => (hk _ hb).trans (hc j u hu)⟩
theorem RV.more (h : RV w B A xs) (hB : B ≤ B') : RV w B' A xs := fun hn => by
  obtain ⟨b, off, e, hb, hc⟩ := h hn
  exact ⟨b, off, e, by omega, hc⟩
theorem RV.below (h : RV w B A xs) (hb : Below B w w') : RV w' B A xs := h.keep fun _ hp => hb.cell hp
theorem RV.nil : RV w B A [] := fun h => absurd h (by simp)
end

/-- A slice of ints. -/
def RI (w : World) (B : Nat) (A : Option Addr) (xs : List Int) : Prop := RV w B A (xs.map (Value.int .i64))

section
variable {w w' : World} {B B' : Nat} {A : Option Addr} {xs : List Int}
theorem RI.at_ {k : Nat} (h : RI w B A xs) (hk : k < xs.length) : ∃ b off x, A = some ⟨b, off, none⟩ ∧ b < B ∧ xs[k]? = some x ∧ w.cell? ⟨b, off + k, none⟩ = some (.int .i64 x) := by
  obtain ⟨b, off, u, e, hb, hu, hc⟩ := RV.at_ h (k := k) (by simpa using hk)
  simp only [List.getElem?_map, Option.map_eq_some_iff] at hu
  obtain ⟨x, hx, rfl⟩ := hu
  exact ⟨b, off, x, e, hb, hx, hc⟩
theorem RI.below (h : RI w B A xs) (hb : Below B w w') : RI w' B A xs := RV.below h hb
theorem cell_newest (w : World) (cs : Array Value) (T : TypeId) (m : Nat × Nat) (o : Nat) : (w.alloc (.cells cs T m)).cell? ⟨w.heap.size, o, none⟩ = cs[o]? := by
  show (match (w.heap.push (.cells cs T m))[w.heap.size]? with | some (.cells c _ _) => if (none : Option Nat).isSome then none else c[o]? | _ => none) = _
  simp
theorem RI.drew {w : World} {B : Nat} {A : Option Addr} {xs : List Int} (h : RI w B A xs) : RI w.drew B A xs := h
theorem RI.drewN {w : World} {B : Nat} {A : Option Addr} {xs : List Int} (h : RI w B A xs) (k : Nat) : RI (w.drewN k) B A xs := h
theorem RI.new1 {w : World} {x : Int} {T : TypeId} {m : Nat × Nat} {b : Nat} (hb : w.heap.size = b) : RI (w.alloc (.cells #[.int .i64 x] T m)) (b + 1) (some ⟨b, 0, none⟩) [x] := fun _ =>
  ⟨_, _, rfl, by omega, fun j u hu => by
    subst hb
    match j, hu with
    | 0, hu => simp at hu; subst hu; rw [cell_newest]; rfl
    | j + 1, hu => simp at hu⟩
theorem RI.new2 {w : World} {x y : Int} {T : TypeId} {m : Nat × Nat} {b : Nat} (hb : w.heap.size = b) : RI (w.alloc (.cells #[.int .i64 x, .int .i64 y] T m)) (b + 1) (some ⟨b, 0, none⟩) [x, y] := fun _ =>
  ⟨_, _, rfl, by omega, fun j u hu => by
    subst hb
    match j, hu with
    | 0, hu => simp at hu; subst hu; rw [cell_newest]; rfl
    | 1, hu => simp at hu; subst hu; rw [cell_newest]; rfl
    | j + 2, hu => simp at hu⟩

/-- A slice of spans. -/
def RS (w : World) (B : Nat) (A : Option Addr) (l : List (Int × Int)) : Prop :=
  0 < l.length → ∃ b off, A = some ⟨b, off, none⟩ ∧ b < B ∧ ∀ j p, l[j]? = some p → w.cell? ⟨b, off + j * 2, none⟩ = some (.int .i64 p.1) ∧ w.cell? ⟨b, off + j * 2 + 1, none⟩ = some (.int .i64 p.2)
theorem RS.at_ {l : List (Int × Int)} {k : Nat} (h : RS w B A l) (hk : k < l.length) : ∃ b off p, A = some ⟨b, off, none⟩ ∧ b < B ∧ l[k]? = some p ∧ w.cell? ⟨b, off + k * 2, none⟩ = some (.int .i64 p.1) ∧ w.cell? ⟨b, off + k * 2 + 1, none⟩ = some (.int .i64 p.2) := by
  obtain ⟨b, off, e, hb, hc⟩ := h (by omega)
  exact ⟨b, off, l[k], e, hb, List.getElem?_eq_getElem hk, hc k _ (List.getElem?_eq_getElem hk)⟩
theorem RS.keep {l : List (Int × Int)} (h : RS w B A l) (hk : ∀ p : Addr, p.block < B → w'.cell? p = w.cell? p) : RS w' B A l := fun hn => by
  obtain ⟨b, off, e, hb, hc⟩ := h hn
  exact ⟨b, off, e, hb, fun j u hu => ⟨(hk _ hb).trans (hc j u hu).1, (hk _ hb).trans (hc j u hu).2⟩⟩
theorem RS.below {l : List (Int × Int)} (h : RS w B A l) (hb : Below B w w') : RS w' B A l := h.keep fun _ hp => hb.cell hp
theorem RS.more {l : List (Int × Int)} (h : RS w B A l) (hB : B ≤ B') : RS w B' A l := fun hn => by
  obtain ⟨b, off, e, hb, hc⟩ := h hn
  exact ⟨b, off, e, by omega, hc⟩

/-- A slice of slices of ints. -/
def RR (w : World) (B : Nat) (A : Option Addr) (V : List (List Int)) : Prop :=
  0 < V.length → ∃ b off, A = some ⟨b, off, none⟩ ∧ b < B ∧ ∀ j r, V[j]? = some r → ∃ A' c', w.cell? ⟨b, off + j, none⟩ = some (.slice A' r.length c') ∧ RI w B A' r
theorem RR.at_ {V : List (List Int)} {k : Nat} (h : RR w B A V) (hk : k < V.length) : ∃ b off r A' c', A = some ⟨b, off, none⟩ ∧ b < B ∧ V[k]? = some r ∧ w.cell? ⟨b, off + k, none⟩ = some (.slice A' r.length c') ∧ RI w B A' r := by
  obtain ⟨b, off, e, hb, hc⟩ := h (by omega)
  obtain ⟨A', c', h1, h2⟩ := hc k _ (List.getElem?_eq_getElem hk)
  exact ⟨b, off, V[k], A', c', e, hb, List.getElem?_eq_getElem hk, h1, h2⟩
theorem RR.keep {V : List (List Int)} (h : RR w B A V) (hk : ∀ p : Addr, p.block < B → w'.cell? p = w.cell? p) : RR w' B A V := fun hn => by
  obtain ⟨b, off, e, hb, hc⟩ := h hn
  refine ⟨b, off, e, hb, fun j r hr => ?_⟩
  obtain ⟨A', c', h1, h2⟩ := hc j r hr
  exact ⟨A', c', (hk _ hb).trans h1, RV.keep h2 hk⟩
theorem RR.below {V : List (List Int)} (h : RR w B A V) (hb : Below B w w') : RR w' B A V := h.keep fun _ hp => hb.cell hp
theorem RR.more {V : List (List Int)} (h : RR w B A V) (hB : B ≤ B') : RR w B' A V := fun hn => by
  obtain ⟨b, off, e, hb, hc⟩ := h hn
  refine ⟨b, off, e, by omega, fun j r hr => ?_⟩
  obtain ⟨A', c', h1, h2⟩ := hc j r hr
  exact ⟨A', c', h1, RV.more h2 hB⟩

/-- A table. -/
structure TB (w : World) (B : Nat) (AX AY AV : Option Addr) (X Y : List Int) (V : List (List Int)) : Prop where
  x : RI w B AX X
  y : RI w B AY Y
  v : RR w B AV V
theorem TB.below {AX AY AV : Option Addr} {X Y : List Int} {V : List (List Int)} (h : TB w B AX AY AV X Y V) (hb : Below B w w') : TB w' B AX AY AV X Y V := ⟨h.x.below hb, h.y.below hb, h.v.below hb⟩
theorem TB.more {AX AY AV : Option Addr} {X Y : List Int} {V : List (List Int)} (h : TB w B AX AY AV X Y V) (hB : B ≤ B') : TB w B' AX AY AV X Y V := ⟨h.x.more hB, h.y.more hB, h.v.more hB⟩

theorem quiet_add {P : Program} {f : FuncId} {args : Array Value} {w : World} {a n : Nat} {v : Value}
    (h : Calls P f args (w.drewN (a + n)) fun e w' => e = .returned v ∧ w.drewN (a + n) = w') :
    Calls P f args (w.drewN (a + n)) fun e w'' => e = .returned v ∧ ∃ m, w'' = w.drewN (a + m) :=
  h.mono fun _ _ ⟨he, hm⟩ => ⟨he, n, hm.symm⟩
theorem quiet_left {P : Program} {f : FuncId} {args : Array Value} {w : World} {n : Nat} {v : Value}
    (h : Calls P f args (w.drewN n) fun e w' => e = .returned v ∧ w.drewN n = w') : Calls P f args (w.drewN n) fun e w'' => e = .returned v ∧ ∃ m, w'' = w.drewN m :=
  h.mono fun _ _ ⟨he, hm⟩ => ⟨he, n, hm.symm⟩

theorem region_tail {P : Program} {id : Nat} {Q : Exit → Act → World → Prop} {a : Act} {w : World} {l : List Oper} (n : Nat) (hm : P.follows .mixedOrders = true) (hB : Region.lexTailB .any l.toArray n = true)
    (h : wpStill P l.toArray w.drew (fun a' => wpList P l.toArray Q (l.drop n) a' w.drew) (l.take n) a) : (Code.region id l.toArray true).wp P Q a w := wp_region_still_tail n hm hB h

/-- A cell that was there reads as it did. -/
theorem cell_keep {W w1 : World} (hb : Below W.heap.size W w1) {b o : Nat} {v : Value} (h : W.cell? ⟨b, o, none⟩ = some v) : w1.cell? ⟨b, o, none⟩ = some v :=
  (hb.cell (p := ⟨b, o, none⟩) (World.block_lt_of_cell? W _ h)).trans h

theorem le_maxLen {n : Nat} (h : n ≤ 1000000) : n ≤ maxLen := by unfold maxLen; omega

theorem bcell {W w1 : World} (hb : Below W.heap.size W w1) : (∀ b o, b < W.heap.size → w1.cell? ⟨b, o, none⟩ = W.cell? ⟨b, o, none⟩) ∧ (∀ b o, b < W.heap.size → w1.frozen? ⟨b, o, none⟩ = W.frozen? ⟨b, o, none⟩) :=
  ⟨fun b o h => hb.cell (p := ⟨b, o, none⟩) h, fun b o h => hb.frozen (p := ⟨b, o, none⟩) h⟩
theorem ret_int {k : IntKind} {a b : Int} (h : a = b) : Ending.returned (.int k a) = .returned (.int k b) := by rw [h]
theorem ret_bool {a b : Bool} (h : a = b) : Ending.returned (.bool a) = .returned (.bool b) := by rw [h]
theorem RI.more (h : RI w B A xs) (hB : B ≤ B') : RI w B' A xs := RV.more h hB
end

end Go.Proofs.Ytliocbjmledfbaa

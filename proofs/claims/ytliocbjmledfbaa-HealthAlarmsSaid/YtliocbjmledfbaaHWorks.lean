/- works(). -/
import Derived.Test.YtliocbjmledfbaaHChance2
import Derived.Test.YtliocbjmledfbaaHExplain
import Derived.Test.YtliocbjmledfbaaHSame
import Derived.Test.YtliocbjmledfbaaHCrestRow
namespace Go.Proofs.Ytliocbjmledfbaa
open Go.RowKit

theorem RI.newL {w : World} {cs : Array Value} {T : TypeId} {m : Nat × Nat} {b B : Nat} {xs : List Int} (hb : w.heap.size = b) (hB : b < B) (hc : cs = (xs.map (Value.int .i64)).toArray) : RI (w.alloc (.cells cs T m)) B (some ⟨b, 0, none⟩) xs := fun _ =>
  ⟨_, _, rfl, hB, fun j u hu => by
    subst hb
    rw [Nat.zero_add, cell_newest, hc]
    simpa using hu⟩
def prCells (l : List (Int × Int)) : List Value := l.flatMap fun p => [.int .i64 p.1, .int .i64 p.2]
theorem prCells_get {l : List (Int × Int)} {k : Nat} {x : Int × Int} (h : l[k]? = some x) : (prCells l)[k * 2]? = some (.int .i64 x.1) ∧ (prCells l)[k * 2 + 1]? = some (.int .i64 x.2) := by
  induction l generalizing k with
  | nil => simp at h
  | cons y l ih =>
    cases k with
    | zero => simp at h; subst h; simp [prCells]
    | succ k =>
      have := ih (k := k) (by simpa using h)
      simp only [prCells, List.flatMap_cons] at this ⊢
      rw [show (k + 1) * 2 = k * 2 + 2 by omega, show k * 2 + 2 + 1 = (k * 2 + 1) + 2 by omega]
      simpa using this
theorem RS.newL {w : World} {cs : Array Value} {T : TypeId} {m : Nat × Nat} {b B : Nat} {l : List (Int × Int)} (hb : w.heap.size = b) (hB : b < B) (hc : cs = (prCells l).toArray) : RS (w.alloc (.cells cs T m)) B (some ⟨b, 0, none⟩) l := fun _ =>
  ⟨_, _, rfl, hB, fun j p hp => by
    subst hb
    obtain ⟨h0, h1⟩ := prCells_get hp
    rw [Nat.zero_add, cell_newest, cell_newest, hc]
    exact ⟨by simpa using h0, by simpa using h1⟩⟩

def exV4 : List Int := [3, 5, 4, 6]
def exC5 : List (Int × Int) := [(0, 0), (0, 1), (0, 2), (1, 1), (2, 1)]
theorem ex_lst : lst exV4 = (4, 24) := by decide +kernel
theorem ex_low : lowN 4 24 = (1, 6) := by decide
theorem ex_val : valB exV4 = true := by decide
theorem ex_ck : ckB 3 3 exC5 = true := by decide +kernel
theorem ex_few : fewN exC5 (2 ^ 3) = [(1, 2)] := by decide +kernel
theorem ex_b1 : bitsL 1 = [0] := by decide
theorem ex_b2 : bitsL 2 = [1] := by decide

set_option maxRecDepth 100000 in
theorem works_any : WK := by
  intro w
  have HC := Lib.hid (fun (W : World) (hW : RI W W.heap.size (some ⟨w.heap.size, 0, none⟩) exV4) => Chance_ok (some ⟨w.heap.size, 0, none⟩) 4 4 W.heap.size exV4 W rfl (by omega) (Nat.le_refl _) hW ex_val (by rw [ex_lst]; decide))
  rw [ex_lst, ex_low] at HC
  have HE := Lib.hid (fun (g : Nat) (W : World) (hW : RS W W.heap.size (some ⟨g, 0, none⟩) exC5) => explain_ok 3 3 (some ⟨g, 0, none⟩) 5 5 W.heap.size exC5 W rfl (by omega) (Nat.le_refl _) hW ex_ck [(1, 2)] (fun W' => by rw [ex_few]; exact sort_one W' _) 1 2 rfl (by omega) (by omega))
  rw [ex_b1, ex_b2] at HE
  have HS := Lib.hid (fun (A A' : Option Addr) (c c' : Nat) (x : Int) (W : World) (h : RI W W.heap.size A [x]) (h' : RI W W.heap.size A' [x]) => same_yes A A' 1 c c' W.heap.size W.heap.size [x] W rfl (le_maxLen (by omega)) (Nat.le_refl _) (Nat.le_refl _) h h')
  go_enter Try.func22, Try.ntmps22
  go_upto_region 3 with (first
    | (go_at_call 34; refine Calls.mono (HC.out _ (RI.newL rfl (by simp) rfl)) ?_; rintro e w1 ⟨rfl, hb1⟩; have HB1 := Lib.hid (Below.trans (show Below w.heap.size w (w.alloc _) from (Below.refl _ _).alloc (Nat.le_refl _) _) (hb1.mono (by simp))); clear hb1)
    | (go_at_call 45; refine Calls.mono (HE.out _ _ (RS.newL rfl (by simp) rfl)) ?_; rintro e w2 ⟨A1, c1, A2, c2, rfl, hr1, hr2, hb2⟩; have HB2 := Lib.hid (HB1.out.trans (Below.trans ((Below.refl _ _).alloc (Nat.le_refl _) _) (hb2.mono (by simp)) |>.mono HB1.out.size)); have HR := Lib.hid (And.intro hr1 hr2); clear hb2 hr1 hr2))
  have hz2 := HB2.out.size
  have HA0 := Lib.hid (show RI (w2.alloc (.cells #[.int .i64 0] 3)) (w2.alloc (.cells #[.int .i64 0] 3)).heap.size A1 [0] from (HR.out.1.below ((Below.refl _ _).alloc (Nat.le_refl _) _)).more (by simp))
  have HA1 := Lib.hid (show RI (w2.alloc (.cells #[.int .i64 0] 3)) (w2.alloc (.cells #[.int .i64 0] 3)).heap.size (some ⟨w2.heap.size, 0, none⟩) [0] from RI.newL rfl (by simp) rfl)
  go_wp2_with (first
    | (go_at_call_of 21 (Value.slice A1 1 c1); refine Calls.mono (HS.out A1 (some ⟨w2.heap.size, 0, none⟩) c1 1 0 _ HA0.out HA1.out) ?_; rintro e w3 ⟨rfl, hb3⟩; have HB3 := Lib.hid ((HB2.out.alloc hz2 _).trans (hb3.mono (by simp; omega))); have hz3 := hb3.size; simp at hz3; have HA2 := Lib.hid (((HR.out.2.below ((Below.refl _ _).alloc (Nat.le_refl _) _)).more (show w2.heap.size ≤ (w2.alloc (.cells #[.int .i64 0] 3)).heap.size by simp)).below hb3); clear hb3)
    | (go_at_call 21; refine Calls.mono (HS.out A2 (some ⟨w3.heap.size, 0, none⟩) c2 1 1 _ ((HA2.out.more (by simp; omega)).below ((Below.refl _ _).alloc (Nat.le_refl _) _) |>.more (by simp)) (RI.newL rfl (by simp) rfl)) ?_; rintro e w4 ⟨rfl, hb4⟩))
  go_ret
  exact ⟨rfl, HB3.out.trans (Below.trans ((Below.refl _ _).alloc (Nat.le_refl _) _) (hb4.mono (by simp)) |>.mono HB3.out.size)⟩
end Go.Proofs.Ytliocbjmledfbaa

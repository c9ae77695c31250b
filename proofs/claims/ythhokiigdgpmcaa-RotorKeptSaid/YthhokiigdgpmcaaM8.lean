/- Contracts of the functions that the statement reaches: DMach, DHold, DSame, DFil, DChkA, JHoist, Rb, JWinch, JCar, JFirst. -/
import Derived.Test.YthhokiigdgpmcaaM7
import Derived.Test.YthhokiigdgpmcaaM6
import Derived.Test.YthhokiigdgpmcaaM4

/- Layer 2: a machine's methods: its looks. -/
namespace Go.Proofs.Ythhokiigdgpmcaa
open Go.RowKit

set_option maxRecDepth 100000
theorem hover_any (r : RO) (a : AI) (w : World) : Calls Try.prog 60 #[.agg #[.slice r.h.ax r.h.X.length r.h.cx, .slice r.h.ay r.h.Y.length r.h.cy, .slice r.h.av r.h.V.length r.h.cv, .slice r.g.ax r.g.X.length r.g.cx, .slice r.g.ay r.g.Y.length r.g.cy, .slice r.g.av r.g.V.length r.g.cv, .slice r.l.ax r.l.X.length r.l.cx, .slice r.l.ay r.l.Y.length r.l.cy, .slice r.l.av r.l.V.length r.l.cv, .slice r.p.ax r.p.X.length r.p.cx, .slice r.p.ay r.p.Y.length r.p.cy, .slice r.p.av r.p.V.length r.p.cv, .slice r.n.ax r.n.X.length r.n.cx, .slice r.n.ay r.n.Y.length r.n.cy, .slice r.n.av r.n.V.length r.n.cv, .slice r.a.ax r.a.X.length r.a.cx, .slice r.a.ay r.a.Y.length r.a.cy, .slice r.a.av r.a.V.length r.a.cv, .slice r.b.ax r.b.X.length r.b.cx, .slice r.b.ay r.b.Y.length r.b.cy, .slice r.b.av r.b.V.length r.b.cv, .slice r.d.ax r.d.X.length r.d.cx, .slice r.d.ay r.d.Y.length r.d.cy, .slice r.d.av r.d.V.length r.d.cv, .int .i64 r.cl, .int .i64 r.bu, .int .i64 a.w.1, .int .i64 a.w.2, .int .i64 a.t.1, .int .i64 a.t.2, .int .i64 a.h.1, .int .i64 a.h.2, .int .i64 a.v.1, .int .i64 a.v.2]] w fun e w' => e = .returned (.agg #[.slice r.h.ax r.h.X.length r.h.cx, .slice r.h.ay r.h.Y.length r.h.cy, .slice r.h.av r.h.V.length r.h.cv, .int .i64 a.w.1, .int .i64 a.w.2, .int .i64 a.t.1, .int .i64 a.t.2]) ∧ Below w.heap.size w w' := by
  go_enter Try.func60, Try.ntmps60
  go_wp2
  go_returns
  exact ⟨rfl, by go_grown⟩
theorem ground_any (r : RO) (a : AI) (s : Int × Int) (w : World) : Calls Try.prog 61 #[.agg #[.slice r.h.ax r.h.X.length r.h.cx, .slice r.h.ay r.h.Y.length r.h.cy, .slice r.h.av r.h.V.length r.h.cv, .slice r.g.ax r.g.X.length r.g.cx, .slice r.g.ay r.g.Y.length r.g.cy, .slice r.g.av r.g.V.length r.g.cv, .slice r.l.ax r.l.X.length r.l.cx, .slice r.l.ay r.l.Y.length r.l.cy, .slice r.l.av r.l.V.length r.l.cv, .slice r.p.ax r.p.X.length r.p.cx, .slice r.p.ay r.p.Y.length r.p.cy, .slice r.p.av r.p.V.length r.p.cv, .slice r.n.ax r.n.X.length r.n.cx, .slice r.n.ay r.n.Y.length r.n.cy, .slice r.n.av r.n.V.length r.n.cv, .slice r.a.ax r.a.X.length r.a.cx, .slice r.a.ay r.a.Y.length r.a.cy, .slice r.a.av r.a.V.length r.a.cv, .slice r.b.ax r.b.X.length r.b.cx, .slice r.b.ay r.b.Y.length r.b.cy, .slice r.b.av r.b.V.length r.b.cv, .slice r.d.ax r.d.X.length r.d.cx, .slice r.d.ay r.d.Y.length r.d.cy, .slice r.d.av r.d.V.length r.d.cv, .int .i64 r.cl, .int .i64 r.bu, .int .i64 a.w.1, .int .i64 a.w.2, .int .i64 a.t.1, .int .i64 a.t.2, .int .i64 a.h.1, .int .i64 a.h.2, .int .i64 a.v.1, .int .i64 a.v.2], .agg #[.int .i64 s.1, .int .i64 s.2]] w fun e w' => e = .returned (.agg #[.slice r.g.ax r.g.X.length r.g.cx, .slice r.g.ay r.g.Y.length r.g.cy, .slice r.g.av r.g.V.length r.g.cv, .int .i64 s.1, .int .i64 s.2, .int .i64 a.v.1, .int .i64 a.v.2]) ∧ Below w.heap.size w w' := by
  go_enter Try.func61, Try.ntmps61
  go_wp2
  go_returns
  exact ⟨rfl, by go_grown⟩
theorem power_any (r : RO) (a : AI) (w : World) : Calls Try.prog 66 #[.agg #[.slice r.h.ax r.h.X.length r.h.cx, .slice r.h.ay r.h.Y.length r.h.cy, .slice r.h.av r.h.V.length r.h.cv, .slice r.g.ax r.g.X.length r.g.cx, .slice r.g.ay r.g.Y.length r.g.cy, .slice r.g.av r.g.V.length r.g.cv, .slice r.l.ax r.l.X.length r.l.cx, .slice r.l.ay r.l.Y.length r.l.cy, .slice r.l.av r.l.V.length r.l.cv, .slice r.p.ax r.p.X.length r.p.cx, .slice r.p.ay r.p.Y.length r.p.cy, .slice r.p.av r.p.V.length r.p.cv, .slice r.n.ax r.n.X.length r.n.cx, .slice r.n.ay r.n.Y.length r.n.cy, .slice r.n.av r.n.V.length r.n.cv, .slice r.a.ax r.a.X.length r.a.cx, .slice r.a.ay r.a.Y.length r.a.cy, .slice r.a.av r.a.V.length r.a.cv, .slice r.b.ax r.b.X.length r.b.cx, .slice r.b.ay r.b.Y.length r.b.cy, .slice r.b.av r.b.V.length r.b.cv, .slice r.d.ax r.d.X.length r.d.cx, .slice r.d.ay r.d.Y.length r.d.cy, .slice r.d.av r.d.V.length r.d.cv, .int .i64 r.cl, .int .i64 r.bu, .int .i64 a.w.1, .int .i64 a.w.2, .int .i64 a.t.1, .int .i64 a.t.2, .int .i64 a.h.1, .int .i64 a.h.2, .int .i64 a.v.1, .int .i64 a.v.2]] w fun e w' => e = .returned (.agg #[.slice r.p.ax r.p.X.length r.p.cx, .slice r.p.ay r.p.Y.length r.p.cy, .slice r.p.av r.p.V.length r.p.cv, .int .i64 a.t.1, .int .i64 a.t.2, .int .i64 a.h.1, .int .i64 a.h.2]) ∧ Below w.heap.size w w' := by
  go_enter Try.func66, Try.ntmps66
  go_wp2
  go_returns
  exact ⟨rfl, by go_grown⟩
theorem level_any (r : RO) (a : AI) (s : Int × Int) (w : World) : Calls Try.prog 80 #[.agg #[.slice r.h.ax r.h.X.length r.h.cx, .slice r.h.ay r.h.Y.length r.h.cy, .slice r.h.av r.h.V.length r.h.cv, .slice r.g.ax r.g.X.length r.g.cx, .slice r.g.ay r.g.Y.length r.g.cy, .slice r.g.av r.g.V.length r.g.cv, .slice r.l.ax r.l.X.length r.l.cx, .slice r.l.ay r.l.Y.length r.l.cy, .slice r.l.av r.l.V.length r.l.cv, .slice r.p.ax r.p.X.length r.p.cx, .slice r.p.ay r.p.Y.length r.p.cy, .slice r.p.av r.p.V.length r.p.cv, .slice r.n.ax r.n.X.length r.n.cx, .slice r.n.ay r.n.Y.length r.n.cy, .slice r.n.av r.n.V.length r.n.cv, .slice r.a.ax r.a.X.length r.a.cx, .slice r.a.ay r.a.Y.length r.a.cy, .slice r.a.av r.a.V.length r.a.cv, .slice r.b.ax r.b.X.length r.b.cx, .slice r.b.ay r.b.Y.length r.b.cy, .slice r.b.av r.b.V.length r.b.cv, .slice r.d.ax r.d.X.length r.d.cx, .slice r.d.ay r.d.Y.length r.d.cy, .slice r.d.av r.d.V.length r.d.cv, .int .i64 r.cl, .int .i64 r.bu, .int .i64 a.w.1, .int .i64 a.w.2, .int .i64 a.t.1, .int .i64 a.t.2, .int .i64 a.h.1, .int .i64 a.h.2, .int .i64 a.v.1, .int .i64 a.v.2], .agg #[.int .i64 s.1, .int .i64 s.2]] w fun e w' => e = .returned (.agg #[.slice r.l.ax r.l.X.length r.l.cx, .slice r.l.ay r.l.Y.length r.l.cy, .slice r.l.av r.l.V.length r.l.cv, .int .i64 s.1, .int .i64 s.2, .int .i64 a.w.1, .int .i64 a.w.2]) ∧ Below w.heap.size w w' := by
  go_enter Try.func80, Try.ntmps80
  go_wp2
  go_returns
  exact ⟨rfl, by go_grown⟩
theorem ring_any (r : RO) (a : AI) (t : TV) (s : Int × Int) (w : World) : Calls Try.prog 96 #[.agg #[.slice r.h.ax r.h.X.length r.h.cx, .slice r.h.ay r.h.Y.length r.h.cy, .slice r.h.av r.h.V.length r.h.cv, .slice r.g.ax r.g.X.length r.g.cx, .slice r.g.ay r.g.Y.length r.g.cy, .slice r.g.av r.g.V.length r.g.cv, .slice r.l.ax r.l.X.length r.l.cx, .slice r.l.ay r.l.Y.length r.l.cy, .slice r.l.av r.l.V.length r.l.cv, .slice r.p.ax r.p.X.length r.p.cx, .slice r.p.ay r.p.Y.length r.p.cy, .slice r.p.av r.p.V.length r.p.cv, .slice r.n.ax r.n.X.length r.n.cx, .slice r.n.ay r.n.Y.length r.n.cy, .slice r.n.av r.n.V.length r.n.cv, .slice r.a.ax r.a.X.length r.a.cx, .slice r.a.ay r.a.Y.length r.a.cy, .slice r.a.av r.a.V.length r.a.cv, .slice r.b.ax r.b.X.length r.b.cx, .slice r.b.ay r.b.Y.length r.b.cy, .slice r.b.av r.b.V.length r.b.cv, .slice r.d.ax r.d.X.length r.d.cx, .slice r.d.ay r.d.Y.length r.d.cy, .slice r.d.av r.d.V.length r.d.cv, .int .i64 r.cl, .int .i64 r.bu, .int .i64 a.w.1, .int .i64 a.w.2, .int .i64 a.t.1, .int .i64 a.t.2, .int .i64 a.h.1, .int .i64 a.h.2, .int .i64 a.v.1, .int .i64 a.v.2], .agg #[.slice t.ax t.X.length t.cx, .slice t.ay t.Y.length t.cy, .slice t.av t.V.length t.cv], .agg #[.int .i64 s.1, .int .i64 s.2]] w fun e w' => e = .returned (.agg #[.slice t.ax t.X.length t.cx, .slice t.ay t.Y.length t.cy, .slice t.av t.V.length t.cv, .int .i64 s.1, .int .i64 s.2, .int .i64 a.w.1, .int .i64 a.w.2]) ∧ Below w.heap.size w w' := by
  go_enter Try.func96, Try.ntmps96
  go_wp2
  go_returns
  exact ⟨rfl, by go_grown⟩
theorem glide_any (r : RO) (a : AI) (s : Int × Int) (w : World) : Calls Try.prog 101 #[.agg #[.slice r.h.ax r.h.X.length r.h.cx, .slice r.h.ay r.h.Y.length r.h.cy, .slice r.h.av r.h.V.length r.h.cv, .slice r.g.ax r.g.X.length r.g.cx, .slice r.g.ay r.g.Y.length r.g.cy, .slice r.g.av r.g.V.length r.g.cv, .slice r.l.ax r.l.X.length r.l.cx, .slice r.l.ay r.l.Y.length r.l.cy, .slice r.l.av r.l.V.length r.l.cv, .slice r.p.ax r.p.X.length r.p.cx, .slice r.p.ay r.p.Y.length r.p.cy, .slice r.p.av r.p.V.length r.p.cv, .slice r.n.ax r.n.X.length r.n.cx, .slice r.n.ay r.n.Y.length r.n.cy, .slice r.n.av r.n.V.length r.n.cv, .slice r.a.ax r.a.X.length r.a.cx, .slice r.a.ay r.a.Y.length r.a.cy, .slice r.a.av r.a.V.length r.a.cv, .slice r.b.ax r.b.X.length r.b.cx, .slice r.b.ay r.b.Y.length r.b.cy, .slice r.b.av r.b.V.length r.b.cv, .slice r.d.ax r.d.X.length r.d.cx, .slice r.d.ay r.d.Y.length r.d.cy, .slice r.d.av r.d.V.length r.d.cv, .int .i64 r.cl, .int .i64 r.bu, .int .i64 a.w.1, .int .i64 a.w.2, .int .i64 a.t.1, .int .i64 a.t.2, .int .i64 a.h.1, .int .i64 a.h.2, .int .i64 a.v.1, .int .i64 a.v.2], .agg #[.int .i64 s.1, .int .i64 s.2]] w fun e w' => e = .returned (.agg #[.slice r.d.ax r.d.X.length r.d.cx, .slice r.d.ay r.d.Y.length r.d.cy, .slice r.d.av r.d.V.length r.d.cv, .int .i64 s.1, .int .i64 s.2, .int .i64 a.w.1, .int .i64 a.w.2]) ∧ Below w.heap.size w w' := by
  go_enter Try.func101, Try.ntmps101
  go_wp2
  go_returns
  exact ⟨rfl, by go_grown⟩
theorem rspan_any (a b : Int) (w : World) : Calls Try.prog 77 #[.int .i64 a, .int .i64 b] w fun e w' => e = .returned (.agg #[.int .i64 a, .int .i64 b]) ∧ Below w.heap.size w w' := by
  go_enter Try.func77, Try.ntmps77
  go_wp2
  go_returns
  exact ⟨rfl, by go_grown⟩
theorem ralone_any (a : Int) (w : World) : Calls Try.prog 86 #[.int .i64 a] w fun e w' => e = .returned (.agg #[.int .i64 a, .int .i64 a]) ∧ Below w.heap.size w w' := by
  have X := Lib.hid (BK.new (w := w) (cs := #[.int .i64 0, .int .i64 0]) (T := 34))
  go_enter Try.func86, Try.ntmps86
  go_wp2_with (first
    | (go_at_call 77; refine Calls.mono (rspan_any a a _) ?_; rintro e w1 ⟨rfl, hb1⟩; have K := Lib.hid (X.out.keep hb1); have HB1 := Lib.hid (Below.trans (show Below w.heap.size w _ by go_grown) (hb1.mono (by simp <;> omega))); clear hb1)
    | ((with_reducible refine stS (CS := ?_) K.out ?_ ?_ ?_ ?_ ?_ ?_); rotate_left; rfl; rfl; rfl; rfl; simp [Value.oneCell']))
  go_simp
  refine bodyPost_ret (v := .agg #[.int .i64 a, .int .i64 a]) (resS Try.results86 (by rfl) K.out.row (by rfl)) rfl ?_
  exact ⟨rfl, below_setRow HB1.out (by omega) _⟩

/-- The look's table on its box. -/
theorem lbound_any (l : LO) (w : World) (ht : TG w l.t) (hc : cbE l.t.X l.t.Y l.t.V l.x.1 l.x.2 l.y.1 l.y.2 = 0) : Calls Try.prog 67 #[.agg #[.slice l.t.ax l.t.X.length l.t.cx, .slice l.t.ay l.t.Y.length l.t.cy, .slice l.t.av l.t.V.length l.t.cv, .int .i64 l.x.1, .int .i64 l.x.2, .int .i64 l.y.1, .int .i64 l.y.2]] w fun e w' => e = .returned (.agg #[.int .i64 l.bn.1, .int .i64 l.bn.2]) ∧ Below w.heap.size w w' := by
  have HC := Lib.hid (fun (W : World) (hW : Below w.heap.size w W) => bound_ok l.t.ax l.t.ay l.t.av l.t.X.length l.t.cx l.t.Y.length l.t.cy l.t.V.length l.t.cv W.heap.size l.t.X l.t.Y l.t.V l.x.1 l.x.2 l.y.1 l.y.2 W rfl rfl rfl ht.hx ht.hy ht.hv ht.hr (Nat.le_refl _) (ht.below hW).tb hc)
  rw [show bndL (cornersL l.t.X l.t.Y l.t.V (endsL l.t.X l.x.1 l.x.2) (endsL l.t.Y l.y.1 l.y.2)) = l.bn from rfl] at HC
  clear ht hc
  generalize l.bn = p at *
  have X := Lib.hid ((BK.newg (w := w.alloc (.cells #[.slice l.t.ax l.t.X.length l.t.cx, .slice l.t.ay l.t.Y.length l.t.cy, .slice l.t.av l.t.V.length l.t.cv, .int .i64 l.x.1, .int .i64 l.x.2, .int .i64 l.y.1, .int .i64 l.y.2] 92)) (g := w.heap.size + 1) (cs := #[.int .i64 0, .int .i64 0]) (T := 34) (by simp)))
  go_enter Try.func67, Try.ntmps67
  go_wp2_with (first
    | (go_at_call 25; refine Calls.mono (HC.out _ (by go_grown)) ?_; rintro e w1 ⟨rfl, hb1⟩; have K := Lib.hid (X.out.keep hb1); have HB1 := Lib.hid (Below.trans (show Below w.heap.size w _ by go_grown) (hb1.mono (by simp <;> omega))); clear hb1)
    | ((with_reducible refine stS (CS := ?_) (K.out.old) ?_ ?_ ?_ ?_ ?_ ?_); rotate_left; rfl; rfl; rfl; rfl; simp [Value.oneCell']))
  go_simp
  refine bodyPost_ret (v := .agg #[.int .i64 p.1, .int .i64 p.2]) (resS Try.results67 (by rfl) (K.out.old).row (by rfl)) rfl ?_
  exact ⟨rfl, below_setRow (HB1.out.alloc HB1.out.size _) (by omega) _⟩
end Go.Proofs.Ythhokiigdgpmcaa

/- holds; from, filled of the reference. -/
namespace Go.Proofs.Ythhokiigdgpmcaa
open Go.RowKit

theorem filB_bad {V : List (List Int)} {lo hi : Int} {k : Nat} {r : List Int} (hr : V[k]? = some r) (h : wB lo hi r = false) : (V.all fun r => wB lo hi r) = false := by
  rw [List.all_eq_false]
  obtain ⟨hk, rfl⟩ := List.getElem?_eq_some_iff.1 hr
  exact ⟨_, List.getElem_mem hk, by simp [h]⟩
theorem filB_step {V : List (List Int)} {lo hi : Int} {k : Nat} {r : List Int} (hr : V[k]? = some r) : ((V.take (k + 1)).all fun r => wB lo hi r) = (((V.take k).all fun r => wB lo hi r) && wB lo hi r) := by
  rw [List.take_add_one, hr]
  simp

set_option maxRecDepth 100000 in
theorem holds_any' (lo hi : Int) (t : TV) (w : World) (ht : TG w t) :
    Calls Try.prog 51 #[.agg #[.slice t.ax t.X.length t.cx, .slice t.ay t.Y.length t.cy, .slice t.av t.V.length t.cv], .int .i64 lo, .int .i64 hi] w fun e w' => e = .returned (.bool (filB lo hi t)) ∧ Below w.heap.size w w' := by
  obtain ⟨hnx, hny, hnv, hnr, htb⟩ := ht
  have HC := Lib.hid (fun (W : World) (hW : Below w.heap.size w W) => checkTable_any t.ax t.ay t.av _ t.cx _ t.cy _ t.cv W.heap.size t.X t.Y t.V W rfl rfl rfl hnx hny hnv hnr (Nat.le_refl _) ((htb.below hW).more hW.size))
  cases h1 : ctB t.X t.Y t.V with
  | false =>
    rw [ctE_no h1] at HC
    rw [show filB lo hi t = false by unfold filB; rw [h1]; rfl]
    clear htb hnr
    go_enter Try.func51, Try.ntmps51
    go_wp2_with (go_at_call 104; refine Calls.mono (HC.out _ (by go_grown)) ?_; rintro e w1 ⟨rfl, hb1⟩; have HB1 := Lib.hid (Below.trans (show Below w.heap.size w _ by go_grown) (hb1.mono (by simp <;> omega))); clear hb1)
    go_ret
    exact ⟨rfl, HB1.out⟩
  | true =>
    rw [ctE_yes h1] at HC
    rw [show filB lo hi t = t.V.all (fun r => wB lo hi r) by unfold filB; rw [h1]; rfl]
    have HV := Lib.hid htb.v
    unfold maxLen at hnv
    clear htb
    go_enter Try.func51, Try.ntmps51
    go_wp2_with (go_at_call 104; refine Calls.mono (HC.out _ (by go_grown)) ?_; rintro e w1 ⟨rfl, hb1⟩; have r2 : w1.cell? ⟨w.heap.size, 2, none⟩ = some (.slice t.av t.V.length t.cv) := cell_keep hb1 (by go_simp); have HB1 := Lib.hid (Below.trans (show Below w.heap.size w _ by go_grown) (hb1.mono (by simp <;> omega))); clear hb1)
    go_loopw [15] (fun i wr => ∃ k : Nat, k ≤ t.V.length ∧ i = .int .i64 k ∧ ((t.V.take k).all fun r => wB lo hi r) = true ∧ w1 = wr) (fun i _ => t.V.length - (intOf i).toNat)
    case atStart => exact ⟨0, by omega, rfl, by simp, rfl⟩
    case round =>
      obtain ⟨k, hk, rfl, hw, rfl⟩ := hrel
      have HW := Lib.hid hw
      clear hw
      by_cases hlt : k < t.V.length
      · obtain ⟨b, off, r, A', c', hA, hb, hr, hc, hri⟩ := (HV.out.below HB1.out).at_ hlt
        have HR := Lib.hid hr
        have hrl : r.length ≤ maxLen := hnr r (List.mem_of_getElem? hr)
        have HRI := Lib.hid hri
        clear hr hri
        generalize t.av = av at *
        obtain rfl := hA
        cases hv : wB lo hi r with
        | true =>
          go_wp2_with (go_at_call 53; refine (within_any lo hi A' _ c' _ r _ rfl hrl HRI.out).mono ?_; rintro e w' ⟨rfl, rfl⟩)
          go_roundw
          case rel => exact ⟨k + 1, by omega, by go_num, by rw [filB_step HR.out, HW.out, hv]; rfl, by first | rfl | trivial⟩
          case measure => simp [intOf]; omega
        | false =>
          go_wp2_with (go_at_call 53; refine (within_any lo hi A' _ c' _ r _ rfl hrl HRI.out).mono ?_; rintro e w' ⟨rfl, rfl⟩)
          go_ret
          exact ⟨ret_bool (filB_bad HR.out hv).symm, HB1.out⟩
      · go_wp2
        go_ret
        exact ⟨ret_bool (by have hw := HW.out; rw [List.take_of_length_le (by omega)] at hw; exact hw.symm), HB1.out⟩

theorem rfrom_any (a b c : Int) (w : World) : Calls Try.prog 57 #[.int .i64 a, .int .i64 b, .int .i64 c] w fun e w' => e = .returned (.bool (decide (b ≤ a) && decide (a ≤ c))) ∧ w = w' := by
  by_cases h1 : b ≤ a <;> by_cases h2 : a ≤ c
  all_goals
    go_enter Try.func57, Try.ntmps57
    go_wp2
    go_ret
    exact ⟨ret_bool (by simp [h1, h2]), rfl⟩
end Go.Proofs.Ythhokiigdgpmcaa

/- slices.Equal; sameInts of layer 2. -/
namespace Go.Proofs.Ythhokiigdgpmcaa
open Go.RowKit

theorem dtake_same {xs ys : List Int} {k : Nat} {x y : Int} (hx : xs[k]? = some x) (hy : ys[k]? = some y) (h : xs.take k = ys.take k) (e : x = y) : xs.take (k + 1) = ys.take (k + 1) := by
  rw [List.take_add_one, List.take_add_one, hx, hy, h, e]

set_option maxRecDepth 100000 in
theorem dsame_any (A A' : Option Addr) (n c n' c' B B' : Nat) (xs ys : List Int) (w : World) (hx : xs.length = n) (hy : ys.length = n') (hn : n ≤ maxLen) (hn' : n' ≤ maxLen) (hB : B ≤ w.heap.size) (hB' : B' ≤ w.heap.size) (h : RI w B A xs) (h' : RI w B' A' ys) :
    Calls Try.prog 56 #[.slice A n c, .slice A' n' c'] w fun e w' => e = .returned (.bool (decide (xs = ys))) ∧ Below w.heap.size w w' := by
  by_cases hl : n = n'
  · obtain rfl := hl
    unfold maxLen at hn
    have HL := Lib.hid (And.intro hx hy)
    have hxl : xs.length = n := hx
    clear hx hy
    go_enter Try.func56, Try.ntmps56
    go_wp2
    go_loopw [5] (fun i wr => ∃ k : Nat, k ≤ n ∧ i = .int .i64 k ∧ xs.take k = ys.take k ∧ Below w.heap.size w wr) (fun i _ => n - (intOf i).toNat)
    case atStart => exact ⟨0, Nat.zero_le _, rfl, rfl, by go_grown⟩
    case round =>
      obtain ⟨k, hk, rfl, hw, hbw⟩ := hrel
      have HW := Lib.hid hw
      have HBW := Lib.hid hbw
      have hj := (h.more hB).below hbw
      have hj' := (h'.more hB').below hbw
      clear hw hbw
      by_cases hlt : k < n
      · obtain ⟨b, off, x, rfl, hb, hx, hc⟩ := hj.at_ (k := k) (by rw [HL.out.1]; exact hlt)
        obtain ⟨b', off', y, rfl, hb', hy, hc'⟩ := hj'.at_ (k := k) (by rw [HL.out.2]; exact hlt)
        have HX := Lib.hid (And.intro hx hy)
        have i1 : (0 : Int) ≤ (k : Int) := by omega
        have i2 : (k : Int) < n := by omega
        clear hx hy hj hj' hxl
        by_cases g : x = y
        · have g' : ((x : Int) != y) = false := by simpa using g
          have G := Lib.hid g
          clear g
          go_wp2
          go_quiet (fail)
          go_wp2
          go_roundw
          case rel => exact ⟨k + 1, by omega, by go_num, dtake_same HX.out.1 HX.out.2 HW.out G.out, by first | exact below_drewN HBW.out _ | exact HBW.out⟩
          case measure => simp [intOf]; omega
        · have g' : ((x : Int) != y) = true := by simpa using g
          have HN := Lib.hid (show decide (xs = ys) = false by rw [decide_eq_false_iff_not]; rintro rfl; have := HX.out.1.symm.trans HX.out.2; simp at this; exact g this)
          clear g
          go_wp2
          go_quiet (fail)
          go_wp2
          go_ret
          exact ⟨ret_bool HN.out.symm, by first | exact below_drewN HBW.out _ | exact HBW.out⟩
      · have HN := Lib.hid (show decide (xs = ys) = true by
          have e := HW.out
          rw [List.take_of_length_le (by rw [HL.out.1]; omega), List.take_of_length_le (by rw [HL.out.2]; omega)] at e
          simpa using e)
        clear hxl
        go_wp2
        go_ret
        exact ⟨ret_bool HN.out.symm, HBW.out⟩
  · have HN := Lib.hid (show decide (xs = ys) = false by rw [decide_eq_false_iff_not]; rintro rfl; exact hl (hx.symm.trans hy))
    have hne : ((n : Int) != n') = true := by rw [bne_iff_ne]; omega
    clear hx hy hl
    go_enter Try.func56, Try.ntmps56
    go_wp2
    go_ret
    exact ⟨ret_bool HN.out.symm, by go_grown⟩
set_option maxRecDepth 100000 in
theorem equal_any (A A' : Option Addr) (n c n' c' B B' : Nat) (xs ys : List Int) (w : World) (hx : xs.length = n) (hy : ys.length = n') (hn : n ≤ maxLen) (hn' : n' ≤ maxLen) (hB : B ≤ w.heap.size) (hB' : B' ≤ w.heap.size) (h : RI w B A xs) (h' : RI w B' A' ys) :
    Calls Try.prog 107 #[.slice A n c, .slice A' n' c'] w fun e w' => e = .returned (.bool (decide (xs = ys))) ∧ Below w.heap.size w w' := by
  by_cases hl : n = n'
  · obtain rfl := hl
    unfold maxLen at hn
    have HL := Lib.hid (And.intro hx hy)
    have hxl : xs.length = n := hx
    clear hx hy
    go_enter Try.func107, Try.ntmps107
    go_wp2
    go_loopw [13] (fun i wr => ∃ k : Nat, k ≤ n ∧ i = .int .i64 k ∧ xs.take k = ys.take k ∧ Below w.heap.size w wr) (fun i _ => n - (intOf i).toNat)
    case atStart => exact ⟨0, Nat.zero_le _, rfl, rfl, by go_grown⟩
    case round =>
      obtain ⟨k, hk, rfl, hw, hbw⟩ := hrel
      have HW := Lib.hid hw
      have HBW := Lib.hid hbw
      have hj := (h.more hB).below hbw
      have hj' := (h'.more hB').below hbw
      clear hw hbw
      by_cases hlt : k < n
      · obtain ⟨b, off, x, rfl, hb, hx, hc⟩ := hj.at_ (k := k) (by rw [HL.out.1]; exact hlt)
        obtain ⟨b', off', y, rfl, hb', hy, hc'⟩ := hj'.at_ (k := k) (by rw [HL.out.2]; exact hlt)
        have HX := Lib.hid (And.intro hx hy)
        have i1 : (0 : Int) ≤ (k : Int) := by omega
        have i2 : (k : Int) < n := by omega
        clear hx hy hj hj' hxl
        by_cases g : x = y
        · have g' : ((x : Int) != y) = false := by simpa using g
          have G := Lib.hid g
          clear g
          go_wp2
          go_quiet (fail)
          go_wp2
          go_roundw
          case rel => exact ⟨k + 1, by omega, by go_num, dtake_same HX.out.1 HX.out.2 HW.out G.out, by first | exact below_drewN HBW.out _ | exact HBW.out⟩
          case measure => simp [intOf]; omega
        · have g' : ((x : Int) != y) = true := by simpa using g
          have HN := Lib.hid (show decide (xs = ys) = false by rw [decide_eq_false_iff_not]; rintro rfl; have := HX.out.1.symm.trans HX.out.2; simp at this; exact g this)
          clear g
          go_wp2
          go_quiet (fail)
          go_wp2
          go_ret
          exact ⟨ret_bool HN.out.symm, by first | exact below_drewN HBW.out _ | exact HBW.out⟩
      · have HN := Lib.hid (show decide (xs = ys) = true by
          have e := HW.out
          rw [List.take_of_length_le (by rw [HL.out.1]; omega), List.take_of_length_le (by rw [HL.out.2]; omega)] at e
          simpa using e)
        clear hxl
        go_wp2
        go_ret
        exact ⟨ret_bool HN.out.symm, HBW.out⟩
  · have HN := Lib.hid (show decide (xs = ys) = false by rw [decide_eq_false_iff_not]; rintro rfl; exact hl (hx.symm.trans hy))
    have hne : ((n : Int) != n') = true := by rw [bne_iff_ne]; omega
    clear hx hy hl
    go_enter Try.func107, Try.ntmps107
    go_wp2
    go_ret
    exact ⟨ret_bool HN.out.symm, by go_grown⟩
end Go.Proofs.Ythhokiigdgpmcaa

/- filled of the reference; ringed. -/
namespace Go.Proofs.Ythhokiigdgpmcaa
open Go.RowKit

theorem gr_get {V : List (List Int)} {k : Nat} {r : List Int} (h : V[k]? = some r) : gr V k = r := gr_of h
theorem rowlen {t : TV} (h : ctB t.X t.Y t.V = true) {k : Nat} {r : List Int} (hr : t.V[k]? = some r) : r.length = t.Y.length := by
  have hk := (List.getElem?_eq_some_iff.1 hr).1
  have e := (ctB_get h).2.2.1
  have := (row_get h (i := k) (by omega)).1
  rw [gr_get hr] at this
  exact this

set_option maxRecDepth 100000 in
theorem filled_any (lo hi : Int) (t : TV) (w : World) (ht : TG w t) :
    Calls Try.prog 55 #[.agg #[.slice t.ax t.X.length t.cx, .slice t.ay t.Y.length t.cy, .slice t.av t.V.length t.cv], .int .i64 lo, .int .i64 hi] w fun e w' => e = .returned (.bool (filB lo hi t)) ∧ Below w.heap.size w w' := by
  obtain ⟨hnx, hny, hnv, hnr, htb⟩ := ht
  have HC := Lib.hid (fun (W : World) (hW : Below w.heap.size w W) => rct_any t.ax t.ay t.av _ t.cx _ t.cy _ t.cv W.heap.size t.X t.Y t.V W rfl rfl rfl hnx hny hnv hnr (Nat.le_refl _) ((htb.below hW).more hW.size))
  cases h1 : ctB t.X t.Y t.V with
  | false =>
    rw [ctE_no h1] at HC
    rw [show filB lo hi t = false by unfold filB; rw [h1]; rfl]
    clear htb hnr
    go_enter Try.func55, Try.ntmps55
    go_wp2_with (go_at_call 109; refine Calls.mono (HC.out _ (by go_grown)) ?_; rintro e w1 ⟨rfl, hb1⟩; have HB1 := Lib.hid (Below.trans (show Below w.heap.size w _ by go_grown) (hb1.mono (by simp <;> omega))); clear hb1)
    go_ret
    exact ⟨rfl, HB1.out⟩
  | true =>
    rw [ctE_yes h1] at HC
    rw [show filB lo hi t = t.V.all (fun r => wB lo hi r) by unfold filB; rw [h1]; rfl]
    have HV := Lib.hid htb.v
    have HL := Lib.hid (show t.V.length = t.X.length ∧ ∀ k r, t.V[k]? = some r → r.length = t.Y.length from ⟨(ctB_get h1).2.2.1, fun k r hr => rowlen h1 hr⟩)
    unfold maxLen at hnv hnx hny
    clear htb h1 hnr
    go_enter Try.func55, Try.ntmps55
    go_wp2_with (go_at_call 109; refine Calls.mono (HC.out _ (by go_grown)) ?_; rintro e w1 ⟨rfl, hb1⟩; have r0 : w1.cell? ⟨w.heap.size, 0, none⟩ = some (.slice t.ax t.X.length t.cx) := cell_keep hb1 (by go_simp); have r1 : w1.cell? ⟨w.heap.size, 1, none⟩ = some (.slice t.ay t.Y.length t.cy) := cell_keep hb1 (by go_simp); have r2 : w1.cell? ⟨w.heap.size, 2, none⟩ = some (.slice t.av t.V.length t.cv) := cell_keep hb1 (by go_simp); have HB1 := Lib.hid (Below.trans (show Below w.heap.size w _ by go_grown) (hb1.mono (by simp <;> omega))); clear hb1)
    go_loopw [7] (fun i wr => ∃ k : Nat, k ≤ t.X.length ∧ i = .int .i64 k ∧ ((t.V.take k).all fun r => wB lo hi r) = true ∧ w1 = wr) (fun i _ => t.X.length - (intOf i).toNat)
    case atStart => exact ⟨0, by omega, rfl, by simp, rfl⟩
    case round =>
      obtain ⟨k, hk, rfl, hw, rfl⟩ := hrel
      have HW := Lib.hid hw
      clear hw
      by_cases hlt : k < t.X.length
      · obtain ⟨b, off, r, A', c', hA, hb, hr, hc, hri⟩ := (HV.out.below HB1.out).at_ (k := k) (by rw [HL.out.1]; exact hlt)
        have hrl := HL.out.2 k r hr
        have hkv : (k : Int) < t.V.length := by rw [HL.out.1]; omega
        have HR := Lib.hid hr
        have HRI := Lib.hid hri
        have HRL := Lib.hid hrl
        rw [hrl] at hc
        clear hr hri hrl
        generalize t.av = av at *
        obtain rfl := hA
        go_wp2
        go_loopw [8] (fun i wq => ∃ m : Nat, m ≤ t.Y.length ∧ i = .int .i64 m ∧ wB lo hi (r.take m) = true ∧ w1 = wq) (fun i _ => t.Y.length - (intOf i).toNat)
        case atStart => exact ⟨0, by omega, rfl, by simp [wB], rfl⟩
        case round =>
          obtain ⟨m, hm, rfl, hv, rfl⟩ := hrel
          have HV2 := Lib.hid hv
          clear hv
          by_cases hlt2 : m < t.Y.length
          · obtain ⟨b', off', x, rfl, hb', hx, hc'⟩ := HRI.out.at_ (k := m) (by rw [HRL.out]; exact hlt2)
            have HX := Lib.hid hx
            clear hx
            have HF := Lib.hid (fun (W : World) => rfrom_any x lo hi W)
            by_cases hin : (decide (lo ≤ x) && decide (x ≤ hi)) = true
            · rw [hin] at HF
              have HI := Lib.hid hin
              clear hin
              go_wp2_with (go_at_call 57; refine Calls.mono (HF.out _) ?_; rintro e w' ⟨rfl, rfl⟩)
              go_roundw
              case rel => exact ⟨m + 1, by omega, by go_num, by rw [wB_step HX.out, HV2.out, HI.out]; rfl, by first | rfl | trivial⟩
              case measure => simp [intOf]; omega
            · have hin' : (decide (lo ≤ x) && decide (x ≤ hi)) = false := by simpa using hin
              rw [hin'] at HF
              have HI := Lib.hid hin'
              clear hin hin'
              go_wp2_with (go_at_call 57; refine Calls.mono (HF.out _) ?_; rintro e w' ⟨rfl, rfl⟩)
              go_ret
              exact ⟨ret_bool (filB_bad HR.out (wB_bad HX.out (by have := HI.out; simp at this; omega))).symm, HB1.out⟩
          · have hwb : wB lo hi r = true := by have := HV2.out; rwa [List.take_of_length_le (by rw [HRL.out]; omega)] at this
            have HWB := Lib.hid hwb
            clear hwb
            go_wp2
            go_roundw
            case rel => exact ⟨k + 1, by omega, by go_num, by rw [filB_step HR.out, HW.out, HWB.out]; rfl, by first | rfl | trivial⟩
            case measure => simp [intOf]; omega
      · go_wp2
        go_ret
        exact ⟨ret_bool (by have hw := HW.out; rw [List.take_of_length_le (by rw [HL.out.1]; omega)] at hw; exact hw.symm), HB1.out⟩

theorem leR_bad {a b : List Int} {k : Nat} {x y : Int} (hx : a[k]? = some x) (hy : b[k]? = some y) (h : y < x) : leR a b = false := by
  unfold leR
  rw [List.all_eq_false]
  refine ⟨k, List.mem_range.2 (List.getElem?_eq_some_iff.1 hx).1, ?_⟩
  rw [gz_of hx, gz_of hy]
  simp
  omega
def leK (a b : List Int) (m : Nat) : Bool := (List.range m).all fun k => decide (gz a k ≤ gz b k)
theorem leK_step {a b : List Int} {k : Nat} {x y : Int} (hx : a[k]? = some x) (hy : b[k]? = some y) : leK a b (k + 1) = (leK a b k && decide (x ≤ y)) := by
  unfold leK
  rw [List.range_succ, List.all_append, ← gz_of hx, ← gz_of hy]
  simp
theorem leV_bad {V W : List (List Int)} {k : Nat} {r s : List Int} (hr : V[k]? = some r) (hs : W[k]? = some s) (h : leR r s = false) : leV V W = false := by
  unfold leV
  rw [List.all_eq_false]
  refine ⟨k, List.mem_range.2 (List.getElem?_eq_some_iff.1 hr).1, ?_⟩
  rw [gr_of hr, gr_of hs, h]
  simp
def leVK (V W : List (List Int)) (m : Nat) : Bool := (List.range m).all fun i => leR (gr V i) (gr W i)
theorem leVK_step {V W : List (List Int)} {k : Nat} {r s : List Int} (hr : V[k]? = some r) (hs : W[k]? = some s) : leVK V W (k + 1) = (leVK V W k && leR r s) := by
  unfold leVK
  rw [List.range_succ, List.all_append, ← gr_of hr, ← gr_of hs]
  simp

set_option maxRecDepth 100000 in
theorem ringed_any (t u : TV) (w : World) (ht : TG w t) (hu : TG w u) (h1 : ctB t.X t.Y t.V = true) (h2 : ctB u.X u.Y u.V = true) :
    Calls Try.prog 52 #[.agg #[.slice t.ax t.X.length t.cx, .slice t.ay t.Y.length t.cy, .slice t.av t.V.length t.cv], .agg #[.slice u.ax u.X.length u.cx, .slice u.ay u.Y.length u.cy, .slice u.av u.V.length u.cv]] w fun e w' => e = .returned (.bool (rinB t u)) ∧ Below w.heap.size w w' := by
  obtain ⟨hnx, hny, hnv, hnr, htb⟩ := ht
  obtain ⟨hmx, hmy, hmv, hmr, hub⟩ := hu
  have HE1 := Lib.hid (fun (W : World) (hW : Below w.heap.size w W) => equal_any t.ax u.ax _ t.cx _ u.cx W.heap.size W.heap.size t.X u.X W rfl rfl hnx hmx (Nat.le_refl _) (Nat.le_refl _) ((htb.x.below hW).more hW.size) ((hub.x.below hW).more hW.size))
  have HE2 := Lib.hid (fun (W : World) (hW : Below w.heap.size w W) => equal_any t.ay u.ay _ t.cy _ u.cy W.heap.size W.heap.size t.Y u.Y W rfl rfl hny hmy (Nat.le_refl _) (Nat.le_refl _) ((htb.y.below hW).more hW.size) ((hub.y.below hW).more hW.size))
  cases e1 : decide (t.X = u.X) with
  | false =>
    rw [e1] at HE1
    rw [show rinB t u = false by unfold rinB; rw [e1]; rfl]
    clear htb hub hnr hmr h1 h2 e1
    go_enter Try.func52, Try.ntmps52
    go_wp2_with (go_at_call 107; refine Calls.mono (HE1.out _ (by go_grown)) ?_; rintro e w1 ⟨rfl, hb1⟩; have HB1 := Lib.hid (Below.trans (show Below w.heap.size w _ by go_grown) (hb1.mono (by simp <;> omega))); clear hb1)
    go_ret
    exact ⟨rfl, HB1.out⟩
  | true =>
  cases e2 : decide (t.Y = u.Y) with
  | false =>
    rw [e1] at HE1
    rw [e2] at HE2
    rw [show rinB t u = false by unfold rinB; rw [e2]; simp]
    clear htb hub hnr hmr h1 h2 e1 e2
    go_enter Try.func52, Try.ntmps52
    go_wp2_with (first
      | (go_at_call_of 107 (Value.slice t.ax t.X.length t.cx); refine Calls.mono (HE1.out _ (by go_grown)) ?_; rintro e w1 ⟨rfl, hb1⟩; have a1 : w1.cell? ⟨w.heap.size, 1, none⟩ = some (.slice t.ay t.Y.length t.cy) := cell_keep hb1 (by go_simp); have b1 : w1.cell? ⟨w.heap.size + 1, 1, none⟩ = some (.slice u.ay u.Y.length u.cy) := cell_keep hb1 (by go_simp); have HB1 := Lib.hid (Below.trans (show Below w.heap.size w _ by go_grown) (hb1.mono (by simp <;> omega))); clear hb1)
      | (go_at_call_of 107 (Value.slice t.ay t.Y.length t.cy); refine Calls.mono (HE2.out _ HB1.out) ?_; rintro e w2 ⟨rfl, hb2⟩; have HB2 := Lib.hid (HB1.out.trans (hb2.mono HB1.out.size)); clear hb2))
    go_ret
    exact ⟨rfl, HB2.out⟩
  | true =>
    rw [e1] at HE1
    rw [e2] at HE2
    rw [show rinB t u = leV t.V u.V by unfold rinB; rw [e1, e2]; rfl]
    have HV := Lib.hid htb.v
    have HU := Lib.hid hub.v
    have HL := Lib.hid (show t.V.length = t.X.length ∧ u.V.length = t.X.length ∧ (∀ k r, t.V[k]? = some r → r.length = t.Y.length) ∧ (∀ (k : Nat) (r : List Int), u.V[k]? = some r → r.length = t.Y.length) from ⟨(ctB_get h1).2.2.1, by rw [(ctB_get h2).2.2.1]; simp at e1; rw [e1], fun k r hr => rowlen h1 hr, fun k r hr => by rw [rowlen h2 hr]; simp at e2; rw [e2]⟩)
    unfold maxLen at hnv hnx hny
    clear htb hub h1 h2 hnr hmr e1 e2
    go_enter Try.func52, Try.ntmps52
    go_wp2_with (first
      | (go_at_call_of 107 (Value.slice t.ax t.X.length t.cx); refine Calls.mono (HE1.out _ (by go_grown)) ?_; rintro e w1 ⟨rfl, hb1⟩; have a1 : w1.cell? ⟨w.heap.size, 1, none⟩ = some (.slice t.ay t.Y.length t.cy) := cell_keep hb1 (by go_simp); have b1 : w1.cell? ⟨w.heap.size + 1, 1, none⟩ = some (.slice u.ay u.Y.length u.cy) := cell_keep hb1 (by go_simp); have a2 : w1.cell? ⟨w.heap.size, 2, none⟩ = some (.slice t.av t.V.length t.cv) := cell_keep hb1 (by go_simp); have b2 : w1.cell? ⟨w.heap.size + 1, 2, none⟩ = some (.slice u.av u.V.length u.cv) := cell_keep hb1 (by go_simp); have HB1 := Lib.hid (Below.trans (show Below w.heap.size w _ by go_grown) (hb1.mono (by simp <;> omega))); clear hb1)
      | (go_at_call_of 107 (Value.slice t.ay t.Y.length t.cy); refine Calls.mono (HE2.out _ HB1.out) ?_; rintro e w2 ⟨rfl, hb2⟩; have c2 := cell_keep hb2 a2; have d2 := cell_keep hb2 b2; have HB2 := Lib.hid (HB1.out.trans (hb2.mono HB1.out.size)); clear hb2))
    go_loopw [26] (fun i wr => ∃ k : Nat, k ≤ t.V.length ∧ i = .int .i64 k ∧ leVK t.V u.V k = true ∧ w2 = wr) (fun i _ => t.V.length - (intOf i).toNat)
    case atStart => exact ⟨0, by omega, rfl, rfl, rfl⟩
    case round =>
      obtain ⟨k, hk, rfl, hw, rfl⟩ := hrel
      have HW := Lib.hid hw
      clear hw
      by_cases hlt : k < t.V.length
      · obtain ⟨b, off, r, A', c', hA, hb, hr, hc, hri⟩ := (HV.out.below HB2.out).at_ (k := k) hlt
        obtain ⟨bu, offu, s, Au, cu, hAu, hbu, hs, hcu, hsi⟩ := (HU.out.below HB2.out).at_ (k := k) (by rw [HL.out.2.1, ← HL.out.1]; exact hlt)
        have hkv : (k : Int) < u.V.length := by rw [HL.out.2.1, ← HL.out.1]; omega
        have hrl := HL.out.2.2.1 k r hr
        have hsl := HL.out.2.2.2 k s hs
        have HR := Lib.hid (And.intro hr hs)
        have HRI := Lib.hid (And.intro hri hsi)
        have HRL := Lib.hid (And.intro hrl hsl)
        rw [hrl] at hc
        rw [hsl] at hcu
        clear hr hs hri hsi hrl hsl
        generalize t.av = av at *
        generalize u.av = uv at *
        obtain rfl := hA
        obtain rfl := hAu
        go_wp2
        go_loopw [33] (fun i wq => ∃ m : Nat, m ≤ t.Y.length ∧ i = .int .i64 m ∧ leK r s m = true ∧ w2 = wq) (fun i _ => t.Y.length - (intOf i).toNat)
        case atStart => exact ⟨0, by omega, rfl, rfl, rfl⟩
        case round =>
          obtain ⟨m, hm, rfl, hv, rfl⟩ := hrel
          have HV2 := Lib.hid hv
          clear hv
          by_cases hlt2 : m < t.Y.length
          · obtain ⟨b', off', x, rfl, hb', hx, hc'⟩ := HRI.out.1.at_ (k := m) (by rw [HRL.out.1]; exact hlt2)
            obtain ⟨b'', off'', y, rfl, hb'', hy, hc''⟩ := HRI.out.2.at_ (k := m) (by rw [HRL.out.2]; exact hlt2)
            have HX := Lib.hid (And.intro hx hy)
            clear hx hy
            have hm' : (m : Int) < t.Y.length := by omega
            by_cases hin : y < x
            · go_wp2
              go_ret
              exact ⟨ret_bool (leV_bad HR.out.1 HR.out.2 (leR_bad HX.out.1 HX.out.2 hin)).symm, HB2.out⟩
            · have hin' : x ≤ y := by omega
              clear hin
              go_wp2
              go_roundw
              case rel => exact ⟨m + 1, by omega, by go_num, by rw [leK_step HX.out.1 HX.out.2, HV2.out]; simpa using hin', by first | rfl | trivial⟩
              case measure => simp [intOf]; omega
          · have hwb : leR r s = true := by
              have := HV2.out
              unfold leK at this
              unfold leR
              rw [show r.length = m by rw [HRL.out.1]; omega]
              exact this
            have HWB := Lib.hid hwb
            clear hwb
            go_wp2
            go_roundw
            case rel => exact ⟨k + 1, by omega, by go_num, by rw [leVK_step HR.out.1 HR.out.2, HW.out, HWB.out]; rfl, by first | rfl | trivial⟩
            case measure => simp [intOf]; omega
      · go_wp2
        go_ret
        exact ⟨ret_bool (by have hw := HW.out; unfold leVK at hw; unfold leV; rw [show t.V.length = k by omega]; exact hw.symm), HB2.out⟩
end Go.Proofs.Ythhokiigdgpmcaa

/- rotor.Check. -/
namespace Go.Proofs.Ythhokiigdgpmcaa
open Go.RowKit

set_option maxRecDepth 100000
theorem check_f1 (r : RO) (w : World) (rg : RG w r) (e1 : filB 0 100000 r.h = false) : Calls Try.prog 16 #[.agg #[.slice r.h.ax r.h.X.length r.h.cx, .slice r.h.ay r.h.Y.length r.h.cy, .slice r.h.av r.h.V.length r.h.cv, .slice r.g.ax r.g.X.length r.g.cx, .slice r.g.ay r.g.Y.length r.g.cy, .slice r.g.av r.g.V.length r.g.cv, .slice r.l.ax r.l.X.length r.l.cx, .slice r.l.ay r.l.Y.length r.l.cy, .slice r.l.av r.l.V.length r.l.cv, .slice r.p.ax r.p.X.length r.p.cx, .slice r.p.ay r.p.Y.length r.p.cy, .slice r.p.av r.p.V.length r.p.cv, .slice r.n.ax r.n.X.length r.n.cx, .slice r.n.ay r.n.Y.length r.n.cy, .slice r.n.av r.n.V.length r.n.cv, .slice r.a.ax r.a.X.length r.a.cx, .slice r.a.ay r.a.Y.length r.a.cy, .slice r.a.av r.a.V.length r.a.cv, .slice r.b.ax r.b.X.length r.b.cx, .slice r.b.ay r.b.Y.length r.b.cy, .slice r.b.av r.b.V.length r.b.cv, .slice r.d.ax r.d.X.length r.d.cx, .slice r.d.ay r.d.Y.length r.d.cy, .slice r.d.av r.d.V.length r.d.cv, .int .i64 r.cl, .int .i64 r.bu]] w fun e w' => e = .returned (.int .i64 20) ∧ Below w.heap.size w w' := by
  have H1 := Lib.hid (fun (W : World) (hW : Below w.heap.size w W) => holds_any' 0 100000 r.h W (rg.h.below hW))
  rw [e1] at H1
  clear rg e1
  go_enter Try.func16, Try.ntmps16
  go_wp2_with (first
    | (go_at_call_of 51 (Value.agg #[.slice r.h.ax r.h.X.length r.h.cx, .slice r.h.ay r.h.Y.length r.h.cy, .slice r.h.av r.h.V.length r.h.cv]); refine Calls.mono (H1.out _ (by go_grown)) ?_; rintro e w1 ⟨rfl, hb1⟩; have K1 := (BK.new (w := w) (cs := #[.slice r.h.ax r.h.X.length r.h.cx, .slice r.h.ay r.h.Y.length r.h.cy, .slice r.h.av r.h.V.length r.h.cv, .slice r.g.ax r.g.X.length r.g.cx, .slice r.g.ay r.g.Y.length r.g.cy, .slice r.g.av r.g.V.length r.g.cv, .slice r.l.ax r.l.X.length r.l.cx, .slice r.l.ay r.l.Y.length r.l.cy, .slice r.l.av r.l.V.length r.l.cv, .slice r.p.ax r.p.X.length r.p.cx, .slice r.p.ay r.p.Y.length r.p.cy, .slice r.p.av r.p.V.length r.p.cv, .slice r.n.ax r.n.X.length r.n.cx, .slice r.n.ay r.n.Y.length r.n.cy, .slice r.n.av r.n.V.length r.n.cv, .slice r.a.ax r.a.X.length r.a.cx, .slice r.a.ay r.a.Y.length r.a.cy, .slice r.a.av r.a.V.length r.a.cv, .slice r.b.ax r.b.X.length r.b.cx, .slice r.b.ay r.b.Y.length r.b.cy, .slice r.b.av r.b.V.length r.b.cv, .slice r.d.ax r.d.X.length r.d.cx, .slice r.d.ay r.d.Y.length r.d.cy, .slice r.d.av r.d.V.length r.d.cv, .int .i64 r.cl, .int .i64 r.bu]) (T := 27)).keep hb1; have c1 := K1.cell; have l1 := K1.lt; have HB1 := Lib.hid (Below.trans (show Below w.heap.size w _ by go_grown) (hb1.mono (by simp <;> omega))); clear hb1))
  go_ret
  exact ⟨rfl, HB1.out⟩
theorem check_f2 (r : RO) (w : World) (rg : RG w r) (e1 : filB 0 100000 r.h = true) (e2 : filB 0 100 r.g = false) : Calls Try.prog 16 #[.agg #[.slice r.h.ax r.h.X.length r.h.cx, .slice r.h.ay r.h.Y.length r.h.cy, .slice r.h.av r.h.V.length r.h.cv, .slice r.g.ax r.g.X.length r.g.cx, .slice r.g.ay r.g.Y.length r.g.cy, .slice r.g.av r.g.V.length r.g.cv, .slice r.l.ax r.l.X.length r.l.cx, .slice r.l.ay r.l.Y.length r.l.cy, .slice r.l.av r.l.V.length r.l.cv, .slice r.p.ax r.p.X.length r.p.cx, .slice r.p.ay r.p.Y.length r.p.cy, .slice r.p.av r.p.V.length r.p.cv, .slice r.n.ax r.n.X.length r.n.cx, .slice r.n.ay r.n.Y.length r.n.cy, .slice r.n.av r.n.V.length r.n.cv, .slice r.a.ax r.a.X.length r.a.cx, .slice r.a.ay r.a.Y.length r.a.cy, .slice r.a.av r.a.V.length r.a.cv, .slice r.b.ax r.b.X.length r.b.cx, .slice r.b.ay r.b.Y.length r.b.cy, .slice r.b.av r.b.V.length r.b.cv, .slice r.d.ax r.d.X.length r.d.cx, .slice r.d.ay r.d.Y.length r.d.cy, .slice r.d.av r.d.V.length r.d.cv, .int .i64 r.cl, .int .i64 r.bu]] w fun e w' => e = .returned (.int .i64 20) ∧ Below w.heap.size w w' := by
  have H1 := Lib.hid (fun (W : World) (hW : Below w.heap.size w W) => holds_any' 0 100000 r.h W (rg.h.below hW))
  rw [e1] at H1
  have H2 := Lib.hid (fun (W : World) (hW : Below w.heap.size w W) => holds_any' 0 100 r.g W (rg.g.below hW))
  rw [e2] at H2
  clear rg e1 e2
  go_enter Try.func16, Try.ntmps16
  go_wp2_with (first
    | (go_at_call_of 51 (Value.agg #[.slice r.h.ax r.h.X.length r.h.cx, .slice r.h.ay r.h.Y.length r.h.cy, .slice r.h.av r.h.V.length r.h.cv]); refine Calls.mono (H1.out _ (by go_grown)) ?_; rintro e w1 ⟨rfl, hb1⟩; have K1 := (BK.new (w := w) (cs := #[.slice r.h.ax r.h.X.length r.h.cx, .slice r.h.ay r.h.Y.length r.h.cy, .slice r.h.av r.h.V.length r.h.cv, .slice r.g.ax r.g.X.length r.g.cx, .slice r.g.ay r.g.Y.length r.g.cy, .slice r.g.av r.g.V.length r.g.cv, .slice r.l.ax r.l.X.length r.l.cx, .slice r.l.ay r.l.Y.length r.l.cy, .slice r.l.av r.l.V.length r.l.cv, .slice r.p.ax r.p.X.length r.p.cx, .slice r.p.ay r.p.Y.length r.p.cy, .slice r.p.av r.p.V.length r.p.cv, .slice r.n.ax r.n.X.length r.n.cx, .slice r.n.ay r.n.Y.length r.n.cy, .slice r.n.av r.n.V.length r.n.cv, .slice r.a.ax r.a.X.length r.a.cx, .slice r.a.ay r.a.Y.length r.a.cy, .slice r.a.av r.a.V.length r.a.cv, .slice r.b.ax r.b.X.length r.b.cx, .slice r.b.ay r.b.Y.length r.b.cy, .slice r.b.av r.b.V.length r.b.cv, .slice r.d.ax r.d.X.length r.d.cx, .slice r.d.ay r.d.Y.length r.d.cy, .slice r.d.av r.d.V.length r.d.cv, .int .i64 r.cl, .int .i64 r.bu]) (T := 27)).keep hb1; have c1 := K1.cell; have l1 := K1.lt; have HB1 := Lib.hid (Below.trans (show Below w.heap.size w _ by go_grown) (hb1.mono (by simp <;> omega))); clear hb1)
    | (go_at_call_of 51 (Value.agg #[.slice r.g.ax r.g.X.length r.g.cx, .slice r.g.ay r.g.Y.length r.g.cy, .slice r.g.av r.g.V.length r.g.cv]); refine Calls.mono (H2.out _ HB1.out) ?_; rintro e w2 ⟨rfl, hb2⟩; have K2 := K1.keep hb2; have c2 := K2.cell; have l2 := K2.lt; have HB2 := Lib.hid (HB1.out.trans (hb2.mono HB1.out.size)); clear hb2 c1 l1))
  go_ret
  exact ⟨rfl, HB2.out⟩
theorem check_f3 (r : RO) (w : World) (rg : RG w r) (e1 : filB 0 100000 r.h = true) (e2 : filB 0 100 r.g = true) (e3 : filB 0 100000 r.l = false) : Calls Try.prog 16 #[.agg #[.slice r.h.ax r.h.X.length r.h.cx, .slice r.h.ay r.h.Y.length r.h.cy, .slice r.h.av r.h.V.length r.h.cv, .slice r.g.ax r.g.X.length r.g.cx, .slice r.g.ay r.g.Y.length r.g.cy, .slice r.g.av r.g.V.length r.g.cv, .slice r.l.ax r.l.X.length r.l.cx, .slice r.l.ay r.l.Y.length r.l.cy, .slice r.l.av r.l.V.length r.l.cv, .slice r.p.ax r.p.X.length r.p.cx, .slice r.p.ay r.p.Y.length r.p.cy, .slice r.p.av r.p.V.length r.p.cv, .slice r.n.ax r.n.X.length r.n.cx, .slice r.n.ay r.n.Y.length r.n.cy, .slice r.n.av r.n.V.length r.n.cv, .slice r.a.ax r.a.X.length r.a.cx, .slice r.a.ay r.a.Y.length r.a.cy, .slice r.a.av r.a.V.length r.a.cv, .slice r.b.ax r.b.X.length r.b.cx, .slice r.b.ay r.b.Y.length r.b.cy, .slice r.b.av r.b.V.length r.b.cv, .slice r.d.ax r.d.X.length r.d.cx, .slice r.d.ay r.d.Y.length r.d.cy, .slice r.d.av r.d.V.length r.d.cv, .int .i64 r.cl, .int .i64 r.bu]] w fun e w' => e = .returned (.int .i64 20) ∧ Below w.heap.size w w' := by
  have H1 := Lib.hid (fun (W : World) (hW : Below w.heap.size w W) => holds_any' 0 100000 r.h W (rg.h.below hW))
  rw [e1] at H1
  have H2 := Lib.hid (fun (W : World) (hW : Below w.heap.size w W) => holds_any' 0 100 r.g W (rg.g.below hW))
  rw [e2] at H2
  have H3 := Lib.hid (fun (W : World) (hW : Below w.heap.size w W) => holds_any' 0 100000 r.l W (rg.l.below hW))
  rw [e3] at H3
  clear rg e1 e2 e3
  go_enter Try.func16, Try.ntmps16
  go_wp2_with (first
    | (go_at_call_of 51 (Value.agg #[.slice r.h.ax r.h.X.length r.h.cx, .slice r.h.ay r.h.Y.length r.h.cy, .slice r.h.av r.h.V.length r.h.cv]); refine Calls.mono (H1.out _ (by go_grown)) ?_; rintro e w1 ⟨rfl, hb1⟩; have K1 := (BK.new (w := w) (cs := #[.slice r.h.ax r.h.X.length r.h.cx, .slice r.h.ay r.h.Y.length r.h.cy, .slice r.h.av r.h.V.length r.h.cv, .slice r.g.ax r.g.X.length r.g.cx, .slice r.g.ay r.g.Y.length r.g.cy, .slice r.g.av r.g.V.length r.g.cv, .slice r.l.ax r.l.X.length r.l.cx, .slice r.l.ay r.l.Y.length r.l.cy, .slice r.l.av r.l.V.length r.l.cv, .slice r.p.ax r.p.X.length r.p.cx, .slice r.p.ay r.p.Y.length r.p.cy, .slice r.p.av r.p.V.length r.p.cv, .slice r.n.ax r.n.X.length r.n.cx, .slice r.n.ay r.n.Y.length r.n.cy, .slice r.n.av r.n.V.length r.n.cv, .slice r.a.ax r.a.X.length r.a.cx, .slice r.a.ay r.a.Y.length r.a.cy, .slice r.a.av r.a.V.length r.a.cv, .slice r.b.ax r.b.X.length r.b.cx, .slice r.b.ay r.b.Y.length r.b.cy, .slice r.b.av r.b.V.length r.b.cv, .slice r.d.ax r.d.X.length r.d.cx, .slice r.d.ay r.d.Y.length r.d.cy, .slice r.d.av r.d.V.length r.d.cv, .int .i64 r.cl, .int .i64 r.bu]) (T := 27)).keep hb1; have c1 := K1.cell; have l1 := K1.lt; have HB1 := Lib.hid (Below.trans (show Below w.heap.size w _ by go_grown) (hb1.mono (by simp <;> omega))); clear hb1)
    | (go_at_call_of 51 (Value.agg #[.slice r.g.ax r.g.X.length r.g.cx, .slice r.g.ay r.g.Y.length r.g.cy, .slice r.g.av r.g.V.length r.g.cv]); refine Calls.mono (H2.out _ HB1.out) ?_; rintro e w2 ⟨rfl, hb2⟩; have K2 := K1.keep hb2; have c2 := K2.cell; have l2 := K2.lt; have HB2 := Lib.hid (HB1.out.trans (hb2.mono HB1.out.size)); clear hb2 c1 l1)
    | (go_at_call_of 51 (Value.agg #[.slice r.l.ax r.l.X.length r.l.cx, .slice r.l.ay r.l.Y.length r.l.cy, .slice r.l.av r.l.V.length r.l.cv]); refine Calls.mono (H3.out _ HB2.out) ?_; rintro e w3 ⟨rfl, hb3⟩; have K3 := K2.keep hb3; have c3 := K3.cell; have l3 := K3.lt; have HB3 := Lib.hid (HB2.out.trans (hb3.mono HB2.out.size)); clear hb3 c2 l2))
  go_ret
  exact ⟨rfl, HB3.out⟩
theorem check_f4 (r : RO) (w : World) (rg : RG w r) (e1 : filB 0 100000 r.h = true) (e2 : filB 0 100 r.g = true) (e3 : filB 0 100000 r.l = true) (e4 : filB 0 100000 r.p = false) : Calls Try.prog 16 #[.agg #[.slice r.h.ax r.h.X.length r.h.cx, .slice r.h.ay r.h.Y.length r.h.cy, .slice r.h.av r.h.V.length r.h.cv, .slice r.g.ax r.g.X.length r.g.cx, .slice r.g.ay r.g.Y.length r.g.cy, .slice r.g.av r.g.V.length r.g.cv, .slice r.l.ax r.l.X.length r.l.cx, .slice r.l.ay r.l.Y.length r.l.cy, .slice r.l.av r.l.V.length r.l.cv, .slice r.p.ax r.p.X.length r.p.cx, .slice r.p.ay r.p.Y.length r.p.cy, .slice r.p.av r.p.V.length r.p.cv, .slice r.n.ax r.n.X.length r.n.cx, .slice r.n.ay r.n.Y.length r.n.cy, .slice r.n.av r.n.V.length r.n.cv, .slice r.a.ax r.a.X.length r.a.cx, .slice r.a.ay r.a.Y.length r.a.cy, .slice r.a.av r.a.V.length r.a.cv, .slice r.b.ax r.b.X.length r.b.cx, .slice r.b.ay r.b.Y.length r.b.cy, .slice r.b.av r.b.V.length r.b.cv, .slice r.d.ax r.d.X.length r.d.cx, .slice r.d.ay r.d.Y.length r.d.cy, .slice r.d.av r.d.V.length r.d.cv, .int .i64 r.cl, .int .i64 r.bu]] w fun e w' => e = .returned (.int .i64 20) ∧ Below w.heap.size w w' := by
  have H1 := Lib.hid (fun (W : World) (hW : Below w.heap.size w W) => holds_any' 0 100000 r.h W (rg.h.below hW))
  rw [e1] at H1
  have H2 := Lib.hid (fun (W : World) (hW : Below w.heap.size w W) => holds_any' 0 100 r.g W (rg.g.below hW))
  rw [e2] at H2
  have H3 := Lib.hid (fun (W : World) (hW : Below w.heap.size w W) => holds_any' 0 100000 r.l W (rg.l.below hW))
  rw [e3] at H3
  have H4 := Lib.hid (fun (W : World) (hW : Below w.heap.size w W) => holds_any' 0 100000 r.p W (rg.p.below hW))
  rw [e4] at H4
  clear rg e1 e2 e3 e4
  go_enter Try.func16, Try.ntmps16
  go_wp2_with (first
    | (go_at_call_of 51 (Value.agg #[.slice r.h.ax r.h.X.length r.h.cx, .slice r.h.ay r.h.Y.length r.h.cy, .slice r.h.av r.h.V.length r.h.cv]); refine Calls.mono (H1.out _ (by go_grown)) ?_; rintro e w1 ⟨rfl, hb1⟩; have K1 := (BK.new (w := w) (cs := #[.slice r.h.ax r.h.X.length r.h.cx, .slice r.h.ay r.h.Y.length r.h.cy, .slice r.h.av r.h.V.length r.h.cv, .slice r.g.ax r.g.X.length r.g.cx, .slice r.g.ay r.g.Y.length r.g.cy, .slice r.g.av r.g.V.length r.g.cv, .slice r.l.ax r.l.X.length r.l.cx, .slice r.l.ay r.l.Y.length r.l.cy, .slice r.l.av r.l.V.length r.l.cv, .slice r.p.ax r.p.X.length r.p.cx, .slice r.p.ay r.p.Y.length r.p.cy, .slice r.p.av r.p.V.length r.p.cv, .slice r.n.ax r.n.X.length r.n.cx, .slice r.n.ay r.n.Y.length r.n.cy, .slice r.n.av r.n.V.length r.n.cv, .slice r.a.ax r.a.X.length r.a.cx, .slice r.a.ay r.a.Y.length r.a.cy, .slice r.a.av r.a.V.length r.a.cv, .slice r.b.ax r.b.X.length r.b.cx, .slice r.b.ay r.b.Y.length r.b.cy, .slice r.b.av r.b.V.length r.b.cv, .slice r.d.ax r.d.X.length r.d.cx, .slice r.d.ay r.d.Y.length r.d.cy, .slice r.d.av r.d.V.length r.d.cv, .int .i64 r.cl, .int .i64 r.bu]) (T := 27)).keep hb1; have c1 := K1.cell; have l1 := K1.lt; have HB1 := Lib.hid (Below.trans (show Below w.heap.size w _ by go_grown) (hb1.mono (by simp <;> omega))); clear hb1)
    | (go_at_call_of 51 (Value.agg #[.slice r.g.ax r.g.X.length r.g.cx, .slice r.g.ay r.g.Y.length r.g.cy, .slice r.g.av r.g.V.length r.g.cv]); refine Calls.mono (H2.out _ HB1.out) ?_; rintro e w2 ⟨rfl, hb2⟩; have K2 := K1.keep hb2; have c2 := K2.cell; have l2 := K2.lt; have HB2 := Lib.hid (HB1.out.trans (hb2.mono HB1.out.size)); clear hb2 c1 l1)
    | (go_at_call_of 51 (Value.agg #[.slice r.l.ax r.l.X.length r.l.cx, .slice r.l.ay r.l.Y.length r.l.cy, .slice r.l.av r.l.V.length r.l.cv]); refine Calls.mono (H3.out _ HB2.out) ?_; rintro e w3 ⟨rfl, hb3⟩; have K3 := K2.keep hb3; have c3 := K3.cell; have l3 := K3.lt; have HB3 := Lib.hid (HB2.out.trans (hb3.mono HB2.out.size)); clear hb3 c2 l2)
    | (go_at_call_of 51 (Value.agg #[.slice r.p.ax r.p.X.length r.p.cx, .slice r.p.ay r.p.Y.length r.p.cy, .slice r.p.av r.p.V.length r.p.cv]); refine Calls.mono (H4.out _ HB3.out) ?_; rintro e w4 ⟨rfl, hb4⟩; have K4 := K3.keep hb4; have c4 := K4.cell; have l4 := K4.lt; have HB4 := Lib.hid (HB3.out.trans (hb4.mono HB3.out.size)); clear hb4 c3 l3))
  go_ret
  exact ⟨rfl, HB4.out⟩
theorem check_f5 (r : RO) (w : World) (rg : RG w r) (e1 : filB 0 100000 r.h = true) (e2 : filB 0 100 r.g = true) (e3 : filB 0 100000 r.l = true) (e4 : filB 0 100000 r.p = true) (e5 : filB 0 10000 r.n = false) : Calls Try.prog 16 #[.agg #[.slice r.h.ax r.h.X.length r.h.cx, .slice r.h.ay r.h.Y.length r.h.cy, .slice r.h.av r.h.V.length r.h.cv, .slice r.g.ax r.g.X.length r.g.cx, .slice r.g.ay r.g.Y.length r.g.cy, .slice r.g.av r.g.V.length r.g.cv, .slice r.l.ax r.l.X.length r.l.cx, .slice r.l.ay r.l.Y.length r.l.cy, .slice r.l.av r.l.V.length r.l.cv, .slice r.p.ax r.p.X.length r.p.cx, .slice r.p.ay r.p.Y.length r.p.cy, .slice r.p.av r.p.V.length r.p.cv, .slice r.n.ax r.n.X.length r.n.cx, .slice r.n.ay r.n.Y.length r.n.cy, .slice r.n.av r.n.V.length r.n.cv, .slice r.a.ax r.a.X.length r.a.cx, .slice r.a.ay r.a.Y.length r.a.cy, .slice r.a.av r.a.V.length r.a.cv, .slice r.b.ax r.b.X.length r.b.cx, .slice r.b.ay r.b.Y.length r.b.cy, .slice r.b.av r.b.V.length r.b.cv, .slice r.d.ax r.d.X.length r.d.cx, .slice r.d.ay r.d.Y.length r.d.cy, .slice r.d.av r.d.V.length r.d.cv, .int .i64 r.cl, .int .i64 r.bu]] w fun e w' => e = .returned (.int .i64 20) ∧ Below w.heap.size w w' := by
  have H1 := Lib.hid (fun (W : World) (hW : Below w.heap.size w W) => holds_any' 0 100000 r.h W (rg.h.below hW))
  rw [e1] at H1
  have H2 := Lib.hid (fun (W : World) (hW : Below w.heap.size w W) => holds_any' 0 100 r.g W (rg.g.below hW))
  rw [e2] at H2
  have H3 := Lib.hid (fun (W : World) (hW : Below w.heap.size w W) => holds_any' 0 100000 r.l W (rg.l.below hW))
  rw [e3] at H3
  have H4 := Lib.hid (fun (W : World) (hW : Below w.heap.size w W) => holds_any' 0 100000 r.p W (rg.p.below hW))
  rw [e4] at H4
  have H5 := Lib.hid (fun (W : World) (hW : Below w.heap.size w W) => holds_any' 0 10000 r.n W (rg.n.below hW))
  rw [e5] at H5
  clear rg e1 e2 e3 e4 e5
  go_enter Try.func16, Try.ntmps16
  go_wp2_with (first
    | (go_at_call_of 51 (Value.agg #[.slice r.h.ax r.h.X.length r.h.cx, .slice r.h.ay r.h.Y.length r.h.cy, .slice r.h.av r.h.V.length r.h.cv]); refine Calls.mono (H1.out _ (by go_grown)) ?_; rintro e w1 ⟨rfl, hb1⟩; have K1 := (BK.new (w := w) (cs := #[.slice r.h.ax r.h.X.length r.h.cx, .slice r.h.ay r.h.Y.length r.h.cy, .slice r.h.av r.h.V.length r.h.cv, .slice r.g.ax r.g.X.length r.g.cx, .slice r.g.ay r.g.Y.length r.g.cy, .slice r.g.av r.g.V.length r.g.cv, .slice r.l.ax r.l.X.length r.l.cx, .slice r.l.ay r.l.Y.length r.l.cy, .slice r.l.av r.l.V.length r.l.cv, .slice r.p.ax r.p.X.length r.p.cx, .slice r.p.ay r.p.Y.length r.p.cy, .slice r.p.av r.p.V.length r.p.cv, .slice r.n.ax r.n.X.length r.n.cx, .slice r.n.ay r.n.Y.length r.n.cy, .slice r.n.av r.n.V.length r.n.cv, .slice r.a.ax r.a.X.length r.a.cx, .slice r.a.ay r.a.Y.length r.a.cy, .slice r.a.av r.a.V.length r.a.cv, .slice r.b.ax r.b.X.length r.b.cx, .slice r.b.ay r.b.Y.length r.b.cy, .slice r.b.av r.b.V.length r.b.cv, .slice r.d.ax r.d.X.length r.d.cx, .slice r.d.ay r.d.Y.length r.d.cy, .slice r.d.av r.d.V.length r.d.cv, .int .i64 r.cl, .int .i64 r.bu]) (T := 27)).keep hb1; have c1 := K1.cell; have l1 := K1.lt; have HB1 := Lib.hid (Below.trans (show Below w.heap.size w _ by go_grown) (hb1.mono (by simp <;> omega))); clear hb1)
    | (go_at_call_of 51 (Value.agg #[.slice r.g.ax r.g.X.length r.g.cx, .slice r.g.ay r.g.Y.length r.g.cy, .slice r.g.av r.g.V.length r.g.cv]); refine Calls.mono (H2.out _ HB1.out) ?_; rintro e w2 ⟨rfl, hb2⟩; have K2 := K1.keep hb2; have c2 := K2.cell; have l2 := K2.lt; have HB2 := Lib.hid (HB1.out.trans (hb2.mono HB1.out.size)); clear hb2 c1 l1)
    | (go_at_call_of 51 (Value.agg #[.slice r.l.ax r.l.X.length r.l.cx, .slice r.l.ay r.l.Y.length r.l.cy, .slice r.l.av r.l.V.length r.l.cv]); refine Calls.mono (H3.out _ HB2.out) ?_; rintro e w3 ⟨rfl, hb3⟩; have K3 := K2.keep hb3; have c3 := K3.cell; have l3 := K3.lt; have HB3 := Lib.hid (HB2.out.trans (hb3.mono HB2.out.size)); clear hb3 c2 l2)
    | (go_at_call_of 51 (Value.agg #[.slice r.p.ax r.p.X.length r.p.cx, .slice r.p.ay r.p.Y.length r.p.cy, .slice r.p.av r.p.V.length r.p.cv]); refine Calls.mono (H4.out _ HB3.out) ?_; rintro e w4 ⟨rfl, hb4⟩; have K4 := K3.keep hb4; have c4 := K4.cell; have l4 := K4.lt; have HB4 := Lib.hid (HB3.out.trans (hb4.mono HB3.out.size)); clear hb4 c3 l3)
    | (go_at_call_of 51 (Value.agg #[.slice r.n.ax r.n.X.length r.n.cx, .slice r.n.ay r.n.Y.length r.n.cy, .slice r.n.av r.n.V.length r.n.cv]); refine Calls.mono (H5.out _ HB4.out) ?_; rintro e w5 ⟨rfl, hb5⟩; have K5 := K4.keep hb5; have c5 := K5.cell; have l5 := K5.lt; have HB5 := Lib.hid (HB4.out.trans (hb5.mono HB4.out.size)); clear hb5 c4 l4))
  go_ret
  exact ⟨rfl, HB5.out⟩
theorem check_f6 (r : RO) (w : World) (rg : RG w r) (e1 : filB 0 100000 r.h = true) (e2 : filB 0 100 r.g = true) (e3 : filB 0 100000 r.l = true) (e4 : filB 0 100000 r.p = true) (e5 : filB 0 10000 r.n = true) (e6 : filB 0 10000 r.a = false) : Calls Try.prog 16 #[.agg #[.slice r.h.ax r.h.X.length r.h.cx, .slice r.h.ay r.h.Y.length r.h.cy, .slice r.h.av r.h.V.length r.h.cv, .slice r.g.ax r.g.X.length r.g.cx, .slice r.g.ay r.g.Y.length r.g.cy, .slice r.g.av r.g.V.length r.g.cv, .slice r.l.ax r.l.X.length r.l.cx, .slice r.l.ay r.l.Y.length r.l.cy, .slice r.l.av r.l.V.length r.l.cv, .slice r.p.ax r.p.X.length r.p.cx, .slice r.p.ay r.p.Y.length r.p.cy, .slice r.p.av r.p.V.length r.p.cv, .slice r.n.ax r.n.X.length r.n.cx, .slice r.n.ay r.n.Y.length r.n.cy, .slice r.n.av r.n.V.length r.n.cv, .slice r.a.ax r.a.X.length r.a.cx, .slice r.a.ay r.a.Y.length r.a.cy, .slice r.a.av r.a.V.length r.a.cv, .slice r.b.ax r.b.X.length r.b.cx, .slice r.b.ay r.b.Y.length r.b.cy, .slice r.b.av r.b.V.length r.b.cv, .slice r.d.ax r.d.X.length r.d.cx, .slice r.d.ay r.d.Y.length r.d.cy, .slice r.d.av r.d.V.length r.d.cv, .int .i64 r.cl, .int .i64 r.bu]] w fun e w' => e = .returned (.int .i64 20) ∧ Below w.heap.size w w' := by
  have H1 := Lib.hid (fun (W : World) (hW : Below w.heap.size w W) => holds_any' 0 100000 r.h W (rg.h.below hW))
  rw [e1] at H1
  have H2 := Lib.hid (fun (W : World) (hW : Below w.heap.size w W) => holds_any' 0 100 r.g W (rg.g.below hW))
  rw [e2] at H2
  have H3 := Lib.hid (fun (W : World) (hW : Below w.heap.size w W) => holds_any' 0 100000 r.l W (rg.l.below hW))
  rw [e3] at H3
  have H4 := Lib.hid (fun (W : World) (hW : Below w.heap.size w W) => holds_any' 0 100000 r.p W (rg.p.below hW))
  rw [e4] at H4
  have H5 := Lib.hid (fun (W : World) (hW : Below w.heap.size w W) => holds_any' 0 10000 r.n W (rg.n.below hW))
  rw [e5] at H5
  have H6 := Lib.hid (fun (W : World) (hW : Below w.heap.size w W) => holds_any' 0 10000 r.a W (rg.a.below hW))
  rw [e6] at H6
  clear rg e1 e2 e3 e4 e5 e6
  go_enter Try.func16, Try.ntmps16
  go_wp2_with (first
    | (go_at_call_of 51 (Value.agg #[.slice r.h.ax r.h.X.length r.h.cx, .slice r.h.ay r.h.Y.length r.h.cy, .slice r.h.av r.h.V.length r.h.cv]); refine Calls.mono (H1.out _ (by go_grown)) ?_; rintro e w1 ⟨rfl, hb1⟩; have K1 := (BK.new (w := w) (cs := #[.slice r.h.ax r.h.X.length r.h.cx, .slice r.h.ay r.h.Y.length r.h.cy, .slice r.h.av r.h.V.length r.h.cv, .slice r.g.ax r.g.X.length r.g.cx, .slice r.g.ay r.g.Y.length r.g.cy, .slice r.g.av r.g.V.length r.g.cv, .slice r.l.ax r.l.X.length r.l.cx, .slice r.l.ay r.l.Y.length r.l.cy, .slice r.l.av r.l.V.length r.l.cv, .slice r.p.ax r.p.X.length r.p.cx, .slice r.p.ay r.p.Y.length r.p.cy, .slice r.p.av r.p.V.length r.p.cv, .slice r.n.ax r.n.X.length r.n.cx, .slice r.n.ay r.n.Y.length r.n.cy, .slice r.n.av r.n.V.length r.n.cv, .slice r.a.ax r.a.X.length r.a.cx, .slice r.a.ay r.a.Y.length r.a.cy, .slice r.a.av r.a.V.length r.a.cv, .slice r.b.ax r.b.X.length r.b.cx, .slice r.b.ay r.b.Y.length r.b.cy, .slice r.b.av r.b.V.length r.b.cv, .slice r.d.ax r.d.X.length r.d.cx, .slice r.d.ay r.d.Y.length r.d.cy, .slice r.d.av r.d.V.length r.d.cv, .int .i64 r.cl, .int .i64 r.bu]) (T := 27)).keep hb1; have c1 := K1.cell; have l1 := K1.lt; have HB1 := Lib.hid (Below.trans (show Below w.heap.size w _ by go_grown) (hb1.mono (by simp <;> omega))); clear hb1)
    | (go_at_call_of 51 (Value.agg #[.slice r.g.ax r.g.X.length r.g.cx, .slice r.g.ay r.g.Y.length r.g.cy, .slice r.g.av r.g.V.length r.g.cv]); refine Calls.mono (H2.out _ HB1.out) ?_; rintro e w2 ⟨rfl, hb2⟩; have K2 := K1.keep hb2; have c2 := K2.cell; have l2 := K2.lt; have HB2 := Lib.hid (HB1.out.trans (hb2.mono HB1.out.size)); clear hb2 c1 l1)
    | (go_at_call_of 51 (Value.agg #[.slice r.l.ax r.l.X.length r.l.cx, .slice r.l.ay r.l.Y.length r.l.cy, .slice r.l.av r.l.V.length r.l.cv]); refine Calls.mono (H3.out _ HB2.out) ?_; rintro e w3 ⟨rfl, hb3⟩; have K3 := K2.keep hb3; have c3 := K3.cell; have l3 := K3.lt; have HB3 := Lib.hid (HB2.out.trans (hb3.mono HB2.out.size)); clear hb3 c2 l2)
    | (go_at_call_of 51 (Value.agg #[.slice r.p.ax r.p.X.length r.p.cx, .slice r.p.ay r.p.Y.length r.p.cy, .slice r.p.av r.p.V.length r.p.cv]); refine Calls.mono (H4.out _ HB3.out) ?_; rintro e w4 ⟨rfl, hb4⟩; have K4 := K3.keep hb4; have c4 := K4.cell; have l4 := K4.lt; have HB4 := Lib.hid (HB3.out.trans (hb4.mono HB3.out.size)); clear hb4 c3 l3)
    | (go_at_call_of 51 (Value.agg #[.slice r.n.ax r.n.X.length r.n.cx, .slice r.n.ay r.n.Y.length r.n.cy, .slice r.n.av r.n.V.length r.n.cv]); refine Calls.mono (H5.out _ HB4.out) ?_; rintro e w5 ⟨rfl, hb5⟩; have K5 := K4.keep hb5; have c5 := K5.cell; have l5 := K5.lt; have HB5 := Lib.hid (HB4.out.trans (hb5.mono HB4.out.size)); clear hb5 c4 l4)
    | (go_at_call_of 51 (Value.agg #[.slice r.a.ax r.a.X.length r.a.cx, .slice r.a.ay r.a.Y.length r.a.cy, .slice r.a.av r.a.V.length r.a.cv]); refine Calls.mono (H6.out _ HB5.out) ?_; rintro e w6 ⟨rfl, hb6⟩; have K6 := K5.keep hb6; have c6 := K6.cell; have l6 := K6.lt; have HB6 := Lib.hid (HB5.out.trans (hb6.mono HB5.out.size)); clear hb6 c5 l5))
  go_ret
  exact ⟨rfl, HB6.out⟩
theorem check_f7 (r : RO) (w : World) (rg : RG w r) (e1 : filB 0 100000 r.h = true) (e2 : filB 0 100 r.g = true) (e3 : filB 0 100000 r.l = true) (e4 : filB 0 100000 r.p = true) (e5 : filB 0 10000 r.n = true) (e6 : filB 0 10000 r.a = true) (e7 : filB 0 10000 r.b = false) : Calls Try.prog 16 #[.agg #[.slice r.h.ax r.h.X.length r.h.cx, .slice r.h.ay r.h.Y.length r.h.cy, .slice r.h.av r.h.V.length r.h.cv, .slice r.g.ax r.g.X.length r.g.cx, .slice r.g.ay r.g.Y.length r.g.cy, .slice r.g.av r.g.V.length r.g.cv, .slice r.l.ax r.l.X.length r.l.cx, .slice r.l.ay r.l.Y.length r.l.cy, .slice r.l.av r.l.V.length r.l.cv, .slice r.p.ax r.p.X.length r.p.cx, .slice r.p.ay r.p.Y.length r.p.cy, .slice r.p.av r.p.V.length r.p.cv, .slice r.n.ax r.n.X.length r.n.cx, .slice r.n.ay r.n.Y.length r.n.cy, .slice r.n.av r.n.V.length r.n.cv, .slice r.a.ax r.a.X.length r.a.cx, .slice r.a.ay r.a.Y.length r.a.cy, .slice r.a.av r.a.V.length r.a.cv, .slice r.b.ax r.b.X.length r.b.cx, .slice r.b.ay r.b.Y.length r.b.cy, .slice r.b.av r.b.V.length r.b.cv, .slice r.d.ax r.d.X.length r.d.cx, .slice r.d.ay r.d.Y.length r.d.cy, .slice r.d.av r.d.V.length r.d.cv, .int .i64 r.cl, .int .i64 r.bu]] w fun e w' => e = .returned (.int .i64 20) ∧ Below w.heap.size w w' := by
  have H1 := Lib.hid (fun (W : World) (hW : Below w.heap.size w W) => holds_any' 0 100000 r.h W (rg.h.below hW))
  rw [e1] at H1
  have H2 := Lib.hid (fun (W : World) (hW : Below w.heap.size w W) => holds_any' 0 100 r.g W (rg.g.below hW))
  rw [e2] at H2
  have H3 := Lib.hid (fun (W : World) (hW : Below w.heap.size w W) => holds_any' 0 100000 r.l W (rg.l.below hW))
  rw [e3] at H3
  have H4 := Lib.hid (fun (W : World) (hW : Below w.heap.size w W) => holds_any' 0 100000 r.p W (rg.p.below hW))
  rw [e4] at H4
  have H5 := Lib.hid (fun (W : World) (hW : Below w.heap.size w W) => holds_any' 0 10000 r.n W (rg.n.below hW))
  rw [e5] at H5
  have H6 := Lib.hid (fun (W : World) (hW : Below w.heap.size w W) => holds_any' 0 10000 r.a W (rg.a.below hW))
  rw [e6] at H6
  have H7 := Lib.hid (fun (W : World) (hW : Below w.heap.size w W) => holds_any' 0 10000 r.b W (rg.b.below hW))
  rw [e7] at H7
  clear rg e1 e2 e3 e4 e5 e6 e7
  go_enter Try.func16, Try.ntmps16
  go_wp2_with (first
    | (go_at_call_of 51 (Value.agg #[.slice r.h.ax r.h.X.length r.h.cx, .slice r.h.ay r.h.Y.length r.h.cy, .slice r.h.av r.h.V.length r.h.cv]); refine Calls.mono (H1.out _ (by go_grown)) ?_; rintro e w1 ⟨rfl, hb1⟩; have K1 := (BK.new (w := w) (cs := #[.slice r.h.ax r.h.X.length r.h.cx, .slice r.h.ay r.h.Y.length r.h.cy, .slice r.h.av r.h.V.length r.h.cv, .slice r.g.ax r.g.X.length r.g.cx, .slice r.g.ay r.g.Y.length r.g.cy, .slice r.g.av r.g.V.length r.g.cv, .slice r.l.ax r.l.X.length r.l.cx, .slice r.l.ay r.l.Y.length r.l.cy, .slice r.l.av r.l.V.length r.l.cv, .slice r.p.ax r.p.X.length r.p.cx, .slice r.p.ay r.p.Y.length r.p.cy, .slice r.p.av r.p.V.length r.p.cv, .slice r.n.ax r.n.X.length r.n.cx, .slice r.n.ay r.n.Y.length r.n.cy, .slice r.n.av r.n.V.length r.n.cv, .slice r.a.ax r.a.X.length r.a.cx, .slice r.a.ay r.a.Y.length r.a.cy, .slice r.a.av r.a.V.length r.a.cv, .slice r.b.ax r.b.X.length r.b.cx, .slice r.b.ay r.b.Y.length r.b.cy, .slice r.b.av r.b.V.length r.b.cv, .slice r.d.ax r.d.X.length r.d.cx, .slice r.d.ay r.d.Y.length r.d.cy, .slice r.d.av r.d.V.length r.d.cv, .int .i64 r.cl, .int .i64 r.bu]) (T := 27)).keep hb1; have c1 := K1.cell; have l1 := K1.lt; have HB1 := Lib.hid (Below.trans (show Below w.heap.size w _ by go_grown) (hb1.mono (by simp <;> omega))); clear hb1)
    | (go_at_call_of 51 (Value.agg #[.slice r.g.ax r.g.X.length r.g.cx, .slice r.g.ay r.g.Y.length r.g.cy, .slice r.g.av r.g.V.length r.g.cv]); refine Calls.mono (H2.out _ HB1.out) ?_; rintro e w2 ⟨rfl, hb2⟩; have K2 := K1.keep hb2; have c2 := K2.cell; have l2 := K2.lt; have HB2 := Lib.hid (HB1.out.trans (hb2.mono HB1.out.size)); clear hb2 c1 l1)
    | (go_at_call_of 51 (Value.agg #[.slice r.l.ax r.l.X.length r.l.cx, .slice r.l.ay r.l.Y.length r.l.cy, .slice r.l.av r.l.V.length r.l.cv]); refine Calls.mono (H3.out _ HB2.out) ?_; rintro e w3 ⟨rfl, hb3⟩; have K3 := K2.keep hb3; have c3 := K3.cell; have l3 := K3.lt; have HB3 := Lib.hid (HB2.out.trans (hb3.mono HB2.out.size)); clear hb3 c2 l2)
    | (go_at_call_of 51 (Value.agg #[.slice r.p.ax r.p.X.length r.p.cx, .slice r.p.ay r.p.Y.length r.p.cy, .slice r.p.av r.p.V.length r.p.cv]); refine Calls.mono (H4.out _ HB3.out) ?_; rintro e w4 ⟨rfl, hb4⟩; have K4 := K3.keep hb4; have c4 := K4.cell; have l4 := K4.lt; have HB4 := Lib.hid (HB3.out.trans (hb4.mono HB3.out.size)); clear hb4 c3 l3)
    | (go_at_call_of 51 (Value.agg #[.slice r.n.ax r.n.X.length r.n.cx, .slice r.n.ay r.n.Y.length r.n.cy, .slice r.n.av r.n.V.length r.n.cv]); refine Calls.mono (H5.out _ HB4.out) ?_; rintro e w5 ⟨rfl, hb5⟩; have K5 := K4.keep hb5; have c5 := K5.cell; have l5 := K5.lt; have HB5 := Lib.hid (HB4.out.trans (hb5.mono HB4.out.size)); clear hb5 c4 l4)
    | (go_at_call_of 51 (Value.agg #[.slice r.a.ax r.a.X.length r.a.cx, .slice r.a.ay r.a.Y.length r.a.cy, .slice r.a.av r.a.V.length r.a.cv]); refine Calls.mono (H6.out _ HB5.out) ?_; rintro e w6 ⟨rfl, hb6⟩; have K6 := K5.keep hb6; have c6 := K6.cell; have l6 := K6.lt; have HB6 := Lib.hid (HB5.out.trans (hb6.mono HB5.out.size)); clear hb6 c5 l5)
    | (go_at_call_of 51 (Value.agg #[.slice r.b.ax r.b.X.length r.b.cx, .slice r.b.ay r.b.Y.length r.b.cy, .slice r.b.av r.b.V.length r.b.cv]); refine Calls.mono (H7.out _ HB6.out) ?_; rintro e w7 ⟨rfl, hb7⟩; have K7 := K6.keep hb7; have c7 := K7.cell; have l7 := K7.lt; have HB7 := Lib.hid (HB6.out.trans (hb7.mono HB6.out.size)); clear hb7 c6 l6))
  go_ret
  exact ⟨rfl, HB7.out⟩
theorem check_f8 (r : RO) (w : World) (rg : RG w r) (e1 : filB 0 100000 r.h = true) (e2 : filB 0 100 r.g = true) (e3 : filB 0 100000 r.l = true) (e4 : filB 0 100000 r.p = true) (e5 : filB 0 10000 r.n = true) (e6 : filB 0 10000 r.a = true) (e7 : filB 0 10000 r.b = true) (e8 : rinB r.a r.b = false) : Calls Try.prog 16 #[.agg #[.slice r.h.ax r.h.X.length r.h.cx, .slice r.h.ay r.h.Y.length r.h.cy, .slice r.h.av r.h.V.length r.h.cv, .slice r.g.ax r.g.X.length r.g.cx, .slice r.g.ay r.g.Y.length r.g.cy, .slice r.g.av r.g.V.length r.g.cv, .slice r.l.ax r.l.X.length r.l.cx, .slice r.l.ay r.l.Y.length r.l.cy, .slice r.l.av r.l.V.length r.l.cv, .slice r.p.ax r.p.X.length r.p.cx, .slice r.p.ay r.p.Y.length r.p.cy, .slice r.p.av r.p.V.length r.p.cv, .slice r.n.ax r.n.X.length r.n.cx, .slice r.n.ay r.n.Y.length r.n.cy, .slice r.n.av r.n.V.length r.n.cv, .slice r.a.ax r.a.X.length r.a.cx, .slice r.a.ay r.a.Y.length r.a.cy, .slice r.a.av r.a.V.length r.a.cv, .slice r.b.ax r.b.X.length r.b.cx, .slice r.b.ay r.b.Y.length r.b.cy, .slice r.b.av r.b.V.length r.b.cv, .slice r.d.ax r.d.X.length r.d.cx, .slice r.d.ay r.d.Y.length r.d.cy, .slice r.d.av r.d.V.length r.d.cv, .int .i64 r.cl, .int .i64 r.bu]] w fun e w' => e = .returned (.int .i64 20) ∧ Below w.heap.size w w' := by
  have H1 := Lib.hid (fun (W : World) (hW : Below w.heap.size w W) => holds_any' 0 100000 r.h W (rg.h.below hW))
  rw [e1] at H1
  have H2 := Lib.hid (fun (W : World) (hW : Below w.heap.size w W) => holds_any' 0 100 r.g W (rg.g.below hW))
  rw [e2] at H2
  have H3 := Lib.hid (fun (W : World) (hW : Below w.heap.size w W) => holds_any' 0 100000 r.l W (rg.l.below hW))
  rw [e3] at H3
  have H4 := Lib.hid (fun (W : World) (hW : Below w.heap.size w W) => holds_any' 0 100000 r.p W (rg.p.below hW))
  rw [e4] at H4
  have H5 := Lib.hid (fun (W : World) (hW : Below w.heap.size w W) => holds_any' 0 10000 r.n W (rg.n.below hW))
  rw [e5] at H5
  have H6 := Lib.hid (fun (W : World) (hW : Below w.heap.size w W) => holds_any' 0 10000 r.a W (rg.a.below hW))
  rw [e6] at H6
  have H7 := Lib.hid (fun (W : World) (hW : Below w.heap.size w W) => holds_any' 0 10000 r.b W (rg.b.below hW))
  rw [e7] at H7
  have H8 := Lib.hid (fun (W : World) (hW : Below w.heap.size w W) => ringed_any r.a r.b W (rg.a.below hW) (rg.b.below hW) (filB_ct e6) (filB_ct e7))
  rw [e8] at H8
  clear rg e1 e2 e3 e4 e5 e6 e7 e8
  go_enter Try.func16, Try.ntmps16
  go_wp2_with (first
    | (go_at_call_of 51 (Value.agg #[.slice r.h.ax r.h.X.length r.h.cx, .slice r.h.ay r.h.Y.length r.h.cy, .slice r.h.av r.h.V.length r.h.cv]); refine Calls.mono (H1.out _ (by go_grown)) ?_; rintro e w1 ⟨rfl, hb1⟩; have K1 := (BK.new (w := w) (cs := #[.slice r.h.ax r.h.X.length r.h.cx, .slice r.h.ay r.h.Y.length r.h.cy, .slice r.h.av r.h.V.length r.h.cv, .slice r.g.ax r.g.X.length r.g.cx, .slice r.g.ay r.g.Y.length r.g.cy, .slice r.g.av r.g.V.length r.g.cv, .slice r.l.ax r.l.X.length r.l.cx, .slice r.l.ay r.l.Y.length r.l.cy, .slice r.l.av r.l.V.length r.l.cv, .slice r.p.ax r.p.X.length r.p.cx, .slice r.p.ay r.p.Y.length r.p.cy, .slice r.p.av r.p.V.length r.p.cv, .slice r.n.ax r.n.X.length r.n.cx, .slice r.n.ay r.n.Y.length r.n.cy, .slice r.n.av r.n.V.length r.n.cv, .slice r.a.ax r.a.X.length r.a.cx, .slice r.a.ay r.a.Y.length r.a.cy, .slice r.a.av r.a.V.length r.a.cv, .slice r.b.ax r.b.X.length r.b.cx, .slice r.b.ay r.b.Y.length r.b.cy, .slice r.b.av r.b.V.length r.b.cv, .slice r.d.ax r.d.X.length r.d.cx, .slice r.d.ay r.d.Y.length r.d.cy, .slice r.d.av r.d.V.length r.d.cv, .int .i64 r.cl, .int .i64 r.bu]) (T := 27)).keep hb1; have c1 := K1.cell; have l1 := K1.lt; have HB1 := Lib.hid (Below.trans (show Below w.heap.size w _ by go_grown) (hb1.mono (by simp <;> omega))); clear hb1)
    | (go_at_call_of 51 (Value.agg #[.slice r.g.ax r.g.X.length r.g.cx, .slice r.g.ay r.g.Y.length r.g.cy, .slice r.g.av r.g.V.length r.g.cv]); refine Calls.mono (H2.out _ HB1.out) ?_; rintro e w2 ⟨rfl, hb2⟩; have K2 := K1.keep hb2; have c2 := K2.cell; have l2 := K2.lt; have HB2 := Lib.hid (HB1.out.trans (hb2.mono HB1.out.size)); clear hb2 c1 l1)
    | (go_at_call_of 51 (Value.agg #[.slice r.l.ax r.l.X.length r.l.cx, .slice r.l.ay r.l.Y.length r.l.cy, .slice r.l.av r.l.V.length r.l.cv]); refine Calls.mono (H3.out _ HB2.out) ?_; rintro e w3 ⟨rfl, hb3⟩; have K3 := K2.keep hb3; have c3 := K3.cell; have l3 := K3.lt; have HB3 := Lib.hid (HB2.out.trans (hb3.mono HB2.out.size)); clear hb3 c2 l2)
    | (go_at_call_of 51 (Value.agg #[.slice r.p.ax r.p.X.length r.p.cx, .slice r.p.ay r.p.Y.length r.p.cy, .slice r.p.av r.p.V.length r.p.cv]); refine Calls.mono (H4.out _ HB3.out) ?_; rintro e w4 ⟨rfl, hb4⟩; have K4 := K3.keep hb4; have c4 := K4.cell; have l4 := K4.lt; have HB4 := Lib.hid (HB3.out.trans (hb4.mono HB3.out.size)); clear hb4 c3 l3)
    | (go_at_call_of 51 (Value.agg #[.slice r.n.ax r.n.X.length r.n.cx, .slice r.n.ay r.n.Y.length r.n.cy, .slice r.n.av r.n.V.length r.n.cv]); refine Calls.mono (H5.out _ HB4.out) ?_; rintro e w5 ⟨rfl, hb5⟩; have K5 := K4.keep hb5; have c5 := K5.cell; have l5 := K5.lt; have HB5 := Lib.hid (HB4.out.trans (hb5.mono HB4.out.size)); clear hb5 c4 l4)
    | (go_at_call_of 51 (Value.agg #[.slice r.a.ax r.a.X.length r.a.cx, .slice r.a.ay r.a.Y.length r.a.cy, .slice r.a.av r.a.V.length r.a.cv]); refine Calls.mono (H6.out _ HB5.out) ?_; rintro e w6 ⟨rfl, hb6⟩; have K6 := K5.keep hb6; have c6 := K6.cell; have l6 := K6.lt; have HB6 := Lib.hid (HB5.out.trans (hb6.mono HB5.out.size)); clear hb6 c5 l5)
    | (go_at_call_of 51 (Value.agg #[.slice r.b.ax r.b.X.length r.b.cx, .slice r.b.ay r.b.Y.length r.b.cy, .slice r.b.av r.b.V.length r.b.cv]); refine Calls.mono (H7.out _ HB6.out) ?_; rintro e w7 ⟨rfl, hb7⟩; have K7 := K6.keep hb7; have c7 := K7.cell; have l7 := K7.lt; have HB7 := Lib.hid (HB6.out.trans (hb7.mono HB6.out.size)); clear hb7 c6 l6)
    | (go_at_call 52; refine Calls.mono (H8.out _ HB7.out) ?_; rintro e w8 ⟨rfl, hb8⟩; have K8 := K7.keep hb8; have c8 := K8.cell; have l8 := K8.lt; have HB8 := Lib.hid (HB7.out.trans (hb8.mono HB7.out.size)); clear hb8 c7 l7))
  go_ret
  exact ⟨rfl, HB8.out⟩
theorem check_f9 (r : RO) (w : World) (rg : RG w r) (e1 : filB 0 100000 r.h = true) (e2 : filB 0 100 r.g = true) (e3 : filB 0 100000 r.l = true) (e4 : filB 0 100000 r.p = true) (e5 : filB 0 10000 r.n = true) (e6 : filB 0 10000 r.a = true) (e7 : filB 0 10000 r.b = true) (e8 : rinB r.a r.b = true) (e9 : filB 1 10000 r.d = false) : Calls Try.prog 16 #[.agg #[.slice r.h.ax r.h.X.length r.h.cx, .slice r.h.ay r.h.Y.length r.h.cy, .slice r.h.av r.h.V.length r.h.cv, .slice r.g.ax r.g.X.length r.g.cx, .slice r.g.ay r.g.Y.length r.g.cy, .slice r.g.av r.g.V.length r.g.cv, .slice r.l.ax r.l.X.length r.l.cx, .slice r.l.ay r.l.Y.length r.l.cy, .slice r.l.av r.l.V.length r.l.cv, .slice r.p.ax r.p.X.length r.p.cx, .slice r.p.ay r.p.Y.length r.p.cy, .slice r.p.av r.p.V.length r.p.cv, .slice r.n.ax r.n.X.length r.n.cx, .slice r.n.ay r.n.Y.length r.n.cy, .slice r.n.av r.n.V.length r.n.cv, .slice r.a.ax r.a.X.length r.a.cx, .slice r.a.ay r.a.Y.length r.a.cy, .slice r.a.av r.a.V.length r.a.cv, .slice r.b.ax r.b.X.length r.b.cx, .slice r.b.ay r.b.Y.length r.b.cy, .slice r.b.av r.b.V.length r.b.cv, .slice r.d.ax r.d.X.length r.d.cx, .slice r.d.ay r.d.Y.length r.d.cy, .slice r.d.av r.d.V.length r.d.cv, .int .i64 r.cl, .int .i64 r.bu]] w fun e w' => e = .returned (.int .i64 20) ∧ Below w.heap.size w w' := by
  have H1 := Lib.hid (fun (W : World) (hW : Below w.heap.size w W) => holds_any' 0 100000 r.h W (rg.h.below hW))
  rw [e1] at H1
  have H2 := Lib.hid (fun (W : World) (hW : Below w.heap.size w W) => holds_any' 0 100 r.g W (rg.g.below hW))
  rw [e2] at H2
  have H3 := Lib.hid (fun (W : World) (hW : Below w.heap.size w W) => holds_any' 0 100000 r.l W (rg.l.below hW))
  rw [e3] at H3
  have H4 := Lib.hid (fun (W : World) (hW : Below w.heap.size w W) => holds_any' 0 100000 r.p W (rg.p.below hW))
  rw [e4] at H4
  have H5 := Lib.hid (fun (W : World) (hW : Below w.heap.size w W) => holds_any' 0 10000 r.n W (rg.n.below hW))
  rw [e5] at H5
  have H6 := Lib.hid (fun (W : World) (hW : Below w.heap.size w W) => holds_any' 0 10000 r.a W (rg.a.below hW))
  rw [e6] at H6
  have H7 := Lib.hid (fun (W : World) (hW : Below w.heap.size w W) => holds_any' 0 10000 r.b W (rg.b.below hW))
  rw [e7] at H7
  have H8 := Lib.hid (fun (W : World) (hW : Below w.heap.size w W) => ringed_any r.a r.b W (rg.a.below hW) (rg.b.below hW) (filB_ct e6) (filB_ct e7))
  rw [e8] at H8
  have H9 := Lib.hid (fun (W : World) (hW : Below w.heap.size w W) => holds_any' 1 10000 r.d W (rg.d.below hW))
  rw [e9] at H9
  clear rg e1 e2 e3 e4 e5 e6 e7 e8 e9
  go_enter Try.func16, Try.ntmps16
  go_wp2_with (first
    | (go_at_call_of 51 (Value.agg #[.slice r.h.ax r.h.X.length r.h.cx, .slice r.h.ay r.h.Y.length r.h.cy, .slice r.h.av r.h.V.length r.h.cv]); refine Calls.mono (H1.out _ (by go_grown)) ?_; rintro e w1 ⟨rfl, hb1⟩; have K1 := (BK.new (w := w) (cs := #[.slice r.h.ax r.h.X.length r.h.cx, .slice r.h.ay r.h.Y.length r.h.cy, .slice r.h.av r.h.V.length r.h.cv, .slice r.g.ax r.g.X.length r.g.cx, .slice r.g.ay r.g.Y.length r.g.cy, .slice r.g.av r.g.V.length r.g.cv, .slice r.l.ax r.l.X.length r.l.cx, .slice r.l.ay r.l.Y.length r.l.cy, .slice r.l.av r.l.V.length r.l.cv, .slice r.p.ax r.p.X.length r.p.cx, .slice r.p.ay r.p.Y.length r.p.cy, .slice r.p.av r.p.V.length r.p.cv, .slice r.n.ax r.n.X.length r.n.cx, .slice r.n.ay r.n.Y.length r.n.cy, .slice r.n.av r.n.V.length r.n.cv, .slice r.a.ax r.a.X.length r.a.cx, .slice r.a.ay r.a.Y.length r.a.cy, .slice r.a.av r.a.V.length r.a.cv, .slice r.b.ax r.b.X.length r.b.cx, .slice r.b.ay r.b.Y.length r.b.cy, .slice r.b.av r.b.V.length r.b.cv, .slice r.d.ax r.d.X.length r.d.cx, .slice r.d.ay r.d.Y.length r.d.cy, .slice r.d.av r.d.V.length r.d.cv, .int .i64 r.cl, .int .i64 r.bu]) (T := 27)).keep hb1; have c1 := K1.cell; have l1 := K1.lt; have HB1 := Lib.hid (Below.trans (show Below w.heap.size w _ by go_grown) (hb1.mono (by simp <;> omega))); clear hb1)
    | (go_at_call_of 51 (Value.agg #[.slice r.g.ax r.g.X.length r.g.cx, .slice r.g.ay r.g.Y.length r.g.cy, .slice r.g.av r.g.V.length r.g.cv]); refine Calls.mono (H2.out _ HB1.out) ?_; rintro e w2 ⟨rfl, hb2⟩; have K2 := K1.keep hb2; have c2 := K2.cell; have l2 := K2.lt; have HB2 := Lib.hid (HB1.out.trans (hb2.mono HB1.out.size)); clear hb2 c1 l1)
    | (go_at_call_of 51 (Value.agg #[.slice r.l.ax r.l.X.length r.l.cx, .slice r.l.ay r.l.Y.length r.l.cy, .slice r.l.av r.l.V.length r.l.cv]); refine Calls.mono (H3.out _ HB2.out) ?_; rintro e w3 ⟨rfl, hb3⟩; have K3 := K2.keep hb3; have c3 := K3.cell; have l3 := K3.lt; have HB3 := Lib.hid (HB2.out.trans (hb3.mono HB2.out.size)); clear hb3 c2 l2)
    | (go_at_call_of 51 (Value.agg #[.slice r.p.ax r.p.X.length r.p.cx, .slice r.p.ay r.p.Y.length r.p.cy, .slice r.p.av r.p.V.length r.p.cv]); refine Calls.mono (H4.out _ HB3.out) ?_; rintro e w4 ⟨rfl, hb4⟩; have K4 := K3.keep hb4; have c4 := K4.cell; have l4 := K4.lt; have HB4 := Lib.hid (HB3.out.trans (hb4.mono HB3.out.size)); clear hb4 c3 l3)
    | (go_at_call_of 51 (Value.agg #[.slice r.n.ax r.n.X.length r.n.cx, .slice r.n.ay r.n.Y.length r.n.cy, .slice r.n.av r.n.V.length r.n.cv]); refine Calls.mono (H5.out _ HB4.out) ?_; rintro e w5 ⟨rfl, hb5⟩; have K5 := K4.keep hb5; have c5 := K5.cell; have l5 := K5.lt; have HB5 := Lib.hid (HB4.out.trans (hb5.mono HB4.out.size)); clear hb5 c4 l4)
    | (go_at_call_of 51 (Value.agg #[.slice r.a.ax r.a.X.length r.a.cx, .slice r.a.ay r.a.Y.length r.a.cy, .slice r.a.av r.a.V.length r.a.cv]); refine Calls.mono (H6.out _ HB5.out) ?_; rintro e w6 ⟨rfl, hb6⟩; have K6 := K5.keep hb6; have c6 := K6.cell; have l6 := K6.lt; have HB6 := Lib.hid (HB5.out.trans (hb6.mono HB5.out.size)); clear hb6 c5 l5)
    | (go_at_call_of 51 (Value.agg #[.slice r.b.ax r.b.X.length r.b.cx, .slice r.b.ay r.b.Y.length r.b.cy, .slice r.b.av r.b.V.length r.b.cv]); refine Calls.mono (H7.out _ HB6.out) ?_; rintro e w7 ⟨rfl, hb7⟩; have K7 := K6.keep hb7; have c7 := K7.cell; have l7 := K7.lt; have HB7 := Lib.hid (HB6.out.trans (hb7.mono HB6.out.size)); clear hb7 c6 l6)
    | (go_at_call 52; refine Calls.mono (H8.out _ HB7.out) ?_; rintro e w8 ⟨rfl, hb8⟩; have K8 := K7.keep hb8; have c8 := K8.cell; have l8 := K8.lt; have HB8 := Lib.hid (HB7.out.trans (hb8.mono HB7.out.size)); clear hb8 c7 l7)
    | (go_at_call_of 51 (Value.agg #[.slice r.d.ax r.d.X.length r.d.cx, .slice r.d.ay r.d.Y.length r.d.cy, .slice r.d.av r.d.V.length r.d.cv]); refine Calls.mono (H9.out _ HB8.out) ?_; rintro e w9 ⟨rfl, hb9⟩; have K9 := K8.keep hb9; have c9 := K9.cell; have l9 := K9.lt; have HB9 := Lib.hid (HB8.out.trans (hb9.mono HB8.out.size)); clear hb9 c8 l8))
  go_ret
  exact ⟨rfl, HB9.out⟩
theorem check_f10 (r : RO) (w : World) (rg : RG w r) (e1 : filB 0 100000 r.h = true) (e2 : filB 0 100 r.g = true) (e3 : filB 0 100000 r.l = true) (e4 : filB 0 100000 r.p = true) (e5 : filB 0 10000 r.n = true) (e6 : filB 0 10000 r.a = true) (e7 : filB 0 10000 r.b = true) (e8 : rinB r.a r.b = true) (e9 : filB 1 10000 r.d = true) (e10 : wB 1 1000 [r.cl, r.bu] = false) : Calls Try.prog 16 #[.agg #[.slice r.h.ax r.h.X.length r.h.cx, .slice r.h.ay r.h.Y.length r.h.cy, .slice r.h.av r.h.V.length r.h.cv, .slice r.g.ax r.g.X.length r.g.cx, .slice r.g.ay r.g.Y.length r.g.cy, .slice r.g.av r.g.V.length r.g.cv, .slice r.l.ax r.l.X.length r.l.cx, .slice r.l.ay r.l.Y.length r.l.cy, .slice r.l.av r.l.V.length r.l.cv, .slice r.p.ax r.p.X.length r.p.cx, .slice r.p.ay r.p.Y.length r.p.cy, .slice r.p.av r.p.V.length r.p.cv, .slice r.n.ax r.n.X.length r.n.cx, .slice r.n.ay r.n.Y.length r.n.cy, .slice r.n.av r.n.V.length r.n.cv, .slice r.a.ax r.a.X.length r.a.cx, .slice r.a.ay r.a.Y.length r.a.cy, .slice r.a.av r.a.V.length r.a.cv, .slice r.b.ax r.b.X.length r.b.cx, .slice r.b.ay r.b.Y.length r.b.cy, .slice r.b.av r.b.V.length r.b.cv, .slice r.d.ax r.d.X.length r.d.cx, .slice r.d.ay r.d.Y.length r.d.cy, .slice r.d.av r.d.V.length r.d.cv, .int .i64 r.cl, .int .i64 r.bu]] w fun e w' => e = .returned (.int .i64 20) ∧ Below w.heap.size w w' := by
  have H1 := Lib.hid (fun (W : World) (hW : Below w.heap.size w W) => holds_any' 0 100000 r.h W (rg.h.below hW))
  rw [e1] at H1
  have H2 := Lib.hid (fun (W : World) (hW : Below w.heap.size w W) => holds_any' 0 100 r.g W (rg.g.below hW))
  rw [e2] at H2
  have H3 := Lib.hid (fun (W : World) (hW : Below w.heap.size w W) => holds_any' 0 100000 r.l W (rg.l.below hW))
  rw [e3] at H3
  have H4 := Lib.hid (fun (W : World) (hW : Below w.heap.size w W) => holds_any' 0 100000 r.p W (rg.p.below hW))
  rw [e4] at H4
  have H5 := Lib.hid (fun (W : World) (hW : Below w.heap.size w W) => holds_any' 0 10000 r.n W (rg.n.below hW))
  rw [e5] at H5
  have H6 := Lib.hid (fun (W : World) (hW : Below w.heap.size w W) => holds_any' 0 10000 r.a W (rg.a.below hW))
  rw [e6] at H6
  have H7 := Lib.hid (fun (W : World) (hW : Below w.heap.size w W) => holds_any' 0 10000 r.b W (rg.b.below hW))
  rw [e7] at H7
  have H8 := Lib.hid (fun (W : World) (hW : Below w.heap.size w W) => ringed_any r.a r.b W (rg.a.below hW) (rg.b.below hW) (filB_ct e6) (filB_ct e7))
  rw [e8] at H8
  have H9 := Lib.hid (fun (W : World) (hW : Below w.heap.size w W) => holds_any' 1 10000 r.d W (rg.d.below hW))
  rw [e9] at H9
  have E10 := Lib.hid e10
  clear rg e1 e2 e3 e4 e5 e6 e7 e8 e9 e10
  go_enter Try.func16, Try.ntmps16
  go_wp2_with (first
    | (go_at_call_of 51 (Value.agg #[.slice r.h.ax r.h.X.length r.h.cx, .slice r.h.ay r.h.Y.length r.h.cy, .slice r.h.av r.h.V.length r.h.cv]); refine Calls.mono (H1.out _ (by go_grown)) ?_; rintro e w1 ⟨rfl, hb1⟩; have K1 := (BK.new (w := w) (cs := #[.slice r.h.ax r.h.X.length r.h.cx, .slice r.h.ay r.h.Y.length r.h.cy, .slice r.h.av r.h.V.length r.h.cv, .slice r.g.ax r.g.X.length r.g.cx, .slice r.g.ay r.g.Y.length r.g.cy, .slice r.g.av r.g.V.length r.g.cv, .slice r.l.ax r.l.X.length r.l.cx, .slice r.l.ay r.l.Y.length r.l.cy, .slice r.l.av r.l.V.length r.l.cv, .slice r.p.ax r.p.X.length r.p.cx, .slice r.p.ay r.p.Y.length r.p.cy, .slice r.p.av r.p.V.length r.p.cv, .slice r.n.ax r.n.X.length r.n.cx, .slice r.n.ay r.n.Y.length r.n.cy, .slice r.n.av r.n.V.length r.n.cv, .slice r.a.ax r.a.X.length r.a.cx, .slice r.a.ay r.a.Y.length r.a.cy, .slice r.a.av r.a.V.length r.a.cv, .slice r.b.ax r.b.X.length r.b.cx, .slice r.b.ay r.b.Y.length r.b.cy, .slice r.b.av r.b.V.length r.b.cv, .slice r.d.ax r.d.X.length r.d.cx, .slice r.d.ay r.d.Y.length r.d.cy, .slice r.d.av r.d.V.length r.d.cv, .int .i64 r.cl, .int .i64 r.bu]) (T := 27)).keep hb1; have c1 := K1.cell; have l1 := K1.lt; have HB1 := Lib.hid (Below.trans (show Below w.heap.size w _ by go_grown) (hb1.mono (by simp <;> omega))); clear hb1)
    | (go_at_call_of 51 (Value.agg #[.slice r.g.ax r.g.X.length r.g.cx, .slice r.g.ay r.g.Y.length r.g.cy, .slice r.g.av r.g.V.length r.g.cv]); refine Calls.mono (H2.out _ HB1.out) ?_; rintro e w2 ⟨rfl, hb2⟩; have K2 := K1.keep hb2; have c2 := K2.cell; have l2 := K2.lt; have HB2 := Lib.hid (HB1.out.trans (hb2.mono HB1.out.size)); clear hb2 c1 l1)
    | (go_at_call_of 51 (Value.agg #[.slice r.l.ax r.l.X.length r.l.cx, .slice r.l.ay r.l.Y.length r.l.cy, .slice r.l.av r.l.V.length r.l.cv]); refine Calls.mono (H3.out _ HB2.out) ?_; rintro e w3 ⟨rfl, hb3⟩; have K3 := K2.keep hb3; have c3 := K3.cell; have l3 := K3.lt; have HB3 := Lib.hid (HB2.out.trans (hb3.mono HB2.out.size)); clear hb3 c2 l2)
    | (go_at_call_of 51 (Value.agg #[.slice r.p.ax r.p.X.length r.p.cx, .slice r.p.ay r.p.Y.length r.p.cy, .slice r.p.av r.p.V.length r.p.cv]); refine Calls.mono (H4.out _ HB3.out) ?_; rintro e w4 ⟨rfl, hb4⟩; have K4 := K3.keep hb4; have c4 := K4.cell; have l4 := K4.lt; have HB4 := Lib.hid (HB3.out.trans (hb4.mono HB3.out.size)); clear hb4 c3 l3)
    | (go_at_call_of 51 (Value.agg #[.slice r.n.ax r.n.X.length r.n.cx, .slice r.n.ay r.n.Y.length r.n.cy, .slice r.n.av r.n.V.length r.n.cv]); refine Calls.mono (H5.out _ HB4.out) ?_; rintro e w5 ⟨rfl, hb5⟩; have K5 := K4.keep hb5; have c5 := K5.cell; have l5 := K5.lt; have HB5 := Lib.hid (HB4.out.trans (hb5.mono HB4.out.size)); clear hb5 c4 l4)
    | (go_at_call_of 51 (Value.agg #[.slice r.a.ax r.a.X.length r.a.cx, .slice r.a.ay r.a.Y.length r.a.cy, .slice r.a.av r.a.V.length r.a.cv]); refine Calls.mono (H6.out _ HB5.out) ?_; rintro e w6 ⟨rfl, hb6⟩; have K6 := K5.keep hb6; have c6 := K6.cell; have l6 := K6.lt; have HB6 := Lib.hid (HB5.out.trans (hb6.mono HB5.out.size)); clear hb6 c5 l5)
    | (go_at_call_of 51 (Value.agg #[.slice r.b.ax r.b.X.length r.b.cx, .slice r.b.ay r.b.Y.length r.b.cy, .slice r.b.av r.b.V.length r.b.cv]); refine Calls.mono (H7.out _ HB6.out) ?_; rintro e w7 ⟨rfl, hb7⟩; have K7 := K6.keep hb7; have c7 := K7.cell; have l7 := K7.lt; have HB7 := Lib.hid (HB6.out.trans (hb7.mono HB6.out.size)); clear hb7 c6 l6)
    | (go_at_call 52; refine Calls.mono (H8.out _ HB7.out) ?_; rintro e w8 ⟨rfl, hb8⟩; have K8 := K7.keep hb8; have c8 := K8.cell; have l8 := K8.lt; have HB8 := Lib.hid (HB7.out.trans (hb8.mono HB7.out.size)); clear hb8 c7 l7)
    | (go_at_call_of 51 (Value.agg #[.slice r.d.ax r.d.X.length r.d.cx, .slice r.d.ay r.d.Y.length r.d.cy, .slice r.d.av r.d.V.length r.d.cv]); refine Calls.mono (H9.out _ HB8.out) ?_; rintro e w9 ⟨rfl, hb9⟩; have K9 := K8.keep hb9; have c9 := K9.cell; have l9 := K9.lt; have HB9 := Lib.hid (HB8.out.trans (hb9.mono HB8.out.size)); clear hb9 c8 l8)
    | (go_at_call 53; refine (within_any 1 1000 _ 2 _ _ [r.cl, r.bu] _ rfl (le_maxLen (by omega)) (RI.new2 (by simp))).mono ?_; rintro e w10 ⟨rfl, rfl⟩; rw [E10.out]))
  go_ret
  exact ⟨rfl, HB9.out.alloc HB9.out.size _⟩
theorem check_ok (r : RO) (w : World) (rg : RG w r) (e1 : filB 0 100000 r.h = true) (e2 : filB 0 100 r.g = true) (e3 : filB 0 100000 r.l = true) (e4 : filB 0 100000 r.p = true) (e5 : filB 0 10000 r.n = true) (e6 : filB 0 10000 r.a = true) (e7 : filB 0 10000 r.b = true) (e8 : rinB r.a r.b = true) (e9 : filB 1 10000 r.d = true) (e10 : wB 1 1000 [r.cl, r.bu] = true) : Calls Try.prog 16 #[.agg #[.slice r.h.ax r.h.X.length r.h.cx, .slice r.h.ay r.h.Y.length r.h.cy, .slice r.h.av r.h.V.length r.h.cv, .slice r.g.ax r.g.X.length r.g.cx, .slice r.g.ay r.g.Y.length r.g.cy, .slice r.g.av r.g.V.length r.g.cv, .slice r.l.ax r.l.X.length r.l.cx, .slice r.l.ay r.l.Y.length r.l.cy, .slice r.l.av r.l.V.length r.l.cv, .slice r.p.ax r.p.X.length r.p.cx, .slice r.p.ay r.p.Y.length r.p.cy, .slice r.p.av r.p.V.length r.p.cv, .slice r.n.ax r.n.X.length r.n.cx, .slice r.n.ay r.n.Y.length r.n.cy, .slice r.n.av r.n.V.length r.n.cv, .slice r.a.ax r.a.X.length r.a.cx, .slice r.a.ay r.a.Y.length r.a.cy, .slice r.a.av r.a.V.length r.a.cv, .slice r.b.ax r.b.X.length r.b.cx, .slice r.b.ay r.b.Y.length r.b.cy, .slice r.b.av r.b.V.length r.b.cv, .slice r.d.ax r.d.X.length r.d.cx, .slice r.d.ay r.d.Y.length r.d.cy, .slice r.d.av r.d.V.length r.d.cv, .int .i64 r.cl, .int .i64 r.bu]] w fun e w' => e = .returned (.int .i64 0) ∧ Below w.heap.size w w' := by
  have H1 := Lib.hid (fun (W : World) (hW : Below w.heap.size w W) => holds_any' 0 100000 r.h W (rg.h.below hW))
  rw [e1] at H1
  have H2 := Lib.hid (fun (W : World) (hW : Below w.heap.size w W) => holds_any' 0 100 r.g W (rg.g.below hW))
  rw [e2] at H2
  have H3 := Lib.hid (fun (W : World) (hW : Below w.heap.size w W) => holds_any' 0 100000 r.l W (rg.l.below hW))
  rw [e3] at H3
  have H4 := Lib.hid (fun (W : World) (hW : Below w.heap.size w W) => holds_any' 0 100000 r.p W (rg.p.below hW))
  rw [e4] at H4
  have H5 := Lib.hid (fun (W : World) (hW : Below w.heap.size w W) => holds_any' 0 10000 r.n W (rg.n.below hW))
  rw [e5] at H5
  have H6 := Lib.hid (fun (W : World) (hW : Below w.heap.size w W) => holds_any' 0 10000 r.a W (rg.a.below hW))
  rw [e6] at H6
  have H7 := Lib.hid (fun (W : World) (hW : Below w.heap.size w W) => holds_any' 0 10000 r.b W (rg.b.below hW))
  rw [e7] at H7
  have H8 := Lib.hid (fun (W : World) (hW : Below w.heap.size w W) => ringed_any r.a r.b W (rg.a.below hW) (rg.b.below hW) (filB_ct e6) (filB_ct e7))
  rw [e8] at H8
  have H9 := Lib.hid (fun (W : World) (hW : Below w.heap.size w W) => holds_any' 1 10000 r.d W (rg.d.below hW))
  rw [e9] at H9
  have E10 := Lib.hid e10
  clear rg e1 e2 e3 e4 e5 e6 e7 e8 e9 e10
  go_enter Try.func16, Try.ntmps16
  go_wp2_with (first
    | (go_at_call_of 51 (Value.agg #[.slice r.h.ax r.h.X.length r.h.cx, .slice r.h.ay r.h.Y.length r.h.cy, .slice r.h.av r.h.V.length r.h.cv]); refine Calls.mono (H1.out _ (by go_grown)) ?_; rintro e w1 ⟨rfl, hb1⟩; have K1 := (BK.new (w := w) (cs := #[.slice r.h.ax r.h.X.length r.h.cx, .slice r.h.ay r.h.Y.length r.h.cy, .slice r.h.av r.h.V.length r.h.cv, .slice r.g.ax r.g.X.length r.g.cx, .slice r.g.ay r.g.Y.length r.g.cy, .slice r.g.av r.g.V.length r.g.cv, .slice r.l.ax r.l.X.length r.l.cx, .slice r.l.ay r.l.Y.length r.l.cy, .slice r.l.av r.l.V.length r.l.cv, .slice r.p.ax r.p.X.length r.p.cx, .slice r.p.ay r.p.Y.length r.p.cy, .slice r.p.av r.p.V.length r.p.cv, .slice r.n.ax r.n.X.length r.n.cx, .slice r.n.ay r.n.Y.length r.n.cy, .slice r.n.av r.n.V.length r.n.cv, .slice r.a.ax r.a.X.length r.a.cx, .slice r.a.ay r.a.Y.length r.a.cy, .slice r.a.av r.a.V.length r.a.cv, .slice r.b.ax r.b.X.length r.b.cx, .slice r.b.ay r.b.Y.length r.b.cy, .slice r.b.av r.b.V.length r.b.cv, .slice r.d.ax r.d.X.length r.d.cx, .slice r.d.ay r.d.Y.length r.d.cy, .slice r.d.av r.d.V.length r.d.cv, .int .i64 r.cl, .int .i64 r.bu]) (T := 27)).keep hb1; have c1 := K1.cell; have l1 := K1.lt; have HB1 := Lib.hid (Below.trans (show Below w.heap.size w _ by go_grown) (hb1.mono (by simp <;> omega))); clear hb1)
    | (go_at_call_of 51 (Value.agg #[.slice r.g.ax r.g.X.length r.g.cx, .slice r.g.ay r.g.Y.length r.g.cy, .slice r.g.av r.g.V.length r.g.cv]); refine Calls.mono (H2.out _ HB1.out) ?_; rintro e w2 ⟨rfl, hb2⟩; have K2 := K1.keep hb2; have c2 := K2.cell; have l2 := K2.lt; have HB2 := Lib.hid (HB1.out.trans (hb2.mono HB1.out.size)); clear hb2 c1 l1)
    | (go_at_call_of 51 (Value.agg #[.slice r.l.ax r.l.X.length r.l.cx, .slice r.l.ay r.l.Y.length r.l.cy, .slice r.l.av r.l.V.length r.l.cv]); refine Calls.mono (H3.out _ HB2.out) ?_; rintro e w3 ⟨rfl, hb3⟩; have K3 := K2.keep hb3; have c3 := K3.cell; have l3 := K3.lt; have HB3 := Lib.hid (HB2.out.trans (hb3.mono HB2.out.size)); clear hb3 c2 l2)
    | (go_at_call_of 51 (Value.agg #[.slice r.p.ax r.p.X.length r.p.cx, .slice r.p.ay r.p.Y.length r.p.cy, .slice r.p.av r.p.V.length r.p.cv]); refine Calls.mono (H4.out _ HB3.out) ?_; rintro e w4 ⟨rfl, hb4⟩; have K4 := K3.keep hb4; have c4 := K4.cell; have l4 := K4.lt; have HB4 := Lib.hid (HB3.out.trans (hb4.mono HB3.out.size)); clear hb4 c3 l3)
    | (go_at_call_of 51 (Value.agg #[.slice r.n.ax r.n.X.length r.n.cx, .slice r.n.ay r.n.Y.length r.n.cy, .slice r.n.av r.n.V.length r.n.cv]); refine Calls.mono (H5.out _ HB4.out) ?_; rintro e w5 ⟨rfl, hb5⟩; have K5 := K4.keep hb5; have c5 := K5.cell; have l5 := K5.lt; have HB5 := Lib.hid (HB4.out.trans (hb5.mono HB4.out.size)); clear hb5 c4 l4)
    | (go_at_call_of 51 (Value.agg #[.slice r.a.ax r.a.X.length r.a.cx, .slice r.a.ay r.a.Y.length r.a.cy, .slice r.a.av r.a.V.length r.a.cv]); refine Calls.mono (H6.out _ HB5.out) ?_; rintro e w6 ⟨rfl, hb6⟩; have K6 := K5.keep hb6; have c6 := K6.cell; have l6 := K6.lt; have HB6 := Lib.hid (HB5.out.trans (hb6.mono HB5.out.size)); clear hb6 c5 l5)
    | (go_at_call_of 51 (Value.agg #[.slice r.b.ax r.b.X.length r.b.cx, .slice r.b.ay r.b.Y.length r.b.cy, .slice r.b.av r.b.V.length r.b.cv]); refine Calls.mono (H7.out _ HB6.out) ?_; rintro e w7 ⟨rfl, hb7⟩; have K7 := K6.keep hb7; have c7 := K7.cell; have l7 := K7.lt; have HB7 := Lib.hid (HB6.out.trans (hb7.mono HB6.out.size)); clear hb7 c6 l6)
    | (go_at_call 52; refine Calls.mono (H8.out _ HB7.out) ?_; rintro e w8 ⟨rfl, hb8⟩; have K8 := K7.keep hb8; have c8 := K8.cell; have l8 := K8.lt; have HB8 := Lib.hid (HB7.out.trans (hb8.mono HB7.out.size)); clear hb8 c7 l7)
    | (go_at_call_of 51 (Value.agg #[.slice r.d.ax r.d.X.length r.d.cx, .slice r.d.ay r.d.Y.length r.d.cy, .slice r.d.av r.d.V.length r.d.cv]); refine Calls.mono (H9.out _ HB8.out) ?_; rintro e w9 ⟨rfl, hb9⟩; have K9 := K8.keep hb9; have c9 := K9.cell; have l9 := K9.lt; have HB9 := Lib.hid (HB8.out.trans (hb9.mono HB8.out.size)); clear hb9 c8 l8)
    | (go_at_call 53; refine (within_any 1 1000 _ 2 _ _ [r.cl, r.bu] _ rfl (le_maxLen (by omega)) (RI.new2 (by simp))).mono ?_; rintro e w10 ⟨rfl, rfl⟩; rw [E10.out]))
  go_ret
  exact ⟨rfl, HB9.out.alloc HB9.out.size _⟩
theorem rotcheck_any (r : RO) (w : World) (rg : RG w r) : Calls Try.prog 16 #[.agg #[.slice r.h.ax r.h.X.length r.h.cx, .slice r.h.ay r.h.Y.length r.h.cy, .slice r.h.av r.h.V.length r.h.cv, .slice r.g.ax r.g.X.length r.g.cx, .slice r.g.ay r.g.Y.length r.g.cy, .slice r.g.av r.g.V.length r.g.cv, .slice r.l.ax r.l.X.length r.l.cx, .slice r.l.ay r.l.Y.length r.l.cy, .slice r.l.av r.l.V.length r.l.cv, .slice r.p.ax r.p.X.length r.p.cx, .slice r.p.ay r.p.Y.length r.p.cy, .slice r.p.av r.p.V.length r.p.cv, .slice r.n.ax r.n.X.length r.n.cx, .slice r.n.ay r.n.Y.length r.n.cy, .slice r.n.av r.n.V.length r.n.cv, .slice r.a.ax r.a.X.length r.a.cx, .slice r.a.ay r.a.Y.length r.a.cy, .slice r.a.av r.a.V.length r.a.cv, .slice r.b.ax r.b.X.length r.b.cx, .slice r.b.ay r.b.Y.length r.b.cy, .slice r.b.av r.b.V.length r.b.cv, .slice r.d.ax r.d.X.length r.d.cx, .slice r.d.ay r.d.Y.length r.d.cy, .slice r.d.av r.d.V.length r.d.cv, .int .i64 r.cl, .int .i64 r.bu]] w fun e w' => e = .returned (.int .i64 r.err) ∧ Below w.heap.size w w' := by
  unfold RO.err RO.ok
  cases e1 : filB 0 100000 r.h with
  | false => simpa using check_f1 r w rg e1
  | true =>
  cases e2 : filB 0 100 r.g with
  | false => simpa using check_f2 r w rg e1 e2
  | true =>
  cases e3 : filB 0 100000 r.l with
  | false => simpa using check_f3 r w rg e1 e2 e3
  | true =>
  cases e4 : filB 0 100000 r.p with
  | false => simpa using check_f4 r w rg e1 e2 e3 e4
  | true =>
  cases e5 : filB 0 10000 r.n with
  | false => simpa using check_f5 r w rg e1 e2 e3 e4 e5
  | true =>
  cases e6 : filB 0 10000 r.a with
  | false => simpa using check_f6 r w rg e1 e2 e3 e4 e5 e6
  | true =>
  cases e7 : filB 0 10000 r.b with
  | false => simpa using check_f7 r w rg e1 e2 e3 e4 e5 e6 e7
  | true =>
  cases e8 : rinB r.a r.b with
  | false => simpa using check_f8 r w rg e1 e2 e3 e4 e5 e6 e7 e8
  | true =>
  cases e9 : filB 1 10000 r.d with
  | false => simpa using check_f9 r w rg e1 e2 e3 e4 e5 e6 e7 e8 e9
  | true =>
  cases e10 : wB 1 1000 [r.cl, r.bu] with
  | false => simpa using check_f10 r w rg e1 e2 e3 e4 e5 e6 e7 e8 e9 e10
  | true =>
  simpa using check_ok r w rg e1 e2 e3 e4 e5 e6 e7 e8 e9 e10
end Go.Proofs.Ythhokiigdgpmcaa

/- CheckHoist of both sides, winds. -/
namespace Go.Proofs.Ythhokiigdgpmcaa
open Go.RowKit

theorem wB_one (lo hi x : Int) : wB lo hi [x] = decide (lo ≤ x ∧ x ≤ hi) := by
  unfold wB
  simp
theorem hoE_no {X Y : List Int} {V : List (List Int)} {cable charge : Int} (h : hoB X Y V cable charge = false) : hoE X Y V cable charge = 71 := by unfold hoE; rw [h]; rfl
theorem hoE_yes {X Y : List Int} {V : List (List Int)} {cable charge : Int} (h : hoB X Y V cable charge = true) : hoE X Y V cable charge = 0 := by unfold hoE; rw [h]; rfl

/-- A table whose cells lie below B. -/
structure HT (w : World) (B : Nat) (AX AY AV : Option Addr) (nx ny nv : Nat) (X Y : List Int) (V : List (List Int)) : Prop where
  hx : X.length = nx
  hy : Y.length = ny
  hv : V.length = nv
  mx : nx ≤ maxLen
  my : ny ≤ maxLen
  mv : nv ≤ maxLen
  mr : ∀ r ∈ V, r.length ≤ maxLen
  tb : TB w B AX AY AV X Y V
  hB : B ≤ w.heap.size
theorem HT.below {w W : World} {B : Nat} {AX AY AV : Option Addr} {nx ny nv : Nat} {X Y : List Int} {V : List (List Int)} (h : HT w B AX AY AV nx ny nv X Y V) (hW : Below w.heap.size w W) : HT W B AX AY AV nx ny nv X Y V :=
  ⟨h.hx, h.hy, h.hv, h.mx, h.my, h.mv, h.mr, h.tb.below (hW.mono h.hB), by have := hW.size; have := h.hB; omega⟩

theorem keepA {W w1 : World} {x : Obj} (hb : Below (W.alloc x).heap.size (W.alloc x) w1) {b o : Nat} {v : Value} (h : W.cell? ⟨b, o, none⟩ = some v) : w1.cell? ⟨b, o, none⟩ = some v :=
  cell_keep hb (cell_keep ((Below.refl _ _).alloc (Nat.le_refl _) _) h)
/-- A hoist in a box. -/
structure HB (W : World) (g : Nat) (cable : Int) (AX : Option Addr) (nx cx : Nat) (AY : Option Addr) (ny cy : Nat) (AV : Option Addr) (nv cv : Nat) (charge : Int) : Prop where
  h0 : W.cell? ⟨g, 0, none⟩ = some (.int .i64 cable)
  h1 : W.cell? ⟨g, 1, none⟩ = some (.slice AX nx cx)
  h2 : W.cell? ⟨g, 2, none⟩ = some (.slice AY ny cy)
  h3 : W.cell? ⟨g, 3, none⟩ = some (.slice AV nv cv)
  h4 : W.cell? ⟨g, 4, none⟩ = some (.int .i64 charge)
section
variable {W W' : World} {g : Nat} {cable charge : Int} {AX AY AV : Option Addr} {nx cx ny cy nv cv : Nat}
theorem HB.keep (h : HB W g cable AX nx cx AY ny cy AV nv cv charge) (hb : Below W.heap.size W W') : HB W' g cable AX nx cx AY ny cy AV nv cv charge :=
  ⟨cell_keep hb h.h0, cell_keep hb h.h1, cell_keep hb h.h2, cell_keep hb h.h3, cell_keep hb h.h4⟩
theorem HB.keepA {x : Obj} (h : HB W g cable AX nx cx AY ny cy AV nv cv charge) (hb : Below (W.alloc x).heap.size (W.alloc x) W') : HB W' g cable AX nx cx AY ny cy AV nv cv charge :=
  (h.keep ((Below.refl _ _).alloc (Nat.le_refl _) _)).keep hb
theorem HB.new (w : World) (T : TypeId) : HB (w.alloc (.cells #[.int .i64 cable, .slice AX nx cx, .slice AY ny cy, .slice AV nv cv, .int .i64 charge] T)) w.heap.size cable AX nx cx AY ny cy AV nv cv charge :=
  ⟨by rw [cell_newest]; rfl, by rw [cell_newest]; rfl, by rw [cell_newest]; rfl, by rw [cell_newest]; rfl, by rw [cell_newest]; rfl⟩
theorem HB.lt (h : HB W g cable AX nx cx AY ny cy AV nv cv charge) : g < W.heap.size := World.block_lt_of_cell? W _ h.h0
end

/-- checkWinch. -/
theorem hwE_no {X Y : List Int} {V : List (List Int)} {cable charge y1 y2 : Int} (h : hoB X Y V cable charge = false) : hwE X Y V cable charge y1 y2 = 71 := by unfold hwE; rw [h]; rfl
theorem hwE_v {X Y : List Int} {V : List (List Int)} {cable charge y1 y2 : Int} (h : hoB X Y V cable charge = true) : hwE X Y V cable charge y1 y2 = if vS (y1, y2) then 0 else 10 := by unfold hwE; rw [h]; rfl
/-- CheckWinds. -/
theorem cwE_no {X Y : List Int} {V : List (List Int)} {cable charge y1 y2 : Int} (h : hoB X Y V cable charge = false) : cwE X Y V cable charge y1 y2 = 71 := by unfold cwE; rw [h]; rfl
theorem cwE_v {X Y : List Int} {V : List (List Int)} {cable charge y1 y2 : Int} (h : hoB X Y V cable charge = true) : cwE X Y V cable charge y1 y2 = if vS (y1, y2) then (if btB Y y1 y2 then 0 else 1) else 10 := by unfold cwE; rw [h]; rfl
end Go.Proofs.Ythhokiigdgpmcaa

/- A drawn region that makes one box and fills it: wherever the making and the filling come. -/
namespace Go.Proofs.Ythhokiigdgpmcaa
open Go.RowKit

def RB (Q : Nat → Value → World → Prop) (E : Nat → Value → World → Prop) (W0 : World) (st al : Nat) (cs0 cs1 : Array Value) (T : TypeId) (val : Nat → Value) (L : Array Bool) (W : World) : Prop :=
  Below W0.heap.size W0 W ∧ (∀ j, L.getD j false = true → Q j (val j) W) ∧ (L.getD st false = false → ∀ j, L.getD j false = true → E j (val j) W) ∧
  (L.getD al false = true → ∃ q, val al = .pointer (some ⟨q, 0, none⟩) ∧ W0.heap.size ≤ q ∧ W.heap[q]? = some (.cells (if L.getD st false then cs1 else cs0) T (0, 0)))
/-- Properties that do not hang on the world. -/
def Still (Q : Nat → Value → World → Prop) : Prop := ∀ j v W W', Q j v W → Q j v W'
section
variable {Q E : Nat → Value → World → Prop} {W0 W W' : World} {st al i q : Nat} {cs0 cs1 : Array Value} {T : TypeId} {v : Value} {val : Nat → Value} {L : Array Bool}
theorem RB.start (Q E : Nat → Value → World → Prop) (W0 : World) (st al : Nat) (cs0 cs1 : Array Value) (T : TypeId) (n : Nat) : RB Q E W0 st al cs0 cs1 T (fun _ => undef) (Array.replicate n false) W0.drew :=
  ⟨(Below.refl _ _).drew, fun j h => (by rw [getD_replicate_no] at h; cases h), fun _ j h => (by rw [getD_replicate_no] at h; cases h), fun h => (by rw [getD_replicate_no] at h; cases h)⟩
theorem RB.step (h : RB Q E W0 st al cs0 cs1 T val L W) (hQ : Still Q) (hE : Stays E) (hb : Below W.heap.size W W') (hq : Q i v W') (he : L.getD st false = false → E i v W') (h1 : i ≠ st) (h2 : i ≠ al) :
    RB Q E W0 st al cs0 cs1 T (upd val i v) (L.setIfInBounds i true) W' := by
  refine ⟨h.1.trans (hb.mono h.1.size), fun j hj => ?_, fun hs j hj => ?_, fun ha => ?_⟩
  · by_cases e : j = i
    · subst e; rw [upd_same]; exact hq
    · rw [upd_other e]
      rw [getD_set_other (fun h => e h.symm)] at hj
      exact hQ _ _ _ _ (h.2.1 j hj)
  · rw [getD_set_other h1] at hs
    by_cases e : j = i
    · subst e; rw [upd_same]; exact he hs
    · rw [upd_other e]
      rw [getD_set_other (fun h => e h.symm)] at hj
      exact hE _ _ _ _ (h.2.2.1 hs j hj) hb
  · rw [getD_set_other h2] at ha
    obtain ⟨q, e1, e2, e3⟩ := h.2.2.2 ha
    exact ⟨q, by rw [upd_other (fun e => h2 e.symm)]; exact e1, e2, by rw [getD_set_other h1]; exact (hb.block q (lt_of_block e3)).trans e3⟩
theorem RB.made (h : RB Q E W0 st al cs0 cs1 T val L W) (hQ : Still Q) (hE : Stays E) (hN : L.getD st false = false) (hne : al ≠ st) (hq : Q al (.pointer (some ⟨W.heap.size, 0, none⟩)) (W.alloc (.cells cs0 T))) (he : E al (.pointer (some ⟨W.heap.size, 0, none⟩)) (W.alloc (.cells cs0 T))) :
    RB Q E W0 st al cs0 cs1 T (upd val al (.pointer (some ⟨W.heap.size, 0, none⟩))) (L.setIfInBounds al true) (W.alloc (.cells cs0 T)) := by
  have hb : Below W.heap.size W (W.alloc (.cells cs0 T)) := (Below.refl _ _).alloc (Nat.le_refl _) _
  refine ⟨h.1.trans (hb.mono h.1.size), fun j hj => ?_, fun _ j hj => ?_, fun _ => ⟨_, upd_same _ _ _, h.1.size, ?_⟩⟩
  · by_cases e : j = al
    · subst e; rw [upd_same]; exact hq
    · rw [upd_other e]
      rw [getD_set_other (fun h => e h.symm)] at hj
      exact hQ _ _ _ _ (h.2.1 j hj)
  · by_cases e : j = al
    · subst e; rw [upd_same]; exact he
    · rw [upd_other e]
      rw [getD_set_other (fun h => e h.symm)] at hj
      exact hE _ _ _ _ (h.2.2.1 hN j hj) hb
  · rw [getD_set_other hne, hN]
    show (W.heap.push _)[W.heap.size]? = _
    simp
theorem RB.filled (h : RB Q E W0 st al cs0 cs1 T val L W) (hQ : Still Q) (hs : st < L.size) (hq : Q st v W') (ha : val al = .pointer (some ⟨q, 0, none⟩)) (hM : W0.heap.size ≤ q) (hb : Below W0.heap.size W0 W') (hblk : W'.heap[q]? = some (.cells cs1 T (0, 0))) (hne : al ≠ st) :
    RB Q E W0 st al cs0 cs1 T (upd val st v) (L.setIfInBounds st true) W' := by
  refine ⟨hb, fun j hj => ?_, fun h2 => (by rw [getD_set_eq hs] at h2; cases h2), fun _ => ⟨q, by rw [upd_other hne]; exact ha, hM, by rw [getD_set_eq hs]; exact hblk⟩⟩
  by_cases e : j = st
  · subst e; rw [upd_same]; exact hq
  · rw [upd_other e]
    rw [getD_set_other (fun h => e h.symm)] at hj
    exact hQ _ _ _ _ (h.2.1 j hj)
end
theorem QG.still {vals : List (Option Value)} : Still (QG vals fun _ _ _ => True) := fun j v W W' hq => by
  unfold QG at hq ⊢
  exact hq
section
variable {Q E : Nat → Value → World → Prop} {vals : List (Option Value)} {ex : Nat → Value → World → Prop} {W0 W : World} {st al : Nat} {cs0 cs1 : Array Value} {T : TypeId} {val : Nat → Value} {L : Array Bool}
theorem RB.go (h : RB Q E W0 st al cs0 cs1 T val L W) (hQ : Still Q) (hE : Stays E) (HQ : Hid (Q = QG vals ex)) (i : Nat) {x : Value} (hx : vals[i]? = some (some x)) (he : ∀ v W, E i v W) (h1 : i ≠ st) (h2 : i ≠ al) : ∀ v W', Below W.heap.size W W' → v = x → RB Q E W0 st al cs0 cs1 T (upd val i v) (L.setIfInBounds i true) W' :=
  fun v W' hb e => h.step hQ hE hb (QG.put HQ hx e) (fun _ => he v W') h1 h2
theorem RB.goT (h : RB Q E W0 st al cs0 cs1 T val L W) (hQ : Still Q) (hE : Stays E) {i : Nat} (hn : ∀ v W, Q i v W) (he : ∀ v W, E i v W) (h1 : i ≠ st) (h2 : i ≠ al) : ∀ v W', Below W.heap.size W W' → True → RB Q E W0 st al cs0 cs1 T (upd val i v) (L.setIfInBounds i true) W' :=
  fun v W' hb _ => h.step hQ hE hb (hn v W') (fun _ => he v W') h1 h2
end
end Go.Proofs.Ythhokiigdgpmcaa

/- The winch: blows, carries; bears. -/
namespace Go.Proofs.Ythhokiigdgpmcaa
open Go.RowKit

/-- How a hoist stands. -/
structure HG where
  len : Int
  wt : Int
  since : Int
  cyc : Int
  cut : Bool
  touched : Bool
section
variable {W W' : World} {g : Nat} {cable charge y1 y2 : Int} {AX AY AV : Option Addr} {nx cx ny cy nv cv : Nat} {s : HG}
end

end Go.Proofs.Ythhokiigdgpmcaa

/- loaded; Carries of both sides. -/
namespace Go.Proofs.Ythhokiigdgpmcaa
open Go.RowKit

theorem osB_btB {Y : List Int} {a b : Int} (h : vS (a, b) = true) : osB Y (a, b) = btB Y a b := by
  rw [btB_onB (by rw [← vS_vI]; exact h)]
  rfl
theorem hwE_get {X Y : List Int} {V : List (List Int)} {cable charge y1 y2 : Int} (h : hwE X Y V cable charge y1 y2 = 0) : hoB X Y V cable charge = true ∧ vS (y1, y2) = true := by
  unfold hwE at h
  split at h
  · rename_i h1
    split at h
    · rename_i h2
      exact ⟨h1, h2⟩
    · omega
  · omega
theorem cwE_hw {X Y : List Int} {V : List (List Int)} {cable charge y1 y2 : Int} (h : hwE X Y V cable charge y1 y2 ≠ 0) : cwE X Y V cable charge y1 y2 = hwE X Y V cable charge y1 y2 := by
  unfold hwE at h ⊢
  unfold cwE
  cases h1 : hoB X Y V cable charge with
  | false => rfl
  | true =>
    rw [h1] at h
    cases h2 : vS (y1, y2) with
    | false => rfl
    | true => rw [h2] at h; simp at h
theorem cwE_ok {X Y : List Int} {V : List (List Int)} {cable charge y1 y2 : Int} (h : hwE X Y V cable charge y1 y2 = 0) : cwE X Y V cable charge y1 y2 = if osB Y (y1, y2) then 0 else 1 := by
  obtain ⟨h1, h2⟩ := hwE_get h
  unfold cwE
  rw [h1, h2, osB_btB h2]
  rfl

def zeroH : HG := ⟨0, 0, 0, 0, false, false⟩

section
variable (cable charge y1 y2 len wt : Int) (AX AY AV : Option Addr) (nx cx ny cy nv cv B : Nat) (X Y : List Int) (V : List (List Int)) (w : World)

/-- What loaded says of its numbers. -/
def ldB (Y : List Int) (cable y1 y2 len wt : Int) : Bool := osB Y (y1, y2) && (decide (0 ≤ len ∧ len ≤ cable) && decide (1 ≤ wt ∧ wt ≤ 100000))
theorem ny_of (h : HT w B AX AY AV nx ny nv X Y V) (h0 : hwE X Y V cable charge y1 y2 = 0) : 1 ≤ ny ∧ ny ≤ 1000000 := by
  obtain ⟨_, hct, _⟩ := hoB_get (hwE_get h0).1
  obtain ⟨_, _, a, b⟩ := ctB_len hct
  have := h.hy
  omega

end
end Go.Proofs.Ythhokiigdgpmcaa

/- whole.First, whole.Last, with any closure. -/
namespace Go.Proofs.Ythhokiigdgpmcaa
open Go.RowKit

/-- The function K, with what its closure keeps, answers p from lo to hi, in every world from w on. -/
def Answers (K : FuncId) (caps : Array Value) (lo hi : Int) (p : Int → Bool) (w : World) : Prop :=
  (∀ args W, Sem.run Try.prog (callFunc K args) W = Result.ok (Next.enter K args) W) ∧
  ∀ W n, Below w.heap.size w W → lo ≤ n → n ≤ hi → Calls Try.prog K (#[.int .i64 n] ++ caps) W fun e w' => e = .returned (.bool (p n)) ∧ Below W.heap.size W w'
theorem Answers.later {K : FuncId} {caps : Array Value} {lo hi : Int} {p : Int → Bool} {w w' : World} (h : Answers K caps lo hi p w) (hb : Below w.heap.size w w') : Answers K caps lo hi p w' :=
  ⟨h.1, fun W n hW => h.2 W n (hb.trans (hW.mono hb.size))⟩

set_option maxRecDepth 100000 in
theorem first_any (K : FuncId) (caps : Array Value) (lo hi : Int) (p : Int → Bool) (w : World) (h1 : -1000000000 ≤ lo) (h2 : hi ≤ 1000000000) (h3 : lo ≤ hi + 1) (mono : ∀ i j, lo ≤ i → i ≤ j → j ≤ hi → p i = true → p j = true)
    (HA : Answers K caps lo hi p w) :
    Calls Try.prog 115 #[.int .i64 lo, .int .i64 hi, .func (.func K) #[] caps] w fun e w' => e = .returned (.tuple #[.int .i64 (firB p lo (hi + 1 - lo).toNat), .bool (decide (firB p lo (hi + 1 - lo).toNat ≤ hi))]) ∧ Below w.heap.size w w' := by
  obtain ⟨eg, HI⟩ := HA
  obtain ⟨r, hr⟩ : ∃ r, firB p lo (hi + 1 - lo).toNat = r := ⟨_, rfl⟩
  rw [hr]
  have HR := Lib.hid hr
  clear hr
  have HC := Lib.hid HI
  have HM := Lib.hid mono
  clear HI mono
  go_enter Try.func115, Try.ntmps115
  go_wp2
  go_loopw [0, 1] (fun l h wr => ∃ a b : Int, l = .int .i64 a ∧ h = .int .i64 b ∧ lo ≤ a ∧ a ≤ b + 1 ∧ b ≤ hi ∧ (∀ j, lo ≤ j → j < a → p j = false) ∧ (b < hi → p (b + 1) = true) ∧ Below w.heap.size w wr) (fun l h _ => (intOf h + 1 - intOf l).toNat)
  case atStart => exact ⟨lo, hi, rfl, rfl, Int.le_refl _, h3, Int.le_refl _, fun j a b => by omega, fun a => by omega, Below.refl _ _⟩
  case round =>
    obtain ⟨a, b, rfl, rfl, ha, hab, hb, hf, ht, hbw⟩ := hrel
    have HF := Lib.hid hf
    have HT := Lib.hid ht
    have HBW := Lib.hid hbw
    clear hf ht hbw
    by_cases hlt : a ≤ b
    · obtain ⟨m, hm⟩ : ∃ m, a + (b - a) / 2 = m := ⟨_, rfl⟩
      have m1 : a ≤ m ∧ m ≤ b := by omega
      have HCm := Lib.hid (HC.out wr m HBW.out (by omega) (by omega))
      have hp0 : ∃ v, p m = v := ⟨_, rfl⟩
      obtain ⟨v, hp⟩ := hp0
      rw [hp] at HCm
      have HP := Lib.hid hp
      clear hp
      cases v with
      | true =>
        go_wp2_with (refine Calls.mono HCm.out ?_; rintro e w1 ⟨rfl, hb1⟩; have HB1 := Lib.hid (HBW.out.trans (hb1.mono HBW.out.size)); clear hb1)
        go_roundw
        case rel => exact ⟨a, m - 1, rfl, rfl, ha, by omega, by omega, HF.out, fun _ => by rw [show m - 1 + 1 = m by omega]; exact HP.out, HB1.out⟩
        case measure => simp [intOf]; omega
      | false =>
        go_wp2_with (refine Calls.mono HCm.out ?_; rintro e w1 ⟨rfl, hb1⟩; have HB1 := Lib.hid (HBW.out.trans (hb1.mono HBW.out.size)); clear hb1)
        go_roundw
        case rel => exact ⟨m + 1, b, rfl, rfl, by omega, by omega, hb, fun j j1 j2 => by
          by_cases hjm : j ≤ m
          · cases hj : p j with
            | false => rfl
            | true =>
              have := HM.out j m j1 hjm (by omega) hj
              rw [HP.out] at this
              cases this
          · omega, HT.out, HB1.out⟩
        case measure => simp [intOf]; omega
    · obtain rfl : b = a - 1 := by omega
      obtain rfl : r = a := by
        rw [← HR.out]
        exact firB_uniq ha (by omega) HF.out (fun h => by have := HT.out (by omega); rwa [show a - 1 + 1 = a by omega] at this)
      go_wp2
      go_ret2
      exact ⟨rfl, HBW.out⟩

/-- Last's closure. -/
theorem last1_answers (K : FuncId) (caps : Array Value) (lo hi : Int) (p : Int → Bool) (w : World) (g : Nat) (HA : Answers K caps lo hi p w) (hc : w.cell? ⟨g, 0, none⟩ = some (.func (.func K) #[] caps)) :
    Answers 116 #[.pointer (some ⟨g, 0, none⟩)] lo hi (fun n => !p n) w := by
  obtain ⟨eg, HI⟩ := HA
  refine ⟨Try.call116, fun W n hW n1 n2 => ?_⟩
  have HC := Lib.hid (HI W n hW n1 n2)
  have hcW := cell_keep hW hc
  clear HI hW hc
  show Calls Try.prog 116 #[.int .i64 n, .pointer (some ⟨g, 0, none⟩)] W fun e w' => e = .returned (.bool (!p n)) ∧ Below W.heap.size W w'
  generalize p n = v at *
  go_enter Try.func116, Try.ntmps116
  go_wp2_with (refine Calls.mono HC.out ?_; rintro e w1 ⟨rfl, hb1⟩; have HB1 := Lib.hid hb1; clear hb1)
  go_ret
  exact ⟨rfl, HB1.out⟩

/-- Last: the number, and whether there is one. -/
def lastN (p : Int → Bool) (lo hi : Int) : Int × Bool := (firB (fun n => !p n) lo (hi + 1 - lo).toNat - 1, decide (lo < firB (fun n => !p n) lo (hi + 1 - lo).toNat))
set_option maxRecDepth 100000 in
theorem last_any (K : FuncId) (caps : Array Value) (lo hi : Int) (p : Int → Bool) (w : World) (h1 : -1000000000 ≤ lo) (h2 : hi ≤ 1000000000) (h3 : lo ≤ hi) (mono : ∀ i j, lo ≤ i → i ≤ j → j ≤ hi → p j = true → p i = true)
    (HA : Answers K caps lo hi p w) :
    Calls Try.prog 78 #[.int .i64 lo, .int .i64 hi, .func (.func K) #[] caps] w fun e w' => e = .returned (.tuple #[.int .i64 (lastN p lo hi).1, .bool (lastN p lo hi).2]) ∧ Below w.heap.size w w' := by
  have hbd := firB_spec (fun n => !p n) (hi + 1 - lo).toNat lo
  have b1 := hbd.1
  have b2 := hbd.2.1
  have HF := Lib.hid (fun (W : World) (hW : Below w.heap.size w W) (g : Nat) (hc : W.cell? ⟨g, 0, none⟩ = some (.func (.func K) #[] caps)) => first_any 116 #[.pointer (some ⟨g, 0, none⟩)] lo hi (fun n => !p n) W h1 h2 (by omega) (fun i j a b c d => by
    cases hj : p j with
    | false => rfl
    | true =>
      have := mono i j a b c hj
      rw [this] at d
      cases d) (last1_answers K caps lo hi p W g (HA.later hW) hc))
  unfold lastN
  clear HA mono hbd
  generalize firB (fun n => !p n) lo (hi + 1 - lo).toNat = r at *
  by_cases hr : r ≤ hi
  · have hd : decide (r ≤ hi) = true := decide_eq_true hr
    rw [hd] at HF
    clear hd
    go_enter Try.func78, Try.ntmps78
    go_wp2_with (go_at_call 115; refine Calls.mono (HF.out _ (by go_grown) _ (by rw [cell_newest]; rfl)) ?_; rintro e w1 ⟨rfl, hb1⟩; have HB1 := Lib.hid (Below.trans (show Below w.heap.size w _ by go_grown) (hb1.mono (by simp <;> omega))); clear hb1)
    go_ret2
    exact ⟨rfl, HB1.out⟩
  · have hd : decide (r ≤ hi) = false := decide_eq_false hr
    rw [hd] at HF
    obtain rfl : hi = r - 1 := by omega
    clear hd
    go_enter Try.func78, Try.ntmps78
    go_wp2_with (go_at_call 115; refine Calls.mono (HF.out _ (by go_grown) _ (by rw [cell_newest]; rfl)) ?_; rintro e w1 ⟨rfl, hb1⟩; have HB1 := Lib.hid (Below.trans (show Below w.heap.size w _ by go_grown) (hb1.mono (by simp <;> omega))); clear hb1)
    go_ret2
    exact ⟨by rw [show decide (lo < r) = true by simp; omega]; rfl, HB1.out⟩
end Go.Proofs.Ythhokiigdgpmcaa

/- A law's last step; arguments opened; and read again. -/
import Derived.Test.YtliocbjmledfbaaBase
import Derived.ChangeSame
import Derived.Below
import Derived.JoinedOf
import Derived.JoinedAt
import Derived.RowKit3
import Derived.Lib.SmallJoins
import Derived.ProofKit
import Derived.OpenShut
import Derived.Deep.SlicePairs
import Derived.Deep.Matrix
import Derived.Carry
import Derived.WideShapes
namespace Go.Proofs.Ytliocbjmledfbaa
open Go.RowKit Go.WideShapes Go.ChangeShapes Go.ChangeAt Go.Joins Go.Deep

theorem own : ownKnob Try.prog.godebug = none := by kernel_rfl

section
variable {H : Type} {enc : TypeId × Value → H} {P : Program}
/-- A law without variables: it answers the bool v, its arguments read as they did, and nothing that was there has changed. -/
theorem law_post {f : Func} {s : ChangeSpec} {apart fresh handsOn again : Bool} {W W' : World} {args : Array Value} {v : Bool} {tb : TypeId} {ds : List (DataW H)} {before : List MemPlace}
    (hW : DataW.Whole enc P f.params.toList s.vars apart W args.toList ds [] before) (hr : f.resultTypes = #[tb]) (ht : P.underlying tb = some .bool) (hv : s.vars = []) (hs : s.fn H (ds ++ []) = { results := [.lit (.bool v)], args := ds })
    (hargs : ∀ sp : Nat → Bool, (∀ p ∈ before, sp p.block = true) → DataW.TrodAll enc P W' 0 sp true f.params.toList args.toList ds before) (hb : Below W.heap.size W W') :
    s.post enc P f apart fresh handsOn again W args (.bool v) W' := by
  have hlt : ∀ p ∈ before, p.block < W.heap.size := fun p hp => hW.lt p hp
  have hres : ∀ (b : Nat) (sp : Nat → Bool) (hd : Bool), DataW.TrodAll enc P W' b sp hd f.resultTypes.toList ((Value.bool v).resultList f.resultTypes.size) (s.fn H (ds ++ [])).results [] := fun b sp hd => by
    rw [hr, hs]
    exact trodAll_mk1 (shut_bool ht v)
  have hvars : ∀ sp : Nat → Bool, DataW.TrodVars enc P W' sp s.vars (s.fn H (ds ++ [])).vars [] := fun sp => by
    rw [hs, hv]
    rfl
  have hargs' : ∀ sp : Nat → Bool, (∀ p ∈ before, sp p.block = true) → DataW.TrodAll enc P W' 0 sp true f.params.toList args.toList (s.fn H (ds ++ [])).args before := fun sp h => by
    rw [hs]
    exact hargs sp h
  refine ⟨ds, [], before, [], before, [], hW, hres _ _ _, hargs' _ (fun p hp => decide_eq_true (hlt p hp)), hvars _, World.keptBut_mono (fun p hp => ⟨hp, ?_⟩) (hb.frame (· ∈ before)), fun _ => ?_⟩
  · exact Or.inr (by simpa using hp)
  · obtain ⟨_, _, _, _, _, hz, hn⟩ := hW
    refine ⟨?_, _, _, ([] ++ before) ++ [], ⟨[] ++ before, [], trodAll_append (hargs' _ (fun _ _ => rfl)) (hres _ _ _), hvars _, rfl, ?_, ?_⟩, ?_⟩
    · exact ok_one hr rfl (okWide_bool_mk ht v)
    · intro b off hp
      have hin : MemPlace.cell b off ∈ before := by simpa using hp
      rw [hb.frozen (hlt _ hin)]
      exact hz b off hin
    · intro ha
      simpa using hn ha
    · intro p hp _
      simpa using hp
end

section
variable {H : Type} {enc : TypeId × Value → H}

theorem cell_plain {w : World} {a : Addr} {v : Value} {i : Nat} (h : w.cell? (a.add i) = some v) (h0 : ∃ u, w.cell? (a.add 0) = some u) : ∃ b off, a = ⟨b, off, none⟩ := by
  obtain ⟨b, off, spot⟩ := a
  obtain ⟨u, hu⟩ := h0
  have hspot : spot = none := by simpa [Addr.add] using World.cell?_spot hu
  subst hspot
  exact ⟨b, off, rfl⟩

theorem RI.of_cells {w : World} {a : Addr} {zs : List Int} {n : Nat} (h : ∀ i, i < n → w.cell? (a.add i) = some (.int .i64 (zs.getD i 0))) (hl : n ≤ zs.length) : RI w w.heap.size (some a) (zs.take n) := by
  intro hp
  have hn : 0 < n := by simp at hp; omega
  obtain ⟨b, off, rfl⟩ := cell_plain (h 0 hn) ⟨_, h 0 hn⟩
  have hb := World.block_lt_of_cell? w _ (h 0 hn)
  simp only [add_plain] at hb
  refine ⟨b, off, rfl, hb, fun j u hu => ?_⟩
  simp only [List.getElem?_map, Option.map_eq_some_iff] at hu
  obtain ⟨x, hx, rfl⟩ := hu
  obtain ⟨hj, e⟩ := List.getElem?_eq_some_iff.1 hx
  have hj' : j < n := by simp at hj; omega
  have := h j hj'
  rw [add_plain] at this
  rw [this]
  simp at e
  simp [List.getElem?_eq_getElem (show j < zs.length by omega), e]

/-- A cell that reads as a slice of integers. -/
theorem ints_of {w : World} {base : Nat} {spare : Nat → Bool} {held : Bool} {fuel : Nat} {cs : List Value} {x : DataW H × List MemPlace} (h : DataW.trod enc Try.prog w base spare held fuel 22 cs = some x) :
    ∃ A n c xs, cs = [.slice A n c] ∧ xs.length = n ∧ (n ≤ maxLen ∧ n ≤ c) ∧ RI w w.heap.size A xs := by
  rcases open_ints Try.underlying22 Try.underlying3 (by kernel_rfl) h with ⟨rfl, _⟩ | ⟨a, len, cap, zs, rfl, _, hl, hm, hz, _, hcell, _⟩
  · exact ⟨none, 0, 0, [], rfl, rfl, ⟨by unfold maxLen; omega, Nat.le_refl _⟩, RV.nil⟩
  · have hlz : len ≤ zs.length := by rw [hz]; split <;> omega
    exact ⟨some a, len, cap, zs.take len, rfl, by simp; omega, ⟨by omega, hl⟩, RI.of_cells (fun i hi => hcell i (by omega)) hlz⟩

/-- A cell that reads as a slice of slices of integers. -/
theorem rows_of {w : World} {base : Nat} {held : Bool} {fuel : Nat} {cs : List Value} {x : DataW H × List MemPlace} (h : DataW.trod enc Try.prog w base (fun _ => true) held fuel 53 cs = some x) :
    ∃ A n c V, cs = [.slice A n c] ∧ V.length = n ∧ n ≤ maxLen ∧ (∀ r ∈ V, r.length ≤ maxLen) ∧ RR w w.heap.size A V := by
  rcases open_int_rows Try.underlying53 Try.underlying22 Try.underlying3 (by kernel_rfl) (by kernel_rfl) h with ⟨rfl, _⟩ | ⟨a, len, cap, A, L, C, Z, rfl, _, hl, hm, _, hr⟩
  · exact ⟨none, 0, 0, [], rfl, rfl, by unfold maxLen; omega, by simp, fun h => absurd h (by simp)⟩
  · have hlen : ∀ r, r < len → ((Z r).take (L r)).length = L r := fun r hr' => by
      obtain ⟨_, h1, _, h3, _⟩ := hr r (by omega)
      simp
      omega
    refine ⟨some a, len, cap, (List.range len).map fun r => (Z r).take (L r), rfl, by simp, by omega, fun r hr' => ?_, fun hp => ?_⟩
    · obtain ⟨k, hk, rfl⟩ := List.mem_map.1 hr'
      have hk' : k < len := List.mem_range.1 hk
      rw [hlen k hk']
      obtain ⟨_, h1, h2, _⟩ := hr k (by omega)
      omega
    · have hn : 0 < len := by simpa using hp
      have hc0 := (hr 0 (by omega)).1
      obtain ⟨b, off, rfl⟩ := cell_plain hc0 ⟨_, hc0⟩
      have hb := World.block_lt_of_cell? w _ hc0
      simp only [add_plain] at hb
      refine ⟨b, off, rfl, hb, fun j r hj => ?_⟩
      simp only [List.getElem?_map, Option.map_eq_some_iff] at hj
      obtain ⟨k, hk, rfl⟩ := hj
      obtain ⟨hk1, hk2⟩ := List.getElem?_eq_some_iff.1 hk
      simp at hk1 hk2
      subst hk2
      obtain ⟨h1, h2, h3, h4, _, h6, h7⟩ := hr j (by omega)
      rw [add_plain] at h1
      refine ⟨A j, C j, ?_, ?_⟩
      · rw [hlen j hk1]
        exact h1
      · cases e : A j with
        | none =>
          have := h6 e
          have e0 : L j = 0 := by omega
          rw [e0]
          exact RV.nil
        | some a' =>
          obtain ⟨_, h8⟩ := h7 a' e
          exact RI.of_cells (fun i hi => h8 i (by omega)) (by omega)

set_option maxRecDepth 100000
theorem laid : laidOutB Try.prog = true := by kernel_rfl

/-- An argument that is a slice of integers, opened. -/
theorem ints_open {w : World} {base : Nat} {r : Reach} {b0 : Nat} {v : Value} {d : DataW H} {p : List MemPlace}
    (hv : Value.okWide Try.prog w r b0 22 v) (h : DataW.Trod enc Try.prog w base (fun _ => true) true 22 v d p) :
    ∃ A n c xs, v = .slice A n c ∧ xs.length = n ∧ (n ≤ maxLen ∧ n ≤ c) ∧ RI w w.heap.size A xs := by
  obtain ⟨a0, len, cap, rfl⟩ := okWide_slice Try.underlying22 hv
  obtain ⟨fuel, hf⟩ := h
  obtain ⟨A, n, c, l, e, h1, h2, h3⟩ := ints_of hf
  simp [Value.cells] at e
  obtain ⟨rfl, rfl, rfl⟩ := e
  exact ⟨_, _, _, l, rfl, h1, h2, h3⟩
theorem rows_open {w : World} {base : Nat} {r : Reach} {b0 : Nat} {v : Value} {d : DataW H} {p : List MemPlace}
    (hv : Value.okWide Try.prog w r b0 53 v) (h : DataW.Trod enc Try.prog w base (fun _ => true) true 53 v d p) :
    ∃ A n c V, v = .slice A n c ∧ V.length = n ∧ n ≤ maxLen ∧ (∀ r ∈ V, r.length ≤ maxLen) ∧ RR w w.heap.size A V := by
  obtain ⟨a0, len, cap, rfl⟩ := okWide_slice Try.underlying53 hv
  obtain ⟨fuel, hf⟩ := h
  obtain ⟨A, n, c, l, e, h1, h2, h3, h4⟩ := rows_of hf
  simp [Value.cells] at e
  obtain ⟨rfl, rfl, rfl⟩ := e
  exact ⟨_, _, _, l, rfl, h1, h2, h3, h4⟩
theorem cells_level : Try.prog.cellsOf 35 = 4 := by kernel_rfl
theorem cells_vib : Try.prog.cellsOf 24 = 2 := by kernel_rfl
/-- A level by value, opened. -/
theorem level_open {w : World} {base : Nat} {spare : Nat → Bool} {held : Bool} {r : Reach} {b0 : Nat} {v : Value} {d : DataW H} {p : List MemPlace}
    (hv : Value.okWide Try.prog w r b0 35 v) (h : DataW.Trod enc Try.prog w base spare held 35 v d p) :
    ∃ a b c e : Int, v = .agg #[.int .i64 a, .int .i64 b, .int .i64 c, .int .i64 e] := by
  obtain ⟨c0, c1, c2, c3, y0, y1, y2, y3, m, rfl, _, _, h0, h1, h2, h3⟩ := open_agg4 Try.underlying35 (by kernel_rfl) cells_level hv h
  obtain ⟨a, e0, _, _⟩ := DataW.trod_int Try.underlying3 h0
  obtain ⟨b, e1, _, _⟩ := DataW.trod_int Try.underlying3 h1
  obtain ⟨c, e2, _, _⟩ := DataW.trod_int Try.underlying3 h2
  obtain ⟨e, e3, _, _⟩ := DataW.trod_int Try.underlying3 h3
  simp at e0 e1 e2 e3
  subst e0 e1 e2 e3
  exact ⟨a, b, c, e, rfl⟩
/-- A vibration by value, opened. -/
theorem vib_open {w : World} {base : Nat} {r : Reach} {b0 : Nat} {v : Value} {d : DataW H} {p : List MemPlace}
    (hv : Value.okWide Try.prog w r b0 24 v) (h : DataW.Trod enc Try.prog w base (fun _ => true) true 24 v d p) :
    ∃ AS ns cs AM nm cm S M, v = .agg #[.slice AS ns cs, .slice AM nm cm] ∧ S.length = ns ∧ M.length = nm ∧ (ns ≤ maxLen ∧ ns ≤ cs) ∧ (nm ≤ maxLen ∧ nm ≤ cm) ∧ RI w w.heap.size AS S ∧ RI w w.heap.size AM M := by
  obtain ⟨c0, c1, y0, y1, m, rfl, _, _, h0, h1⟩ := open_agg2 Try.underlying24 (by kernel_rfl) cells_vib hv h
  obtain ⟨A0, n0, c0', X0, e0, hx0, hn0, r0⟩ := ints_of h0
  obtain ⟨A1, n1, c1', X1, e1, hx1, hn1, r1⟩ := ints_of h1
  simp at e0 e1
  subst e0 e1
  exact ⟨A0, n0, c0', A1, n1, c1', X0, X1, rfl, hx0, hx1, hn0, hn1, r0, r1⟩

/-- An argument reads again. -/
theorem again {t : TypeId} {W W' : World} {v : Value} {d : DataW H} {ps : List MemPlace} {sp : Nat → Bool} (hr : Try.prog.readableRec t = true) (ht : t < Try.prog.types.size)
    (h : DataW.Trod enc Try.prog W 0 (fun _ => true) true t v d ps) (hb : Below W.heap.size W W') (hlt : ∀ x ∈ ps, x.block < W.heap.size) (hs : ∀ x ∈ ps, sp x.block = true) : DataW.Trod enc Try.prog W' 0 sp true t v d ps :=
  WideElems.Trod_stays laid hr ht h (fun x hx => hb.same (hlt x hx)) hs
end

end Go.Proofs.Ytliocbjmledfbaa

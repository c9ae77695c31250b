/- Arguments that are slices of integers, boxes and tables: opened; and read again where nothing that was there has changed. -/
import Derived.Test.YtjdahphnmeaolaaLawKit
import Derived.Deep.SlicePairs
import Derived.Deep.Matrix
import Derived.Carry
import Derived.OpenShut
namespace Go.Proofs.Ytjdahphnmeaolaa
open Go.RowKit Go.WideShapes Go.ChangeShapes Go.ChangeAt Go.Joins Go.Deep

section
variable {H : Type} {enc : TypeId × Value → H}

theorem cell_plain {w : World} {a : Addr} {v : Value} {i : Nat} (h : w.cell? (a.add i) = some v) (h0 : ∃ u, w.cell? (a.add 0) = some u) : ∃ b off, a = ⟨b, off, none⟩ := by
  obtain ⟨b, off, spot⟩ := a
  obtain ⟨u, hu⟩ := h0
  have hspot : spot = none := by simpa [Addr.add] using World.cell?_spot hu
  subst hspot
  exact ⟨b, off, rfl⟩

theorem RI.of_cells {w : World} {a : Addr} {zs : List Int} {n : Nat} (h : ∀ i, i < n → w.cell? (a.add i) = some (.int .i64 (zs.getD i 0))) (hl : n ≤ zs.length) : RI w w.heap.size (some a) (zs.take n) := by
  intro hp
  have hn : 0 < n := by simp at hp; omega
  obtain ⟨b, off, rfl⟩ := cell_plain (h 0 hn) ⟨_, h 0 hn⟩
  have hb := World.block_lt_of_cell? w _ (h 0 hn)
  simp only [add_plain] at hb
  refine ⟨b, off, rfl, hb, fun j u hu => ?_⟩
  simp only [List.getElem?_map, Option.map_eq_some_iff] at hu
  obtain ⟨x, hx, rfl⟩ := hu
  obtain ⟨hj, e⟩ := List.getElem?_eq_some_iff.1 hx
  have hj' : j < n := by simp at hj; omega
  have := h j hj'
  rw [add_plain] at this
  rw [this]
  simp at e
  simp [List.getElem?_eq_getElem (show j < zs.length by omega), e]

/-- A cell that reads as a slice of integers. -/
theorem ints_of {w : World} {base : Nat} {spare : Nat → Bool} {held : Bool} {fuel : Nat} {cs : List Value} {x : DataW H × List MemPlace} (h : DataW.trod enc Try.prog w base spare held fuel 24 cs = some x) :
    ∃ A n c xs, cs = [.slice A n c] ∧ xs.length = n ∧ n ≤ maxLen ∧ RI w w.heap.size A xs := by
  rcases open_ints Try.underlying24 Try.underlying3 (by kernel_rfl) h with ⟨rfl, _⟩ | ⟨a, len, cap, zs, rfl, _, hl, hm, hz, _, hcell, _⟩
  · exact ⟨none, 0, 0, [], rfl, rfl, by unfold maxLen; omega, RV.nil⟩
  · have hlz : len ≤ zs.length := by rw [hz]; split <;> omega
    exact ⟨some a, len, cap, zs.take len, rfl, by simp; omega, by omega, RI.of_cells (fun i hi => hcell i (by omega)) hlz⟩

/-- A cell that reads as a slice of slices of integers. -/
theorem rows_of {w : World} {base : Nat} {held : Bool} {fuel : Nat} {cs : List Value} {x : DataW H × List MemPlace} (h : DataW.trod enc Try.prog w base (fun _ => true) held fuel 25 cs = some x) :
    ∃ A n c V, cs = [.slice A n c] ∧ V.length = n ∧ n ≤ maxLen ∧ (∀ r ∈ V, r.length ≤ maxLen) ∧ RR w w.heap.size A V := by
  rcases open_int_rows Try.underlying25 Try.underlying24 Try.underlying3 (by kernel_rfl) (by kernel_rfl) h with ⟨rfl, _⟩ | ⟨a, len, cap, A, L, C, Z, rfl, _, hl, hm, _, hr⟩
  · exact ⟨none, 0, 0, [], rfl, rfl, by unfold maxLen; omega, by simp, fun h => absurd h (by simp)⟩
  · have hlen : ∀ r, r < len → ((Z r).take (L r)).length = L r := fun r hr' => by
      obtain ⟨_, h1, _, h3, _⟩ := hr r (by omega)
      simp
      omega
    refine ⟨some a, len, cap, (List.range len).map fun r => (Z r).take (L r), rfl, by simp, by omega, fun r hr' => ?_, fun hp => ?_⟩
    · obtain ⟨k, hk, rfl⟩ := List.mem_map.1 hr'
      have hk' : k < len := List.mem_range.1 hk
      rw [hlen k hk']
      obtain ⟨_, h1, h2, _⟩ := hr k (by omega)
      omega
    · have hn : 0 < len := by simpa using hp
      have hc0 := (hr 0 (by omega)).1
      obtain ⟨b, off, rfl⟩ := cell_plain hc0 ⟨_, hc0⟩
      have hb := World.block_lt_of_cell? w _ hc0
      simp only [add_plain] at hb
      refine ⟨b, off, rfl, hb, fun j r hj => ?_⟩
      simp only [List.getElem?_map, Option.map_eq_some_iff] at hj
      obtain ⟨k, hk, rfl⟩ := hj
      obtain ⟨hk1, hk2⟩ := List.getElem?_eq_some_iff.1 hk
      simp at hk1 hk2
      subst hk2
      obtain ⟨h1, h2, h3, h4, _, h6, h7⟩ := hr j (by omega)
      rw [add_plain] at h1
      refine ⟨A j, C j, ?_, ?_⟩
      · rw [hlen j hk1]
        exact h1
      · cases e : A j with
        | none =>
          have := h6 e
          have e0 : L j = 0 := by omega
          rw [e0]
          exact RV.nil
        | some a' =>
          obtain ⟨_, h8⟩ := h7 a' e
          exact RI.of_cells (fun i hi => h8 i (by omega)) (by omega)

/-- A cell that reads as a slice of spans. -/
theorem spans_of {w : World} {base : Nat} {spare : Nat → Bool} {held : Bool} {t : TypeId} {fuel : Nat} {cs : List Value} {x : DataW H × List MemPlace} (ht : Try.prog.underlying t = some (.slice 37)) (h : DataW.trod enc Try.prog w base spare held fuel t cs = some x) :
    ∃ A n c l, cs = [.slice A n c] ∧ l.length = n ∧ n ≤ maxLen ∧ RS w w.heap.size A l := by
  rcases open_slice_pairs ht Try.underlying37 (by kernel_rfl) rfl rfl (by kernel_rfl) (by kernel_rfl) h with ⟨rfl, _⟩ | ⟨a, len, cap, m, n, V0, V1, D0, D1, P0, P1, rfl, _, hl, hm, hmm, _, hr⟩
  · exact ⟨none, 0, 0, [], rfl, rfl, by unfold maxLen; omega, fun h => absurd h (by simp)⟩
  · have hlm : len ≤ m := by rw [hmm]; split <;> omega
    have each : ∀ i, ∃ q : Int × Int, i < len → w.cell? (a.add (i * 2)) = some (.int .i64 q.1) ∧ w.cell? (a.add (i * 2 + 1)) = some (.int .i64 q.2) := fun i => by
      by_cases hi : i < len
      · obtain ⟨h0, h1, t0, t1⟩ := hr i (by omega)
        obtain ⟨u, e0, _, _⟩ := DataW.trod_int Try.underlying3 t0
        obtain ⟨v, e1, _, _⟩ := DataW.trod_int Try.underlying3 t1
        simp at e0 e1
        exact ⟨(u, v), fun _ => ⟨by rw [h0, e0], by rw [h1, e1]⟩⟩
      · exact ⟨(0, 0), fun h => absurd h hi⟩
    obtain ⟨f, hf⟩ : ∃ f : Nat → Int × Int, ∀ i, i < len → w.cell? (a.add (i * 2)) = some (.int .i64 (f i).1) ∧ w.cell? (a.add (i * 2 + 1)) = some (.int .i64 (f i).2) := ⟨fun i => (each i).choose, fun i => (each i).choose_spec⟩
    clear each hr
    refine ⟨some a, len, cap, (List.range len).map f, rfl, by simp, by omega, fun hp => ?_⟩
    have hn : 0 < len := by simpa using hp
    have hc0 := (hf 0 hn).1
    obtain ⟨b, off, rfl⟩ := cell_plain hc0 ⟨_, by simpa using hc0⟩
    have hb := World.block_lt_of_cell? w _ hc0
    simp only [add_plain] at hb
    refine ⟨b, off, rfl, hb, fun j p hj => ?_⟩
    simp only [List.getElem?_map, Option.map_eq_some_iff] at hj
    obtain ⟨k, hk, rfl⟩ := hj
    obtain ⟨hk1, hk2⟩ := List.getElem?_eq_some_iff.1 hk
    simp at hk1 hk2
    subst hk2
    obtain ⟨h1, h2⟩ := hf j hk1
    rw [add_plain] at h1 h2
    exact ⟨h1, h2⟩

set_option maxRecDepth 100000
theorem cells_table : Try.prog.cellsOf 27 = 3 := by kernel_rfl
theorem laid : laidOutB Try.prog = true := by kernel_rfl

/-- A table by value, opened. -/
theorem table_open {w : World} {base : Nat} {r : Reach} {b0 : Nat} {v : Value} {d : DataW H} {p : List MemPlace}
    (hv : Value.okWide Try.prog w r b0 27 v) (h : DataW.Trod enc Try.prog w base (fun _ => true) true 27 v d p) :
    ∃ AX nx cx AY ny cy AV nv cv X Y V, v = .agg #[.slice AX nx cx, .slice AY ny cy, .slice AV nv cv] ∧ X.length = nx ∧ Y.length = ny ∧ V.length = nv ∧ nx ≤ maxLen ∧ ny ≤ maxLen ∧ nv ≤ maxLen ∧
      (∀ r ∈ V, r.length ≤ maxLen) ∧ TB w w.heap.size AX AY AV X Y V := by
  obtain ⟨c0, c1, c2, y0, y1, y2, m, rfl, _, _, hy0, hy1, hy2⟩ := open_agg3 Try.underlying27 (by kernel_rfl) cells_table hv h
  obtain ⟨AX, nx, cx, X, e0, hx, hnx, rx⟩ := ints_of hy0
  obtain ⟨AY, ny, cy, Y, e1, hy, hny, ry⟩ := ints_of hy1
  obtain ⟨AV, nv, cv, V, e2, hv', hnv, hnr, rv⟩ := rows_of hy2
  simp at e0 e1 e2
  subst e0 e1 e2
  exact ⟨AX, nx, cx, AY, ny, cy, AV, nv, cv, X, Y, V, rfl, hx, hy, hv', hnx, hny, hnv, hnr, rx, ry, rv⟩

/-- An argument that is a slice of spans, opened. -/
theorem spans_open {w : World} {base : Nat} {r : Reach} {b0 : Nat} {t : TypeId} {v : Value} {d : DataW H} {p : List MemPlace} (ht : Try.prog.underlying t = some (.slice 37))
    (hv : Value.okWide Try.prog w r b0 t v) (h : DataW.Trod enc Try.prog w base (fun _ => true) true t v d p) :
    ∃ A n c l, v = .slice A n c ∧ l.length = n ∧ n ≤ maxLen ∧ RS w w.heap.size A l := by
  obtain ⟨a0, len, cap, rfl⟩ := okWide_slice ht hv
  obtain ⟨fuel, hf⟩ := h
  obtain ⟨A, n, c, l, e, h1, h2, h3⟩ := spans_of ht hf
  simp [Value.cells] at e
  obtain ⟨rfl, rfl, rfl⟩ := e
  exact ⟨_, _, _, l, rfl, h1, h2, h3⟩

/-- An argument reads again. -/
theorem again {t : TypeId} {W W' : World} {v : Value} {d : DataW H} {ps : List MemPlace} {sp : Nat → Bool} (hr : Try.prog.readableRec t = true) (ht : t < Try.prog.types.size)
    (h : DataW.Trod enc Try.prog W 0 (fun _ => true) true t v d ps) (hb : Below W.heap.size W W') (hlt : ∀ x ∈ ps, x.block < W.heap.size) (hs : ∀ x ∈ ps, sp x.block = true) : DataW.Trod enc Try.prog W' 0 sp true t v d ps :=
  WideElems.Trod_stays laid hr ht h (fun x hx => hb.same (hlt x hx)) hs
end

end Go.Proofs.Ytjdahphnmeaolaa

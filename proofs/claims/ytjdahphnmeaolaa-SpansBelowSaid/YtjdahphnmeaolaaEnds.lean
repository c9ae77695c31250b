/- spans.ends. -/
import Derived.Test.YtjdahphnmeaolaaVal
import Derived.Maps.AppendAt
import Derived.RangeFuncBox
namespace Go.Proofs.Ytjdahphnmeaolaa
open Go.RowKit

theorem info_int : (Try.prog.info? 3).map (fun i => (i.zero, i.size, i.bytes)) = some (some (.int .i64 0), 1, 8) := by kernel_rfl

/-- What is returned is a slice of the call's own, which reads as the list. -/
def GivesInts (w : World) (l : List Int) (e : Ending) (w' : World) : Prop :=
  ∃ g c, e = .returned (.slice (some ⟨g, 0, none⟩) l.length c) ∧ w.heap.size ≤ g ∧ RI w' w'.heap.size (some ⟨g, 0, none⟩) l ∧ Below w.heap.size w w'

theorem RI.of_own {w : World} {base n g c : Nat} {E : TypeId} {l : List Int} (h : w.ownsRow base E 1 (.slice (some ⟨g, 0, none⟩) n c) n (l.map (Value.int .i64))) : RI w w.heap.size (some ⟨g, 0, none⟩) l := fun _ =>
  ⟨g, 0, rfl, (h.lt g rfl).2, fun j u hu => by
    have hj : j < n * 1 := by
      have h1 := h.1
      have h2 := (List.getElem?_eq_some_iff.1 hu).1
      omega
    rw [Nat.zero_add, h.cellAt j hj]
    exact hu⟩

def endK (X : List Int) (lo hi : Int) (k : Nat) : List Int := lo :: (X.take k).filter (fun n => decide (lo < n) && decide (n < hi))
theorem endK_hit {X : List Int} {lo hi x : Int} {k : Nat} (hx : X[k]? = some x) (h1 : lo < x) (h2 : x < hi) : endK X lo hi (k + 1) = endK X lo hi k ++ [x] := by
  unfold endK
  rw [List.take_add_one, hx]
  simp [List.filter_append, h1, h2]
theorem endK_miss {X : List Int} {lo hi x : Int} {k : Nat} (hx : X[k]? = some x) (h : ¬ (lo < x ∧ x < hi)) : endK X lo hi (k + 1) = endK X lo hi k := by
  unfold endK
  rw [List.take_add_one, hx]
  have : (decide (lo < x) && decide (x < hi)) = false := by simp; omega
  simp [List.filter_append, this]
theorem endK_len (X : List Int) (lo hi : Int) (k : Nat) : (endK X lo hi k).length ≤ k + 1 := by
  unfold endK
  have := List.length_filter_le (fun n => decide (lo < n) && decide (n < hi)) (X.take k)
  simp at this ⊢
  omega
theorem endK_all (X : List Int) (lo hi : Int) : endsL X lo hi = endK X lo hi X.length ++ if lo < hi then [hi] else [] := by
  unfold endsL endK
  simp

set_option maxHeartbeats 800000 in
theorem ends_any (A : Option Addr) (n c B : Nat) (X : List Int) (lo hi : Int) (w : World) (hx : X.length = n) (hn : n ≤ 1000000) (hB : B ≤ w.heap.size) (h : RI w B A X) :
    Calls Try.prog 112 #[.slice A n c, .agg #[.int .i64 lo, .int .i64 hi]] w (GivesInts w (endsL X lo hi)) := by
  subst hx
  obtain ⟨i0, hi0, hz0, hz1, hz2⟩ := info_parts info_int
  go_enter Try.func112, Try.ntmps112
  go_wp2
  have hown0 : ((w.alloc (.cells #[.int .i64 lo, .int .i64 hi] 37)).alloc (.cells #[.int .i64 lo] 3)).ownsRow (w.heap.size + 1) 3 1 (.slice (some ⟨w.heap.size + 1, 0, none⟩) 1 1) 1 [.int .i64 lo] := by
    have := World.ownsRow_lit (base := w.heap.size + 1) (e := 3) (size := 1) (w.alloc (.cells #[.int .i64 lo, .int .i64 hi] 37)) #[.int .i64 lo] 1 (by simp) (le_maxLen (by omega)) (by simp)
    simpa using this
  go_loopw [5, 13] (fun v i wr => ∃ k : Nat, k ≤ X.length ∧ i = .int .i64 k ∧ wr.ownsRow (w.heap.size + 1) 3 1 v (endK X lo hi k).length ((endK X lo hi k).map (Value.int .i64)) ∧
      wr.cell? ⟨w.heap.size, 0, none⟩ = some (.int .i64 lo) ∧ wr.cell? ⟨w.heap.size, 1, none⟩ = some (.int .i64 hi) ∧ w.heap.size < wr.heap.size ∧ Below w.heap.size w wr) (fun _ i _ => X.length - (intOf i).toNat)
  case atStart => exact ⟨0, Nat.zero_le _, rfl, by simpa [endK] using hown0, by go_simp, by go_simp, by simp; omega, by go_grown⟩
  case round =>
    obtain ⟨k, hk, rfl, hown, hc1, hc2, hsz, hbw⟩ := hrel
    have hel := endK_len X lo hi k
    by_cases hlt : k < X.length
    · obtain ⟨b, off, x, rfl, hb, hx, hc⟩ := ((RI.more h hB).below hbw).at_ hlt
      have HX := Lib.hid hx
      clear hx hown0
      by_cases h1 : lo < x
      · by_cases h2 : x < hi
        · go_wp2_with (at_builtin; refine wpList_append_own _ rfl _ _ 24 rfl (w.heap.size + 1) 3 i0 (.int .i64 0) 1 8 Try.underlying24 hi0 hz0 hz1 hz2 rfl (by decide) _ _ _ rfl (hown.alloc _) ⟨wr.heap.size, 0, none⟩ 1 1 [.int .i64 x] rfl rfl ?c1 ?c2 ?c3 ?c4 ?c5 ?_)
          case c1 => exact cell_one_new _ _ _
          case c2 => intro u hu; simp at hu; subst hu; rfl
          case c3 => unfold maxLen; omega
          case c4 => omega
          case c5 => simp; omega
          intro v' w1 hown' hgrow _
          have hne := fun e => (absurd (hown.lt w.heap.size e).1 (by omega) : False)
          have hb2 : Below w.heap.size w w1 := (hbw.alloc (by omega) (.cells #[.int .i64 x] 3)).grown hgrow (by simp; omega) (fun q hq => by have := (hown.lt _ hq).1; omega)
          have d1 : w1.cell? ⟨w.heap.size, 0, none⟩ = some (.int .i64 lo) := hgrow.cell (by rw [World.cell?_alloc_past _ _ _ hsz]; exact hc1) (fun e => hne e.symm)
          have d2 : w1.cell? ⟨w.heap.size, 1, none⟩ = some (.int .i64 hi) := hgrow.cell (by rw [World.cell?_alloc_past _ _ _ hsz]; exact hc2) (fun e => hne e.symm)
          have hs1 : w.heap.size < w1.heap.size := by have := hgrow.size; simp at this; omega
          have ho : w1.ownsRow (w.heap.size + 1) 3 1 v' (endK X lo hi (k + 1)).length ((endK X lo hi (k + 1)).map (Value.int .i64)) := by
            rw [endK_hit HX.out h1 h2]; simpa using hown'
          clear hown' hgrow hown hc hc1 hc2 hbw
          go_wp2
          go_roundw
          case rel => exact ⟨k + 1, by omega, by go_num, ho, d1, d2, hs1, hb2⟩
          case measure => simp [intOf]; omega
        · have e1 := endK_miss (lo := lo) (hi := hi) HX.out (by omega)
          have E1 := Lib.hid e1
          clear e1
          go_wp2
          go_roundw
          case rel => exact ⟨k + 1, by omega, by go_num, by rw [E1.out]; exact hown, hc1, hc2, hsz, hbw⟩
          case measure => simp [intOf]; omega
      · have e1 := endK_miss (lo := lo) (hi := hi) HX.out (by omega)
        have E1 := Lib.hid e1
        clear e1
        go_wp2
        go_roundw
        case rel => exact ⟨k + 1, by omega, by go_num, by rw [E1.out]; exact hown, hc1, hc2, hsz, hbw⟩
        case measure => simp [intOf]; omega
    · obtain rfl : k = X.length := by omega
      obtain ⟨g, cap, rfl⟩ := ownsRow_succ (k := (X.take X.length |>.filter (fun n => decide (lo < n) && decide (n < hi))).length) (by simpa [endK] using hown)
      have hbig : (endK X lo hi X.length).length = (X.take X.length |>.filter (fun n => decide (lo < n) && decide (n < hi))).length + 1 := by simp [endK]
      rw [← hbig] at *
      have HB := Lib.hid hbig
      clear hbig
      by_cases hlh : lo < hi
      · have e2 : endsL X lo hi = endK X lo hi X.length ++ [hi] := by rw [endK_all, if_pos hlh]
        have E2 := Lib.hid e2
        clear e2 hown0
        go_wp2_with (at_builtin; refine wpList_append_own _ rfl _ _ 24 rfl (w.heap.size + 1) 3 i0 (.int .i64 0) 1 8 Try.underlying24 hi0 hz0 hz1 hz2 rfl (by decide) _ _ _ rfl (hown.alloc _) ⟨wr.heap.size, 0, none⟩ 1 1 [.int .i64 hi] rfl rfl ?d1 ?d2 ?d3 ?d4 ?d5 ?_)
        case d2 => first | rfl | (intro u hu; simp at hu; subst hu; rfl)
        case d3 => first | omega | (unfold maxLen; omega)
        case d4 => omega
        case d5 => first | omega | (simp; omega)
        intro v' w1 hown' hgrow _
        have hb2 : Below w.heap.size w w1 := (hbw.alloc (by omega) (.cells #[.int .i64 hi] 3)).grown hgrow (by simp; omega) (fun q hq => by have := (hown.lt _ hq).1; omega)
        obtain ⟨g', cap', hv'⟩ := ownsRow_succ hown'
        subst hv'
        have ho : RI w1 w1.heap.size (some ⟨g', 0, none⟩) (endsL X lo hi) := by
          rw [E2.out]
          exact RI.of_own (n := (endK X lo hi X.length).length + 1) (by simpa using hown')
        have hg' : w.heap.size ≤ g' := by have := (hown'.lt g' rfl).1; omega
        clear hown' hgrow hown hc1 hc2 hbw
        go_wp2
        go_ret
        exact ⟨g', cap', by rw [E2.out]; simp, hg', ho, hb2⟩
      · have e2 : endsL X lo hi = endK X lo hi X.length := by rw [endK_all, if_neg hlh]; simp
        have E2 := Lib.hid e2
        clear e2 hown0
        go_wp2
        go_ret
        exact ⟨g, cap, by rw [E2.out]; rfl, by have := (hown.lt g rfl).1; omega, by rw [E2.out]; exact RI.of_own hown, hbw⟩

end Go.Proofs.Ytjdahphnmeaolaa

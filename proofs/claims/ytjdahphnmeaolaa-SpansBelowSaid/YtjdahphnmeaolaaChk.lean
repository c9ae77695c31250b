/- Far, Check of both sides, box. -/
import Derived.Test.YtjdahphnmeaolaaMeet
import Derived.Test.YtjdahphnmeaolaaApp
namespace Go.Proofs.Ytjdahphnmeaolaa
open Go.RowKit

/-- What a law does not look at. -/
def farB (X Y : List Int) (V : List (List Int)) : Bool := decide (15 < X.length) || (decide (15 < Y.length) || (decide (15 < V.length) || V.any fun r => decide (15 < r.length)))
theorem farB_no {X Y : List Int} {V : List (List Int)} (h : farB X Y V = false) : X.length ≤ 15 ∧ Y.length ≤ 15 ∧ V.length ≤ 15 ∧ ∀ r ∈ V, r.length ≤ 15 := by
  unfold farB at h
  simp at h
  exact ⟨h.1, h.2.1, h.2.2.1, h.2.2.2⟩

theorem any_hit {V : List (List Int)} {k : Nat} {r : List Int} (hr : V[k]? = some r) (h : 15 < r.length) : (V.any fun r => decide (15 < r.length)) = true := by
  rw [List.any_eq_true]
  obtain ⟨hk, rfl⟩ := List.getElem?_eq_some_iff.1 hr
  exact ⟨_, List.getElem_mem hk, by simpa using h⟩
theorem any_step {V : List (List Int)} {k : Nat} {r : List Int} (hr : V[k]? = some r) : ((V.take (k + 1)).any fun r => decide (15 < r.length)) = (((V.take k).any fun r => decide (15 < r.length)) || decide (15 < r.length)) := by
  rw [List.take_add_one, hr]
  simp

set_option maxRecDepth 100000 in
theorem far_any (AX AY AV : Option Addr) (nx cx ny cy nv cv B : Nat) (X Y : List Int) (V : List (List Int)) (w : World) (hx : X.length = nx) (hy : Y.length = ny) (hv : V.length = nv) (hnx : nx ≤ maxLen) (hny : ny ≤ maxLen) (hnv : nv ≤ maxLen)
    (hB : B ≤ w.heap.size) (h : TB w B AX AY AV X Y V) :
    Calls Try.prog 17 #[.agg #[.slice AX nx cx, .slice AY ny cy, .slice AV nv cv]] w fun e w' => e = .returned (.bool (farB X Y V)) ∧ Below w.heap.size w w' := by
  subst hx hy hv
  unfold maxLen at hnx hny hnv
  by_cases h1 : 15 < X.length
  · have e1 : farB X Y V = true := by unfold farB; simp [h1]
    rw [e1]
    clear e1
    have g1 : (15 : Int) < X.length := by omega
    go_enter Try.func17, Try.ntmps17
    go_wp2
    go_ret
    exact ⟨rfl, by go_grown⟩
  have g1 : (X.length : Int) ≤ 15 := by omega
  by_cases h2 : 15 < Y.length
  · have e1 : farB X Y V = true := by unfold farB; simp [h2]
    rw [e1]
    clear e1 h1
    have g2 : (15 : Int) < Y.length := by omega
    go_enter Try.func17, Try.ntmps17
    go_wp2
    go_ret
    exact ⟨rfl, by go_grown⟩
  have g2 : (Y.length : Int) ≤ 15 := by omega
  by_cases h3 : 15 < V.length
  · have e1 : farB X Y V = true := by unfold farB; simp [h3]
    rw [e1]
    clear e1 h1 h2
    have g3 : (15 : Int) < V.length := by omega
    go_enter Try.func17, Try.ntmps17
    go_wp2
    go_ret
    exact ⟨rfl, by go_grown⟩
  have g3 : (V.length : Int) ≤ 15 := by omega
  have HL := Lib.hid (And.intro h1 (And.intro h2 h3))
  have HV := Lib.hid h.v
  clear h1 h2 h3 h
  go_enter Try.func17, Try.ntmps17
  go_wp2
  go_loopw [3] (fun i wr => ∃ k : Nat, k ≤ V.length ∧ i = .int .i64 k ∧ ((V.take k).any fun r => decide (15 < r.length)) = false ∧ wr.cell? ⟨w.heap.size, 2, none⟩ = some (.slice AV V.length cv) ∧ Below w.heap.size w wr) (fun i _ => V.length - (intOf i).toNat)
  case atStart => exact ⟨0, by omega, rfl, by simp, by go_simp, by go_grown⟩
  case round =>
    obtain ⟨k, hk, rfl, hw, hc2, hbw⟩ := hrel
    have HW := Lib.hid hw
    clear hw
    by_cases hlt : k < V.length
    · obtain ⟨b, off, r, A', c', rfl, hb, hr, hc, hri⟩ := ((HV.out.more hB).below hbw).at_ hlt
      have HR := Lib.hid hr
      clear hr hri
      by_cases g4 : 15 < r.length
      · have g4' : (15 : Int) < r.length := by omega
        go_wp2
        go_ret
        exact ⟨ret_bool (by unfold farB; rw [any_hit HR.out g4]; simp), hbw⟩
      · have g4' : (r.length : Int) ≤ 15 := by omega
        go_wp2
        go_roundw
        case rel => exact ⟨k + 1, by omega, by go_num, by rw [any_step HR.out, HW.out]; simp; omega, hc2, hbw⟩
        case measure => simp [intOf]; omega
    · go_wp2
      go_ret
      obtain ⟨l1, l2, l3⟩ := HL.out
      exact ⟨ret_bool (by have hw := HW.out; rw [List.take_of_length_le (by omega)] at hw; unfold farB; rw [hw]; simp; omega), hbw⟩

def chkB (l : List (Int × Int)) : Bool := decide (1 ≤ l.length) && decide (l.length ≤ 3) && l.all vS
def chkE (l : List (Int × Int)) : Int := if chkB l then 0 else 10
theorem chkE_no {l : List (Int × Int)} (h : chkB l = false) : chkE l = 10 := by unfold chkE; rw [h]; rfl
theorem chkE_yes {l : List (Int × Int)} (h : chkB l = true) : chkE l = 0 := by unfold chkE; rw [h]; rfl

theorem check_any (A : Option Addr) (n c B : Nat) (l : List (Int × Int)) (w : World) (hx : l.length = n) (hn : n ≤ maxLen) (hB : B ≤ w.heap.size) (h : RS w B A l) :
    Calls Try.prog 19 #[.slice A n c] w fun e w' => e = .returned (.int .i64 (chkE l)) ∧ Below w.heap.size w w' := by
  subst hx
  have hn' := hn
  unfold maxLen at hn'
  by_cases h1 : 1 ≤ l.length ∧ l.length ≤ 3
  · obtain ⟨h1, h2⟩ := h1
    have g1 : (1 : Int) ≤ l.length := by omega
    have g2 : (l.length : Int) ≤ 3 := by omega
    cases hv : l.all vS with
    | false =>
      rw [chkE_no (by unfold chkB; rw [hv]; simp)]
      have HV := Lib.hid hv
      clear hv h1 h2
      go_enter Try.func19, Try.ntmps19
      go_wp2_with (go_at_call 65; refine Calls.mono (valid_any A _ c B l _ rfl hn hB h) ?_; rintro e w1 ⟨rfl, hb1⟩; rw [HV.out])
      go_ret
      exact ⟨rfl, hb1⟩
    | true =>
      rw [chkE_yes (by unfold chkB; rw [hv]; simp [h1, h2])]
      have HV := Lib.hid hv
      clear hv h1 h2
      go_enter Try.func19, Try.ntmps19
      go_wp2_with (go_at_call 65; refine Calls.mono (valid_any A _ c B l _ rfl hn hB h) ?_; rintro e w1 ⟨rfl, hb1⟩; rw [HV.out])
      go_ret
      exact ⟨rfl, hb1⟩
  · rw [chkE_no (by unfold chkB; simp; omega)]
    have g1 : (l.length : Int) < 1 ∨ (3 : Int) < l.length := by omega
    clear h1
    rcases g1 with g1 | g1
    all_goals
      go_enter Try.func19, Try.ntmps19
      go_wp2
      go_ret
      exact ⟨rfl, by go_grown⟩

theorem rcheck_any (A : Option Addr) (n c B : Nat) (l : List (Int × Int)) (w : World) (hx : l.length = n) (hn : n ≤ maxLen) (hB : B ≤ w.heap.size) (h : RS w B A l) :
    Calls Try.prog 21 #[.slice A n c] w fun e w' => e = .returned (.int .i64 (chkE l)) ∧ Below w.heap.size w w' := by
  subst hx
  have hn' := hn
  unfold maxLen at hn'
  by_cases h1 : 1 ≤ l.length ∧ l.length ≤ 3
  · obtain ⟨h1, h2⟩ := h1
    have hd : (decide ((1 : Int) ≤ l.length) && decide ((l.length : Int) ≤ 3)) = true := by simp; omega
    have HD := Lib.hid hd
    have HL := Lib.hid (And.intro h1 h2)
    clear hd h1 h2
    go_enter Try.func21, Try.ntmps21
    go_wp2_with (go_at_call 48; refine Calls.mono (from_any _ _ _ _) ?_; rintro e w1 ⟨rfl, rfl⟩; rw [HD.out])
    go_loopw [3] (fun i wr => ∃ k : Nat, k ≤ l.length ∧ i = .int .i64 k ∧ (l.take k).all vS = true ∧ Below w.heap.size w wr) (fun i _ => l.length - (intOf i).toNat)
    case atStart => exact ⟨0, by omega, rfl, by simp, by go_grown⟩
    case round =>
      obtain ⟨k, hk, rfl, hw, hbw⟩ := hrel
      have HW := Lib.hid hw
      clear hw
      by_cases hlt : k < l.length
      · obtain ⟨b, off, p, rfl, hb, hr, hc0, hc1⟩ := ((h.more hB).below hbw).at_ hlt
        obtain ⟨p0, p1⟩ := p
        simp only at hc0 hc1
        have HR := Lib.hid hr
        clear hr
        cases hv : vI p0 p1 with
        | false =>
          have HV := Lib.hid hv
          clear hv
          go_wp2_with (go_at_call 57; refine Calls.mono (rvalid_any _ _ _) ?_; rintro e w2 ⟨rfl, hb2⟩; rw [HV.out])
          go_ret
          exact ⟨ret_int (chkE_no (by unfold chkB; rw [vS_bad HR.out (by rw [vS_vI]; exact HV.out)]; simp)).symm, hbw.trans (hb2.mono hbw.size)⟩
        | true =>
          have HV := Lib.hid hv
          clear hv
          go_wp2_with (go_at_call 57; refine Calls.mono (rvalid_any _ _ _) ?_; rintro e w2 ⟨rfl, hb2⟩; rw [HV.out])
          go_roundw
          case rel => exact ⟨k + 1, by omega, by go_num, by rw [vS_step HR.out, HW.out, vS_vI, HV.out]; rfl, hbw.trans (hb2.mono hbw.size)⟩
          case measure => simp [intOf]; omega
      · go_wp2
        go_ret
        obtain ⟨l1, l2⟩ := HL.out
        exact ⟨ret_int (chkE_yes (by have hw := HW.out; rw [List.take_of_length_le (by omega)] at hw; unfold chkB; rw [hw]; simp [l1, l2])).symm, hbw⟩
  · rw [chkE_no (by unfold chkB; simp; omega)]
    have hd : (decide ((1 : Int) ≤ l.length) && decide ((l.length : Int) ≤ 3)) = false := by simp; omega
    have HD := Lib.hid hd
    clear hd h1
    go_enter Try.func21, Try.ntmps21
    go_wp2_with (go_at_call 48; refine Calls.mono (from_any _ _ _ _) ?_; rintro e w1 ⟨rfl, rfl⟩; rw [HD.out])
    go_ret
    exact ⟨rfl, by go_grown⟩

/-- The cells of a list of spans. -/
def spanCells (l : List (Int × Int)) : List Value := l.flatMap fun p => [.int .i64 p.1, .int .i64 p.2]
theorem spanCells_len (l : List (Int × Int)) : (spanCells l).length = l.length * 2 := by
  induction l with
  | nil => rfl
  | cons p l ih => show ([_, _] ++ spanCells l).length = _; simp [ih]; omega
theorem spanCells_get (l : List (Int × Int)) (j : Nat) {p : Int × Int} (h : l[j]? = some p) : (spanCells l)[j * 2]? = some (.int .i64 p.1) ∧ (spanCells l)[j * 2 + 1]? = some (.int .i64 p.2) := by
  induction l generalizing j with
  | nil => simp at h
  | cons q l ih =>
    have e : spanCells (q :: l) = .int .i64 q.1 :: .int .i64 q.2 :: spanCells l := rfl
    rw [e]
    cases j with
    | zero =>
      simp at h
      subst h
      simp
    | succ j =>
      simp at h
      have := ih j h
      have e1 : (j + 1) * 2 = j * 2 + 1 + 1 := by omega
      have e2 : (j + 1) * 2 + 1 = j * 2 + 1 + 1 + 1 := by omega
      rw [e1]
      simp only [List.getElem?_cons_succ]
      exact this
theorem spanCells_one (l : List (Int × Int)) : ∀ u ∈ spanCells l, u.oneCell' = true := by
  intro u hu
  obtain ⟨p, _, h⟩ := List.mem_flatMap.1 hu
  simp at h
  rcases h with rfl | rfl <;> rfl
theorem RS.cells {w : World} {B : Nat} {A : Option Addr} {l : List (Int × Int)} (h : RS w B A l) : Cells w A (spanCells l) := fun hp => by
  rw [spanCells_len] at hp
  obtain ⟨b, off, rfl, hb, hc⟩ := h (by omega)
  refine ⟨_, rfl, fun j u hu => ?_⟩
  have hj : j < l.length * 2 := by rw [← spanCells_len]; exact (List.getElem?_eq_some_iff.1 hu).1
  have hq : j / 2 < l.length := by omega
  obtain ⟨h0, h1⟩ := hc (j / 2) _ (List.getElem?_eq_getElem hq)
  obtain ⟨g0, g1⟩ := spanCells_get l (j / 2) (List.getElem?_eq_getElem hq)
  rw [Go.WideShapes.add_plain]
  rcases Nat.mod_two_eq_zero_or_one j with e | e
  · have e' : j / 2 * 2 = j := by omega
    rw [e'] at h0 g0
    rw [h0, ← hu, g0]
  · have e' : j / 2 * 2 + 1 = j := by omega
    have e2 : off + j / 2 * 2 + 1 = off + j := by omega
    rw [e'] at g1
    rw [e2] at h1
    rw [h1, ← hu, g1]
theorem RS.of_own {w : World} {base n : Nat} {v : Value} {E : TypeId} {l : List (Int × Int)} (h : w.ownsRow base E 2 v n (spanCells l)) (hl : l.length = n) (hv : v ≠ .slice none 0 0) :
    ∃ g c, v = .slice (some ⟨g, 0, none⟩) n c ∧ base ≤ g ∧ RS w w.heap.size (some ⟨g, 0, none⟩) l := by
  rcases h.2 with ⟨e, _⟩ | ⟨g, cap, cur, rfl, hg, hcur, hn, hm, hs, ht⟩
  · exact absurd e hv
  refine ⟨g, cap, rfl, hg, fun hp => ⟨g, 0, rfl, (h.lt g rfl).2, fun j p hj => ?_⟩⟩
  obtain ⟨g0, g1⟩ := spanCells_get l j hj
  have hjl := (List.getElem?_eq_some_iff.1 hj).1
  rw [Nat.zero_add]
  exact ⟨by rw [h.cellAt (j * 2) (by omega), g0], by rw [h.cellAt (j * 2 + 1) (by omega), g1]⟩

theorem info_span : (Try.prog.info? 37).map (fun i => (i.zero, i.size, i.bytes)) = some (some (.agg #[.int .i64 0, .int .i64 0]), 2, 16) := by kernel_rfl

/-- What is returned is a box of the call's own. -/
def GivesSpans (w : World) (l : List (Int × Int)) (e : Ending) (w' : World) : Prop :=
  ∃ g c, e = .returned (.slice (some ⟨g, 0, none⟩) l.length c) ∧ w.heap.size ≤ g ∧ RS w' w'.heap.size (some ⟨g, 0, none⟩) l ∧ Below w.heap.size w w'

theorem box_any (A : Option Addr) (n c B : Nat) (l : List (Int × Int)) (w : World) (hx : l.length = n) (hn : n ≤ 1000000) (hB : B ≤ w.heap.size) (h : RS w B A l) :
    Calls Try.prog 20 #[.slice A n c] w (GivesSpans w l) := by
  subst hx
  obtain ⟨i0, hi0, hz0, hz1, hz2⟩ := info_parts info_span
  have hown0 : (w.alloc (.cells #[] 37)).ownsRow w.heap.size 37 2 (.slice (some ⟨w.heap.size, 0, none⟩) 0 0) 0 [] := by
    have := World.ownsRow_lit (base := w.heap.size) (e := 37) (size := 2) w #[] 0 (by simp) (le_maxLen (by omega)) (by simp)
    simpa using this
  have hcl := (h.below ((Below.refl _ _).alloc hB (.cells #[] 37))).cells
  go_enter Try.func20, Try.ntmps20
  go_wp2_with (at_builtin; refine wpList_append_all _ rfl _ _ 23 rfl w.heap.size 37 i0 (.agg #[.int .i64 0, .int .i64 0]) 2 16 Try.underlying23 hi0 hz0 hz1 hz2 rfl (by decide) _ 0 [] rfl hown0 A l.length c (spanCells l) rfl (spanCells_len l) hcl (spanCells_one l) ?c1 ?c2 ?c3 _ rfl ?_)
  case c1 => unfold maxLen; omega
  case c2 => omega
  case c3 => simp
  intro v' w1 hown' hgrow _ hnn
  have hb1 : Below w.heap.size w w1 := (show Below w.heap.size w (w.alloc (.cells #[] 37)) by go_grown).grown hgrow (by simp) (fun q hq => by have := (hown0.lt _ hq).1; omega)
  obtain ⟨g, cap, rfl, hg, hrs⟩ := RS.of_own (l := l) hown' rfl hnn
  clear hown' hgrow hnn hown0 hcl
  go_wp2
  go_ret
  exact ⟨g, cap, rfl, hg, hrs, hb1⟩

end Go.Proofs.Ytjdahphnmeaolaa

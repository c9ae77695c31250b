/- Contracts of the functions that the statement reaches: JTab, JHoist, Rb, JWinch, JCar, JFirst, JDeep, JDeep2, Rt. -/
import Derived.Test.YtnnmmojlgikdgaaM4

/- check.Spans, check.OnAxis, CheckHoist of both sides, winds. -/
namespace Go.Proofs.Ytnnmmojlgikdgaa
open Go.RowKit

/-- A value that reads as a list of spans. -/
def QS (l : List (Int × Int)) (v : Value) (W : World) : Prop := ∃ A c, v = .slice A l.length c ∧ RS W W.heap.size A l
theorem QS.stay {l : List (Int × Int)} {v : Value} {W W' : World} (h : QS l v W) (hb : Below W.heap.size W W') : QS l v W' := by
  obtain ⟨A, c, e, h⟩ := h
  exact ⟨A, c, e, (h.below hb).more hb.size⟩
theorem chkE_one (p : Int × Int) : chkE [p] = if vS p then 0 else 10 := by
  unfold chkE chkB
  simp

set_option maxRecDepth 100000 in
theorem checkSpans_any (A : Option Addr) (n c B : Nat) (l : List (Int × Int)) (w : World) (hx : l.length = n) (hn : n ≤ maxLen) (hB : B ≤ w.heap.size) (h : RS w B A l) :
    Calls Try.prog 59 #[.slice A n c] w fun e w' => e = .returned (.bool (l.all vS)) ∧ Below w.heap.size w w' := by
  subst hx
  unfold maxLen at hn
  go_enter Try.func59, Try.ntmps59
  go_wp2
  go_loopw [7] (fun i wr => ∃ k : Nat, k ≤ l.length ∧ i = .int .i64 k ∧ (l.take k).all vS = true ∧ Below w.heap.size w wr) (fun i _ => l.length - (intOf i).toNat)
  case atStart => exact ⟨0, Nat.zero_le _, rfl, by simp, Below.refl _ _⟩
  case round =>
    obtain ⟨k, hk, rfl, hw, hbw⟩ := hrel
    have hsz := hbw.size
    by_cases hlt : k < l.length
    · obtain ⟨b, off, x, rfl, hb, hx, hc1, hc2⟩ := ((h.more hB).below hbw).at_ hlt
      have hb' : b < wr.heap.size := by omega
      obtain ⟨x1, x2⟩ := x
      simp only at hc1 hc2
      have HX := Lib.hid hx
      have HW := Lib.hid hw
      have HBW := Lib.hid hbw
      clear hx hw hbw
      have HC := Lib.hid (fun (W : World) (g : Nat) (hg : g < W.heap.size) (hr : RS W (g + 1) (some ⟨g, 0, none⟩) [(x1, x2)]) => check_any (some ⟨g, 0, none⟩) 1 1 (g + 1) [(x1, x2)] W rfl (le_maxLen (by omega)) hg hr)
      rw [chkE_one] at HC
      cases hv : vS (x1, x2) with
      | false =>
        have HV := Lib.hid (vS_bad HX.out hv)
        rw [hv] at HC
        simp only [Bool.false_eq_true, if_false] at HC
        clear hv
        go_wp2_with (go_at_call 97; refine Calls.mono (HC.out _ _ (by simp) (RS.new1 (by simp))) ?_; rintro e w1 ⟨rfl, hb1⟩; have HB1 := Lib.hid hb1; clear hb1)
        go_ret
        exact ⟨ret_bool HV.out.symm, (Below.trans (by exact HBW.out) (Below.trans (show Below wr.heap.size wr _ by go_grown) (HB1.out.mono (by simp <;> omega)) |>.mono hsz))⟩
      | true =>
        have HV := Lib.hid (show (l.take (k + 1)).all vS = true by rw [vS_step HX.out, HW.out, hv]; rfl)
        rw [hv] at HC
        simp only [if_true] at HC
        clear hv
        go_wp2_with (go_at_call 97; refine Calls.mono (HC.out _ _ (by simp) (RS.new1 (by simp))) ?_; rintro e w1 ⟨rfl, hb1⟩; have HB1 := Lib.hid hb1; clear hb1)
        go_roundw
        case rel => exact ⟨k + 1, by omega, by go_num, HV.out, (Below.trans (by exact HBW.out) (Below.trans (show Below wr.heap.size wr _ by go_grown) (HB1.out.mono (by simp <;> omega)) |>.mono hsz))⟩
        case measure => simp [intOf]; omega
    · go_wp2
      go_ret
      exact ⟨ret_bool (by rw [← hw, List.take_of_length_le (by omega)]), hbw⟩

/-- check.OnAxis. -/
def osB (X : List Int) (p : Int × Int) : Bool := onB X [p.1, p.2]
theorem osB_bad {X : List Int} {l : List (Int × Int)} {k : Nat} {p : Int × Int} (hx : l[k]? = some p) (h : osB X p = false) : l.all (osB X) = false := by
  rw [List.all_eq_false]
  obtain ⟨hk, e⟩ := List.getElem?_eq_some_iff.1 hx
  exact ⟨_, List.getElem_mem hk, by rw [e, h]; simp⟩
theorem osB_step {X : List Int} {l : List (Int × Int)} {k : Nat} {x : Int × Int} (hx : l[k]? = some x) : (l.take (k + 1)).all (osB X) = ((l.take k).all (osB X) && osB X x) := by
  rw [List.take_add_one, hx]
  simp

set_option maxRecDepth 100000 in
set_option maxHeartbeats 1000000 in
theorem onAxis2_any (A' A : Option Addr) (m c' n c B : Nat) (X : List Int) (l : List (Int × Int)) (w : World) (hX : X.length = m) (hm : 1 ≤ m ∧ m ≤ 1000000) (hx : l.length = n) (hn : n ≤ maxLen) (hB : B ≤ w.heap.size) (hr : RI w B A' X) (h : RS w B A l) :
    Calls Try.prog 109 #[.slice A' m c', .slice A n c] w fun e w' => e = .returned (.bool (l.all (osB X))) ∧ Below w.heap.size w w' := by
  subst hx
  unfold maxLen at hn
  obtain ⟨m1, m2⟩ := hm
  obtain ⟨bx, ox, x0, rfl, hbx, hx0, cx0⟩ := hr.at_ (k := 0) (by omega)
  obtain ⟨bx', ox', xl, hA, hbx', hxl, cxl⟩ := hr.at_ (k := m - 1) (by omega)
  obtain ⟨rfl, rfl⟩ : bx = bx' ∧ ox = ox' := by simpa using hA
  have HOS := Lib.hid (fun p : Int × Int => show osB X p = wB x0 xl [p.1, p.2] by unfold osB onB; rw [hx0, hX, hxl]; rfl)
  clear hr hx0 hxl hX hA
  rw [Nat.add_zero] at cx0
  go_enter Try.func109, Try.ntmps109
  go_wp2
  go_loopw [9] (fun i wr => ∃ k : Nat, k ≤ l.length ∧ i = .int .i64 k ∧ (l.take k).all (osB X) = true ∧ Below w.heap.size w wr) (fun i _ => l.length - (intOf i).toNat)
  case atStart => exact ⟨0, Nat.zero_le _, rfl, by simp, Below.refl _ _⟩
  case round =>
    obtain ⟨k, hk, rfl, hw, hbw⟩ := hrel
    have hsz := hbw.size
    by_cases hlt : k < l.length
    · obtain ⟨b, off, x, rfl, hb, hx, hc1, hc2⟩ := ((h.more hB).below hbw).at_ hlt
      have hb' : b < wr.heap.size := by omega
      obtain ⟨x1, x2⟩ := x
      simp only at hc1 hc2
      have a0 := cell_keep hbw cx0
      have al := cell_keep hbw cxl
      have hbxr : bx < wr.heap.size := by omega
      have HX := Lib.hid hx
      have HW := Lib.hid hw
      have HBW := Lib.hid hbw
      clear hx hw hbw
      go_upto_region 4 with (fail)
      have s0 : (wr.alloc (.cells #[.int .i64 x1, .int .i64 x2] 27)).cell? ⟨wr.heap.size, 0, none⟩ = some (.int .i64 x1) := by rw [cell_newest]; rfl
      have s1 : (wr.alloc (.cells #[.int .i64 x1, .int .i64 x2] 27)).cell? ⟨wr.heap.size, 1, none⟩ = some (.int .i64 x2) := by rw [cell_newest]; rfl
      generalize hbv : wB x0 xl [x1, x2] = bv at *
      have HBV := Lib.hid hbv
      have HB0 := Lib.hid (show Below w.heap.size w (wr.alloc (.cells #[.int .i64 x1, .int .i64 x2] 27)) from HBW.out.alloc hsz _)
      have b0 := cell_keep ((Below.refl wr.heap.size wr).alloc (Nat.le_refl _) (.cells #[.int .i64 x1, .int .i64 x2] 27)) a0
      have bl := cell_keep ((Below.refl wr.heap.size wr).alloc (Nat.le_refl _) (.cells #[.int .i64 x1, .int .i64 x2] 27)) al
      clear hbv a0 al hc1 hc2
      generalize wr.heap.size = g at *
      generalize wr.alloc _ = w0 at *
      have i1 : IntKind.i64.wrap ((m : Int) - 1) = (m : Int) - 1 := IntWalk.i64_in _ (by omega)
      have i2 : ((m : Int) - 1).toNat = m - 1 := by omega
      have i3 : (0 : Int) ≤ (m : Int) - 1 := by omega
      have i4 : (m : Int) - 1 < (m : Int) := by omega
      have i5 : (1 : Int) ≤ (m : Int) := by omega
      have i6 : (0 : Int) < (m : Int) := by omega
      have i7 : 0 < m := by omega
      obtain ⟨Q, hQ⟩ : ∃ q9 : Nat → Value → World → Prop, q9 = QG [some (.slice (some ⟨bx, ox, none⟩) m c'), some (.pointer (some ⟨bx, ox, none⟩)), some (.int .i64 x0), some (.slice (some ⟨bx, ox, none⟩) m c'), some (.slice (some ⟨bx, ox, none⟩) m c'), some (.int .i64 ((m : Int))), some (.int .i64 ((m : Int) - 1)), some (.pointer (some ⟨bx, ox + (m - 1), none⟩)), some (.int .i64 xl), some (.pointer (some ⟨g, 0, none⟩)), some (.int .i64 x1), some (.pointer (some ⟨g, 1, none⟩)), some (.int .i64 x2), none, some (.bool bv), some (.bool (!bv))] (fun j0' v0' w0' => (j0' = 13 → QI [x1, x2] v0' w0')) := ⟨_, rfl⟩
      have hst : Stays Q := by rw [hQ]; exact QG.stays (fun j v W W' h hb => fun e => (h e).stay hb)
      have U13 := Lib.hid (show ∀ v0' w0', Q 13 v0' w0' ↔ QI [x1, x2] v0' w0' from fun v0' w0' => by rw [hQ]; exact ⟨fun h => h rfl, fun h => fun _ => h⟩)
      have HQ := Lib.hid hQ
      clear hQ
      refine wpIn_wide.1 (region_inv2 (n := 9) (by kernel_rfl) (RQ Q w0) (by kernel_rfl) rfl (RQ.start _ _ _) ?hstep ?hend)
      case hstep =>
        intro i' o ho val L b' x hF hR hpre hl
        match i', ho with
        | 0, ho =>
          simp at ho; subst ho; refine step_plain rfl ?_; have e0 := hF.was 0 (by kernel_rfl) rfl; have hgoal := hR.go hst HQ 0 rfl; clear hF hpre hl hR; go_simp; exact ⟨_, rfl, hgoal _ _ (Below.refl _ _) rfl⟩
        | 1, ho =>
          simp at ho; subst ho; refine step_plain rfl ?_; have e13 := hF.gv hR.2 HQ 0 rfl (hpre ⟨0, .data⟩ (by simp) rfl) rfl; have hgoal := hR.go hst HQ 1 rfl; clear hF hpre hl hR; go_simp; exact ⟨_, rfl, hgoal _ _ (Below.refl _ _) rfl⟩
        | 2, ho =>
          simp at ho; subst ho; refine step_plain rfl ?_; have e14 := hF.gv hR.2 HQ 1 rfl (hpre ⟨1, .data⟩ (by simp) rfl) rfl; have hgoal := hR.go hst HQ 2 rfl; have q0 := cell_keep hR.1 b0; clear hF hpre hl hR; go_simp; exact ⟨_, rfl, hgoal _ _ (Below.refl _ _) rfl⟩
        | 3, ho =>
          simp at ho; subst ho; refine step_plain rfl ?_; have e0 := hF.was 0 (by kernel_rfl) rfl; have hgoal := hR.go hst HQ 3 rfl; clear hF hpre hl hR; go_simp; exact ⟨_, rfl, hgoal _ _ (Below.refl _ _) rfl⟩
        | 4, ho =>
          simp at ho; subst ho; refine step_plain rfl ?_; have e0 := hF.was 0 (by kernel_rfl) rfl; have hgoal := hR.go hst HQ 4 rfl; clear hF hpre hl hR; go_simp; exact ⟨_, rfl, hgoal _ _ (Below.refl _ _) rfl⟩
        | 5, ho =>
          simp at ho; subst ho; refine step_plain rfl ?_; have e17 := hF.gv hR.2 HQ 4 rfl (hpre ⟨4, .data⟩ (by simp) rfl) rfl; have hgoal := hR.go hst HQ 5 rfl; clear hF hpre hl hR; go_simp; exact ⟨_, rfl, hgoal _ _ (Below.refl _ _) rfl⟩
        | 6, ho =>
          simp at ho; subst ho; refine step_plain rfl ?_; have e18 := hF.gv hR.2 HQ 5 rfl (hpre ⟨5, .data⟩ (by simp) rfl) rfl; have hgoal := hR.go hst HQ 6 rfl; clear hF hpre hl hR; go_simp; exact ⟨_, rfl, hgoal _ _ (Below.refl _ _) rfl⟩
        | 7, ho =>
          simp at ho; subst ho; refine step_plain rfl ?_; have e16 := hF.gv hR.2 HQ 3 rfl (hpre ⟨3, .data⟩ (by simp) rfl) rfl; have e19 := hF.gv hR.2 HQ 6 rfl (hpre ⟨6, .data⟩ (by simp) rfl) rfl; have hgoal := hR.go hst HQ 7 rfl; clear hF hpre hl hR; go_simp; exact ⟨_, rfl, hgoal _ _ (Below.refl _ _) rfl⟩
        | 8, ho =>
          simp at ho; subst ho; refine step_plain rfl ?_; have e20 := hF.gv hR.2 HQ 7 rfl (hpre ⟨7, .data⟩ (by simp) rfl) rfl; have hgoal := hR.go hst HQ 8 rfl; have q0 := cell_keep hR.1 bl; clear hF hpre hl hR; go_simp; exact ⟨_, rfl, hgoal _ _ (Below.refl _ _) rfl⟩
        | 9, ho =>
          simp at ho; subst ho; refine step_plain rfl ?_; have e6 := hF.was 6 (by kernel_rfl) rfl; have hgoal := hR.go hst HQ 9 rfl; clear hF hpre hl hR; go_simp; exact ⟨_, rfl, hgoal _ _ (Below.refl _ _) rfl⟩
        | 10, ho =>
          simp at ho; subst ho; refine step_plain rfl ?_; have e22 := hF.gv hR.2 HQ 9 rfl (hpre ⟨9, .data⟩ (by simp) rfl) rfl; have hgoal := hR.go hst HQ 10 rfl; have q0 := cell_keep hR.1 s0; clear hF hpre hl hR; go_simp; exact ⟨_, rfl, hgoal _ _ (Below.refl _ _) rfl⟩
        | 11, ho =>
          simp at ho; subst ho; refine step_plain rfl ?_; have e6 := hF.was 6 (by kernel_rfl) rfl; have hgoal := hR.go hst HQ 11 rfl; clear hF hpre hl hR; go_simp; exact ⟨_, rfl, hgoal _ _ (Below.refl _ _) rfl⟩
        | 12, ho =>
          simp at ho; subst ho; refine step_plain rfl ?_; have e24 := hF.gv hR.2 HQ 11 rfl (hpre ⟨11, .data⟩ (by simp) rfl) rfl; have hgoal := hR.go hst HQ 12 rfl; have q0 := cell_keep hR.1 s1; clear hF hpre hl hR; go_simp; exact ⟨_, rfl, hgoal _ _ (Below.refl _ _) rfl⟩
        | 13, ho =>
          simp at ho; subst ho; refine step_plain rfl ?_; have e23 := hF.gv hR.2 HQ 10 rfl (hpre ⟨10, .data⟩ (by simp) rfl) rfl; have e25 := hF.gv hR.2 HQ 12 rfl (hpre ⟨12, .data⟩ (by simp) rfl) rfl
          have hgoal : ∀ v0' w0', Below x.heap.size x w0' → QI [x1, x2] v0' w0' → RQ Q w0 (upd val 13 v0') (L.setIfInBounds 13 true) w0' := fun v0' w0' hb hq => hR.step hst hb ((U13.out _ _).2 hq)
          have hM := Lib.hid hR.1
          clear hF hpre hl hR; go_simp; exact ⟨_, rfl, hgoal _ _ ((Below.refl _ _).alloc (Nat.le_refl _) _) ⟨_, _, rfl, Nat.le_refl _, (RI.new2 rfl).more (by simp)⟩⟩
        | 14, ho =>
          simp at ho; subst ho; refine step_plain rfl ?_; have e15 := hF.gv hR.2 HQ 2 rfl (hpre ⟨2, .data⟩ (by simp) rfl) rfl; have e21 := hF.gv hR.2 HQ 8 rfl (hpre ⟨8, .data⟩ (by simp) rfl) rfl; have e26 := hF.gave 13 rfl (hpre ⟨13, .data⟩ (by simp) rfl) rfl
          have v13 := (U13.out _ _).1 (hR.2 13 (hpre ⟨13, .data⟩ (by simp) rfl))
          have hgoal := hR.go hst HQ 14 rfl
          have hM := Lib.hid hR.1
          clear hF hpre hl hR
          obtain ⟨A9, c9, h9, _, hr9⟩ := v13
          rw [h9] at e26
          go_simp
          refine ⟨trivial, ?_⟩
          refine CallsIn.mono (callsIn_wide.2 (within_any x0 xl A9 2 c9 _ [x1, x2] _ rfl (le_maxLen (by omega)) hr9)) ?_
          rintro e w9 ⟨rfl, rfl⟩
          exact ⟨_, rfl, hgoal _ _ (Below.refl _ _) (by rw [HBV.out])⟩
        | 15, ho =>
          simp at ho; subst ho; refine step_plain rfl ?_; have e27 := hF.gv hR.2 HQ 14 rfl (hpre ⟨14, .data⟩ (by simp) rfl) rfl; have hgoal := hR.go hst HQ 15 rfl; clear hF hpre hl hR; go_simp; exact ⟨_, rfl, hgoal _ _ (Below.refl _ _) rfl⟩
        | i + 16, ho => simp at ho
      case hend =>
        intro val L b' x hF hall hR
        have e := hF.all (by kernel_rfl) hall
        have k15 := QG.val HQ rfl (hR.2 15 (hall 15 (by decide)))
        have hB := Lib.hid hR.1
        clear hF hall hR hst HQ U13
        subst e
        simp [final, dstOf, List.range, List.range.loop]
        rw [k15]
        have HBX := Lib.hid (HB0.out.trans (hB.out.mono HB0.out.size))
        cases bv with
        | false =>
          go_wp2
          go_ret
          exact ⟨ret_bool (osB_bad HX.out (by rw [HOS.out]; exact HBV.out)).symm, HBX.out⟩
        | true =>
          go_wp2
          go_roundw
          case rel => exact ⟨k + 1, by omega, by go_num, by rw [osB_step HX.out, HW.out, HOS.out, HBV.out]; rfl, HBX.out⟩
          case measure => simp [intOf]; omega
    · go_wp2
      go_ret
      exact ⟨ret_bool (by rw [← hw, List.take_of_length_le (by omega)]), hbw⟩
end Go.Proofs.Ytnnmmojlgikdgaa

/- CheckHoist of both sides, winds. -/
namespace Go.Proofs.Ytnnmmojlgikdgaa
open Go.RowKit

theorem wB_one (lo hi x : Int) : wB lo hi [x] = decide (lo ≤ x ∧ x ≤ hi) := by
  unfold wB
  simp
theorem w7_yes {a b c : Int} (h1 : b ≤ a) (h2 : a ≤ c) (w : World) : Calls Try.prog 50 #[.int .i64 a, .int .i64 b, .int .i64 c] w fun e w' => e = .returned (.bool true) ∧ w = w' := by
  go_enter Try.func50, Try.ntmps50
  go_wp2
  go_ret
  exact ⟨rfl, rfl⟩
theorem w7_no {a b c : Int} (h : ¬ (b ≤ a ∧ a ≤ c)) (w : World) : Calls Try.prog 50 #[.int .i64 a, .int .i64 b, .int .i64 c] w fun e w' => e = .returned (.bool false) ∧ w = w' := by
  by_cases h1 : b ≤ a
  · have h2 : ¬ a ≤ c := fun h2 => h ⟨h1, h2⟩
    clear h
    go_enter Try.func50, Try.ntmps50
    go_wp2
    go_ret
    exact ⟨rfl, rfl⟩
  · clear h
    go_enter Try.func50, Try.ntmps50
    go_wp2
    go_ret
    exact ⟨rfl, rfl⟩
theorem w7_any (a b c : Int) (w : World) : Calls Try.prog 50 #[.int .i64 a, .int .i64 b, .int .i64 c] w fun e w' => e = .returned (.bool (decide (b ≤ a ∧ a ≤ c))) ∧ w = w' := by
  by_cases h : b ≤ a ∧ a ≤ c
  · rw [decide_eq_true h]; exact w7_yes h.1 h.2 w
  · rw [decide_eq_false h]; exact w7_no h w

theorem hoE_no {X Y : List Int} {V : List (List Int)} {cable charge : Int} (h : hoB X Y V cable charge = false) : hoE X Y V cable charge = 71 := by unfold hoE; rw [h]; rfl
theorem hoE_yes {X Y : List Int} {V : List (List Int)} {cable charge : Int} (h : hoB X Y V cable charge = true) : hoE X Y V cable charge = 0 := by unfold hoE; rw [h]; rfl

/-- A table whose cells lie below B. -/
structure HT (w : World) (B : Nat) (AX AY AV : Option Addr) (nx ny nv : Nat) (X Y : List Int) (V : List (List Int)) : Prop where
  hx : X.length = nx
  hy : Y.length = ny
  hv : V.length = nv
  mx : nx ≤ maxLen
  my : ny ≤ maxLen
  mv : nv ≤ maxLen
  mr : ∀ r ∈ V, r.length ≤ maxLen
  tb : TB w B AX AY AV X Y V
  hB : B ≤ w.heap.size
theorem HT.below {w W : World} {B : Nat} {AX AY AV : Option Addr} {nx ny nv : Nat} {X Y : List Int} {V : List (List Int)} (h : HT w B AX AY AV nx ny nv X Y V) (hW : Below w.heap.size w W) : HT W B AX AY AV nx ny nv X Y V :=
  ⟨h.hx, h.hy, h.hv, h.mx, h.my, h.mv, h.mr, h.tb.below (hW.mono h.hB), by have := hW.size; have := h.hB; omega⟩

theorem keepA {W w1 : World} {x : Obj} (hb : Below (W.alloc x).heap.size (W.alloc x) w1) {b o : Nat} {v : Value} (h : W.cell? ⟨b, o, none⟩ = some v) : w1.cell? ⟨b, o, none⟩ = some v :=
  cell_keep hb (cell_keep ((Below.refl _ _).alloc (Nat.le_refl _) _) h)
/-- A hoist in a box. -/
structure HB (W : World) (g : Nat) (cable : Int) (AX : Option Addr) (nx cx : Nat) (AY : Option Addr) (ny cy : Nat) (AV : Option Addr) (nv cv : Nat) (charge : Int) : Prop where
  h0 : W.cell? ⟨g, 0, none⟩ = some (.int .i64 cable)
  h1 : W.cell? ⟨g, 1, none⟩ = some (.slice AX nx cx)
  h2 : W.cell? ⟨g, 2, none⟩ = some (.slice AY ny cy)
  h3 : W.cell? ⟨g, 3, none⟩ = some (.slice AV nv cv)
  h4 : W.cell? ⟨g, 4, none⟩ = some (.int .i64 charge)
section
variable {W W' : World} {g : Nat} {cable charge : Int} {AX AY AV : Option Addr} {nx cx ny cy nv cv : Nat}
theorem HB.keep (h : HB W g cable AX nx cx AY ny cy AV nv cv charge) (hb : Below W.heap.size W W') : HB W' g cable AX nx cx AY ny cy AV nv cv charge :=
  ⟨cell_keep hb h.h0, cell_keep hb h.h1, cell_keep hb h.h2, cell_keep hb h.h3, cell_keep hb h.h4⟩
theorem HB.keepA {x : Obj} (h : HB W g cable AX nx cx AY ny cy AV nv cv charge) (hb : Below (W.alloc x).heap.size (W.alloc x) W') : HB W' g cable AX nx cx AY ny cy AV nv cv charge :=
  (h.keep ((Below.refl _ _).alloc (Nat.le_refl _) _)).keep hb
theorem HB.new (w : World) (T : TypeId) : HB (w.alloc (.cells #[.int .i64 cable, .slice AX nx cx, .slice AY ny cy, .slice AV nv cv, .int .i64 charge] T)) w.heap.size cable AX nx cx AY ny cy AV nv cv charge :=
  ⟨by rw [cell_newest]; rfl, by rw [cell_newest]; rfl, by rw [cell_newest]; rfl, by rw [cell_newest]; rfl, by rw [cell_newest]; rfl⟩
theorem HB.lt (h : HB W g cable AX nx cx AY ny cy AV nv cv charge) : g < W.heap.size := World.block_lt_of_cell? W _ h.h0
end

set_option maxRecDepth 100000 in
set_option maxHeartbeats 1000000 in
theorem checkHoist_any (cable charge : Int) (AX AY AV : Option Addr) (nx cx ny cy nv cv B : Nat) (X Y : List Int) (V : List (List Int)) (w : World) (h : HT w B AX AY AV nx ny nv X Y V) :
    Calls Try.prog 32 #[.agg #[.int .i64 cable, .slice AX nx cx, .slice AY ny cy, .slice AV nv cv, .int .i64 charge]] w fun e w' => e = .returned (.int .i64 (hoE X Y V cable charge)) ∧ Below w.heap.size w w' := by
  have HC := Lib.hid (fun (W : World) (hW : Below w.heap.size w W) => have h' := h.below hW; checkTable_any AX AY AV nx cx ny cy nv cv B X Y V W h'.hx h'.hy h'.hv h'.mx h'.my h'.mv h'.mr h'.hB h'.tb)
  by_cases g1 : 1 ≤ cable ∧ cable ≤ 100
  · have G1 := Lib.hid (show wB 1 100 [cable] = true by rw [wB_one]; simp [g1])
    cases hct : ctB X Y V with
    | false =>
      rw [ctE_no hct] at HC
      rw [hoE_no (by unfold hoB; simp [hct])]
      clear h hct
      go_enter Try.func32, Try.ntmps32
      go_wp2_with (first
        | (go_at_call 49; refine (within_any 1 100 _ 1 _ _ [cable] _ rfl (le_maxLen (by omega)) (RI.new1 (by simp))).mono ?_; rintro e w2 ⟨rfl, rfl⟩; rw [G1.out])
        | (go_at_call 74; refine Calls.mono (HC.out _ (by go_grown)) ?_; rintro e w3 ⟨rfl, hb3⟩; have HB3 := Lib.hid (Below.trans (show Below w.heap.size w _ by go_grown) (hb3.mono (by simp <;> omega))); clear hb3))
      go_ret
      exact ⟨rfl, HB3.out⟩
    | true =>
      rw [ctE_yes hct] at HC
      by_cases g3 : 0 ≤ charge ∧ charge ≤ 100
      · have G3 := Lib.hid (show wB 0 100 [charge] = true by rw [wB_one]; simp [g3])
        obtain ⟨l1, l2, _, _⟩ := ctB_len hct
        have hx := h.hx
        have hB := h.hB
        obtain ⟨bx, ox, x0, rfl, hbx, hx0, cx0⟩ := h.tb.x.at_ (k := 0) (by omega)
        obtain ⟨bx', ox', xl, hA, hbx', hxl, cxl⟩ := h.tb.x.at_ (k := nx - 1) (by omega)
        obtain ⟨rfl, rfl⟩ : bx = bx' ∧ ox = ox' := by simpa using hA
        have HE := Lib.hid (show hoB X Y V cable charge = (decide (x0 ≤ 0) && decide (cable ≤ xl)) by unfold hoB; rw [gz_of hx0, hx, gz_of hxl]; simp [g1, g3, hct])
        rw [Nat.add_zero] at cx0
        have HX0 := Lib.hid cx0
        have HXL := Lib.hid cxl
        have HS := Lib.hid (HB.new (cable := cable) (AX := some ⟨bx, ox, none⟩) (nx := nx) (cx := cx) (AY := AY) (ny := ny) (cy := cy) (AV := AV) (nv := nv) (cv := cv) (charge := charge) w 57)
        have n1 : 2 ≤ nx := by omega
        have n2 : nx ≤ 12 := by omega
        clear h hct hx0 hxl hA cx0 cxl hx l1 l2
        go_enter Try.func32, Try.ntmps32
        go_upto_region 4 with (first
          | (go_at_call_of 49 (Value.int .i64 1); refine (within_any 1 100 _ 1 _ _ [cable] _ rfl (le_maxLen (by omega)) (RI.new1 (by simp))).mono ?_; rintro e w2 ⟨rfl, rfl⟩; rw [G1.out])
          | (go_at_call 74; refine Calls.mono (HC.out _ (by go_grown)) ?_; rintro e w3 ⟨rfl, hb3⟩; have S3 := HS.out.keepA hb3; have L3 := S3.lt; obtain ⟨r0, r1, r2, r3, r4⟩ := S3; have HB3 := Lib.hid (Below.trans (show Below w.heap.size w _ by go_grown) (hb3.mono (by simp <;> omega))); clear hb3)
          | (go_at_call 49; refine (within_any 0 100 _ 1 _ _ [charge] _ rfl (le_maxLen (by omega)) (RI.new1 (by simp))).mono ?_; rintro e w4 ⟨rfl, rfl⟩; rw [G3.out]))
        have HB4 := Lib.hid (HB3.out.alloc HB3.out.size (.cells #[.int .i64 charge] 3))
        have S4 := (HB.mk r0 r1 r2 r3 r4).keep ((Below.refl w3.heap.size w3).alloc (Nat.le_refl _) (.cells #[.int .i64 charge] 3))
        have c0 := cell_keep HB4.out HX0.out
        have cl := cell_keep HB4.out HXL.out
        obtain ⟨s0, s1, s2, s3, s4⟩ := S4
        clear r0 r1 r2 r3 r4 HC HS HX0 HXL G1 G3
        generalize w3.alloc _ = w4 at *
        have i1 : IntKind.i64.wrap ((nx : Int) - 1) = (nx : Int) - 1 := IntWalk.i64_in _ (by omega)
        have i2 : ((nx : Int) - 1).toNat = nx - 1 := by omega
        have i3 : (0 : Int) ≤ (nx : Int) - 1 := by omega
        have i4 : (nx : Int) - 1 < (nx : Int) := by omega
        have i5 : (1 : Int) ≤ (nx : Int) := by omega
        have i7 : 0 < nx := by omega
        by_cases h1 : x0 ≤ 0
        · have d1 : decide (0 < x0) = false := by simp; omega
          by_cases h2 : cable ≤ xl
          · have d2 : decide (xl < cable) = false := by simp; omega
            have HE2 := Lib.hid (hoE_yes (show hoB X Y V cable charge = true by rw [HE.out]; simp [h1, h2]))
            clear h1 h2
            go_quiet (fail)
            go_wp2
            go_ret
            exact ⟨ret_int HE2.out.symm, below_drewN HB4.out _⟩
          · have d2 : decide (xl < cable) = true := by simp; omega
            have HE2 := Lib.hid (hoE_no (show hoB X Y V cable charge = false by rw [HE.out]; simp [h2]))
            clear h1 h2
            go_quiet (fail)
            go_wp2
            go_ret
            exact ⟨ret_int HE2.out.symm, below_drewN HB4.out _⟩
        · have d1 : decide (0 < x0) = true := by simp; omega
          have HE2 := Lib.hid (hoE_no (show hoB X Y V cable charge = false by rw [HE.out]; simp [h1]))
          clear h1
          go_quiet (fail)
          go_wp2
          go_ret
          exact ⟨ret_int HE2.out.symm, below_drewN HB4.out _⟩
      · have G3 := Lib.hid (show wB 0 100 [charge] = false by rw [wB_one]; simpa using g3)
        rw [hoE_no (by unfold hoB; simp; intro _ _ h; omega)]
        have HS := Lib.hid (HB.new (cable := cable) (AX := AX) (nx := nx) (cx := cx) (AY := AY) (ny := ny) (cy := cy) (AV := AV) (nv := nv) (cv := cv) (charge := charge) w 57)
        clear h hct g3
        go_enter Try.func32, Try.ntmps32
        go_wp2_with (first
          | (go_at_call_of 49 (Value.int .i64 1); refine (within_any 1 100 _ 1 _ _ [cable] _ rfl (le_maxLen (by omega)) (RI.new1 (by simp))).mono ?_; rintro e w2 ⟨rfl, rfl⟩; rw [G1.out])
          | (go_at_call 74; refine Calls.mono (HC.out _ (by go_grown)) ?_; rintro e w3 ⟨rfl, hb3⟩; have S3 := HS.out.keepA hb3; have L3 := S3.lt; obtain ⟨r0, r1, r2, r3, r4⟩ := S3; have HB3 := Lib.hid (Below.trans (show Below w.heap.size w _ by go_grown) (hb3.mono (by simp <;> omega))); clear hb3)
          | (go_at_call 49; refine (within_any 0 100 _ 1 _ _ [charge] _ rfl (le_maxLen (by omega)) (RI.new1 (by simp))).mono ?_; rintro e w4 ⟨rfl, rfl⟩; rw [G3.out]))
        go_ret
        exact ⟨rfl, HB3.out.alloc HB3.out.size _⟩
  · have G1 := Lib.hid (show wB 1 100 [cable] = false by rw [wB_one]; simpa using g1)
    rw [hoE_no (by unfold hoB; simp; intro h; omega)]
    clear h g1
    go_enter Try.func32, Try.ntmps32
    go_wp2_with (go_at_call 49; refine (within_any 1 100 _ 1 _ _ [cable] _ rfl (le_maxLen (by omega)) (RI.new1 (by simp))).mono ?_; rintro e w2 ⟨rfl, rfl⟩; rw [G1.out])
    go_ret
    exact ⟨rfl, by go_grown⟩

set_option maxRecDepth 100000 in
set_option maxHeartbeats 1000000 in
theorem rcheckHoist_any (cable charge : Int) (AX AY AV : Option Addr) (nx cx ny cy nv cv B : Nat) (X Y : List Int) (V : List (List Int)) (w : World) (h : HT w B AX AY AV nx ny nv X Y V) :
    Calls Try.prog 33 #[.agg #[.int .i64 cable, .slice AX nx cx, .slice AY ny cy, .slice AV nv cv, .int .i64 charge]] w fun e w' => e = .returned (.int .i64 (hoE X Y V cable charge)) ∧ Below w.heap.size w w' := by
  have HC := Lib.hid (fun (W : World) (hW : Below w.heap.size w W) => have h' := h.below hW; rct_any AX AY AV nx cx ny cy nv cv B X Y V W h'.hx h'.hy h'.hv h'.mx h'.my h'.mv h'.mr h'.hB h'.tb)
  by_cases g1 : 1 ≤ cable ∧ cable ≤ 100
  · have G1 := Lib.hid (fun W => w7_yes g1.1 g1.2 W)
    by_cases g3 : 0 ≤ charge ∧ charge ≤ 100
    · have G3 := Lib.hid (fun W => w7_yes g3.1 g3.2 W)
      have HS := Lib.hid (HB.new (cable := cable) (AX := AX) (nx := nx) (cx := cx) (AY := AY) (ny := ny) (cy := cy) (AV := AV) (nv := nv) (cv := cv) (charge := charge) w 57)
      cases hct : ctB X Y V with
      | false =>
        rw [ctE_no hct] at HC
        rw [hoE_no (by unfold hoB; simp [hct])]
        clear h hct
        go_enter Try.func33, Try.ntmps33
        go_wp2_with (first
          | (go_at_call_of 50 (Value.int .i64 1); refine Calls.mono (G1.out _) ?_; rintro e w2 ⟨rfl, rfl⟩)
          | (go_at_call 50; refine Calls.mono (G3.out _) ?_; rintro e w2 ⟨rfl, rfl⟩)
          | (go_at_call 75; refine Calls.mono (HC.out _ (by go_grown)) ?_; rintro e w3 ⟨rfl, hb3⟩; have HB3 := Lib.hid (Below.trans (show Below w.heap.size w _ by go_grown) (hb3.mono (by simp <;> omega))); clear hb3))
        go_ret
        exact ⟨rfl, HB3.out⟩
      | true =>
        rw [ctE_yes hct] at HC
        obtain ⟨l1, l2, _, _⟩ := ctB_len hct
        have hx := h.hx
        have hB := h.hB
        obtain ⟨bx, ox, x0, rfl, hbx, hx0, cx0⟩ := h.tb.x.at_ (k := 0) (by omega)
        obtain ⟨bx', ox', xl, hA, hbx', hxl, cxl⟩ := h.tb.x.at_ (k := nx - 1) (by omega)
        obtain ⟨rfl, rfl⟩ : bx = bx' ∧ ox = ox' := by simpa using hA
        have HE := Lib.hid (show hoB X Y V cable charge = (decide (x0 ≤ 0) && decide (cable ≤ xl)) by unfold hoB; rw [gz_of hx0, hx, gz_of hxl]; simp [g1, g3, hct])
        rw [Nat.add_zero] at cx0
        have HX0 := Lib.hid cx0
        have HXL := Lib.hid cxl
        have n1 : 2 ≤ nx := by omega
        have n2 : nx ≤ 12 := by omega
        clear h hct hx0 hxl hA cx0 cxl hx l1 l2
        go_enter Try.func33, Try.ntmps33
        go_upto_region 4 with (first
          | (go_at_call_of 50 (Value.int .i64 1); refine Calls.mono (G1.out _) ?_; rintro e w2 ⟨rfl, rfl⟩)
          | (go_at_call 50; refine Calls.mono (G3.out _) ?_; rintro e w2 ⟨rfl, rfl⟩)
          | (go_at_call 75; refine Calls.mono (HC.out _ (by go_grown)) ?_; rintro e w3 ⟨rfl, hb3⟩; have S3 := HS.out.keep hb3; have L3 := S3.lt; obtain ⟨r0, r1, r2, r3, r4⟩ := S3; have HB3 := Lib.hid (Below.trans (show Below w.heap.size w _ by go_grown) (hb3.mono (by simp <;> omega))); clear hb3))
        have c0 := cell_keep HB3.out HX0.out
        have cl := cell_keep HB3.out HXL.out
        clear HC HS HX0 HXL G1 G3
        have i1 : IntKind.i64.wrap ((nx : Int) - 1) = (nx : Int) - 1 := IntWalk.i64_in _ (by omega)
        have i2 : ((nx : Int) - 1).toNat = nx - 1 := by omega
        have i3 : (0 : Int) ≤ (nx : Int) - 1 := by omega
        have i4 : (nx : Int) - 1 < (nx : Int) := by omega
        have i5 : (1 : Int) ≤ (nx : Int) := by omega
        have i7 : 0 < nx := by omega
        by_cases h1 : x0 ≤ 0
        · have d1 : decide (0 < x0) = false := by simp; omega
          by_cases h2 : cable ≤ xl
          · have d2 : decide (xl < cable) = false := by simp; omega
            have HE2 := Lib.hid (hoE_yes (show hoB X Y V cable charge = true by rw [HE.out]; simp [h1, h2]))
            clear h1 h2
            go_quiet (fail)
            go_wp2
            go_ret
            exact ⟨ret_int HE2.out.symm, below_drewN HB3.out _⟩
          · have d2 : decide (xl < cable) = true := by simp; omega
            have HE2 := Lib.hid (hoE_no (show hoB X Y V cable charge = false by rw [HE.out]; simp [h2]))
            clear h1 h2
            go_quiet (fail)
            go_wp2
            go_ret
            exact ⟨ret_int HE2.out.symm, below_drewN HB3.out _⟩
        · have d1 : decide (0 < x0) = true := by simp; omega
          have HE2 := Lib.hid (hoE_no (show hoB X Y V cable charge = false by rw [HE.out]; simp [h1]))
          clear h1
          go_quiet (fail)
          go_wp2
          go_ret
          exact ⟨ret_int HE2.out.symm, below_drewN HB3.out _⟩
    · have G3 := Lib.hid (fun W => w7_no g3 W)
      rw [hoE_no (by unfold hoB; simp; intro _ _ h; omega)]
      clear h g3
      go_enter Try.func33, Try.ntmps33
      go_wp2_with (first
        | (go_at_call_of 50 (Value.int .i64 1); refine Calls.mono (G1.out _) ?_; rintro e w2 ⟨rfl, rfl⟩)
        | (go_at_call 50; refine Calls.mono (G3.out _) ?_; rintro e w2 ⟨rfl, rfl⟩))
      go_ret
      exact ⟨rfl, by go_grown⟩
  · have G1 := Lib.hid (fun W => w7_no g1 W)
    rw [hoE_no (by unfold hoB; simp; intro h; omega)]
    clear h g1
    go_enter Try.func33, Try.ntmps33
    go_wp2_with (go_at_call 50; refine Calls.mono (G1.out _) ?_; rintro e w2 ⟨rfl, rfl⟩)
    go_ret
    exact ⟨rfl, by go_grown⟩

/-- checkWinch. -/
theorem hwE_no {X Y : List Int} {V : List (List Int)} {cable charge y1 y2 : Int} (h : hoB X Y V cable charge = false) : hwE X Y V cable charge y1 y2 = 71 := by unfold hwE; rw [h]; rfl
theorem hwE_v {X Y : List Int} {V : List (List Int)} {cable charge y1 y2 : Int} (h : hoB X Y V cable charge = true) : hwE X Y V cable charge y1 y2 = if vS (y1, y2) then 0 else 10 := by unfold hwE; rw [h]; rfl
set_option maxRecDepth 100000 in
theorem checkWinch_any (cable charge y1 y2 : Int) (AX AY AV : Option Addr) (nx cx ny cy nv cv B : Nat) (X Y : List Int) (V : List (List Int)) (w : World) (h : HT w B AX AY AV nx ny nv X Y V) :
    Calls Try.prog 76 #[.agg #[.int .i64 cable, .slice AX nx cx, .slice AY ny cy, .slice AV nv cv, .int .i64 charge], .agg #[.int .i64 y1, .int .i64 y2]] w fun e w' => e = .returned (.int .i64 (hwE X Y V cable charge y1 y2)) ∧ Below w.heap.size w w' := by
  have HC := Lib.hid (fun (W : World) (hW : Below w.heap.size w W) => checkHoist_any cable charge AX AY AV nx cx ny cy nv cv B X Y V W (h.below hW))
  have HSP := Lib.hid (fun (W : World) (g : Nat) (hg : g < W.heap.size) (hr : RS W (g + 1) (some ⟨g, 0, none⟩) [(y1, y2)]) => checkSpans_any (some ⟨g, 0, none⟩) 1 1 (g + 1) [(y1, y2)] W rfl (le_maxLen (by omega)) hg hr)
  simp only [List.all_cons, List.all_nil, Bool.and_true] at HSP
  clear h
  have s0 : ((w.alloc (.cells #[.int .i64 cable, .slice AX nx cx, .slice AY ny cy, .slice AV nv cv, .int .i64 charge] 57)).alloc (.cells #[.int .i64 y1, .int .i64 y2] 27)).cell? ⟨w.heap.size + 1, 0, none⟩ = some (.int .i64 y1) := by rw [show w.heap.size + 1 = (w.alloc (.cells #[.int .i64 cable, .slice AX nx cx, .slice AY ny cy, .slice AV nv cv, .int .i64 charge] 57)).heap.size by simp, cell_newest]; rfl
  have s1 : ((w.alloc (.cells #[.int .i64 cable, .slice AX nx cx, .slice AY ny cy, .slice AV nv cv, .int .i64 charge] 57)).alloc (.cells #[.int .i64 y1, .int .i64 y2] 27)).cell? ⟨w.heap.size + 1, 1, none⟩ = some (.int .i64 y2) := by rw [show w.heap.size + 1 = (w.alloc (.cells #[.int .i64 cable, .slice AX nx cx, .slice AY ny cy, .slice AV nv cv, .int .i64 charge] 57)).heap.size by simp, cell_newest]; rfl
  have HS0 := Lib.hid s0
  have HS1 := Lib.hid s1
  clear s0 s1
  cases hh : hoB X Y V cable charge with
  | false =>
    rw [hoE_no hh] at HC
    rw [hwE_no hh]
    clear hh
    go_enter Try.func76, Try.ntmps76
    go_wp2_with (go_at_call 32; refine Calls.mono (HC.out _ (by go_grown)) ?_; rintro e w3 ⟨rfl, hb3⟩; have HB3 := Lib.hid (Below.trans (show Below w.heap.size w _ by go_grown) (hb3.mono (by simp <;> omega))); clear hb3)
    go_ret
    exact ⟨rfl, HB3.out⟩
  | true =>
    rw [hoE_yes hh] at HC
    rw [hwE_v hh]
    clear hh
    generalize vS (y1, y2) = bv at *
    cases bv <;>
    · go_enter Try.func76, Try.ntmps76
      go_wp2_with (first
        | (go_at_call 32; refine Calls.mono (HC.out _ (by go_grown)) ?_; rintro e w3 ⟨rfl, hb3⟩; have r0 := cell_keep hb3 HS0.out; have r1 := cell_keep hb3 HS1.out; have l1 := World.block_lt_of_cell? _ _ r0; have HB3 := Lib.hid (Below.trans (show Below w.heap.size w _ by go_grown) (hb3.mono (by simp <;> omega))); clear hb3)
        | (go_at_call 59; refine Calls.mono (HSP.out _ _ (by simp) (RS.new1 (by simp))) ?_; rintro e w4 ⟨rfl, hb4⟩; have HB4 := Lib.hid ((HB3.out.alloc HB3.out.size _).trans (hb4.mono (by simp; have := HB3.out.size; omega))); clear hb4))
      go_ret
      exact ⟨rfl, HB4.out⟩

/-- CheckWinds. -/
theorem cwE_no {X Y : List Int} {V : List (List Int)} {cable charge y1 y2 : Int} (h : hoB X Y V cable charge = false) : cwE X Y V cable charge y1 y2 = 71 := by unfold cwE; rw [h]; rfl
theorem cwE_v {X Y : List Int} {V : List (List Int)} {cable charge y1 y2 : Int} (h : hoB X Y V cable charge = true) : cwE X Y V cable charge y1 y2 = if vS (y1, y2) then (if btB Y y1 y2 then 0 else 1) else 10 := by unfold cwE; rw [h]; rfl
set_option maxRecDepth 100000 in
theorem checkWinds_any (cable charge y1 y2 : Int) (AX AY AV : Option Addr) (nx cx ny cy nv cv B : Nat) (X Y : List Int) (V : List (List Int)) (w : World) (h : HT w B AX AY AV nx ny nv X Y V) :
    Calls Try.prog 46 #[.agg #[.int .i64 cable, .slice AX nx cx, .slice AY ny cy, .slice AV nv cv, .int .i64 charge], .agg #[.int .i64 y1, .int .i64 y2]] w fun e w' => e = .returned (.int .i64 (cwE X Y V cable charge y1 y2)) ∧ Below w.heap.size w w' := by
  have HC := Lib.hid (fun (W : World) (hW : Below w.heap.size w W) => rcheckHoist_any cable charge AX AY AV nx cx ny cy nv cv B X Y V W (h.below hW))
  have HV := Lib.hid (fun W => rvalid_any y1 y2 W)
  have hvv := vS_vI y1 y2
  rw [← hvv] at HV
  have HSB := Lib.hid (HB.new (cable := cable) (AX := AX) (nx := nx) (cx := cx) (AY := AY) (ny := ny) (cy := cy) (AV := AV) (nv := nv) (cv := cv) (charge := charge) w 57)
  have s0 : ((w.alloc (.cells #[.int .i64 cable, .slice AX nx cx, .slice AY ny cy, .slice AV nv cv, .int .i64 charge] 57)).alloc (.cells #[.int .i64 y1, .int .i64 y2] 27)).cell? ⟨w.heap.size + 1, 0, none⟩ = some (.int .i64 y1) := by rw [show w.heap.size + 1 = (w.alloc (.cells #[.int .i64 cable, .slice AX nx cx, .slice AY ny cy, .slice AV nv cv, .int .i64 charge] 57)).heap.size by simp, cell_newest]; rfl
  have s1 : ((w.alloc (.cells #[.int .i64 cable, .slice AX nx cx, .slice AY ny cy, .slice AV nv cv, .int .i64 charge] 57)).alloc (.cells #[.int .i64 y1, .int .i64 y2] 27)).cell? ⟨w.heap.size + 1, 1, none⟩ = some (.int .i64 y2) := by rw [show w.heap.size + 1 = (w.alloc (.cells #[.int .i64 cable, .slice AX nx cx, .slice AY ny cy, .slice AV nv cv, .int .i64 charge] 57)).heap.size by simp, cell_newest]; rfl
  have HS0 := Lib.hid s0
  have HS1 := Lib.hid s1
  clear s0 s1 hvv
  cases hh : hoB X Y V cable charge with
  | false =>
    rw [hoE_no hh] at HC
    rw [cwE_no hh]
    clear hh h
    go_enter Try.func46, Try.ntmps46
    go_wp2_with (go_at_call 33; refine Calls.mono (HC.out _ (by go_grown)) ?_; rintro e w3 ⟨rfl, hb3⟩; have HB3 := Lib.hid (Below.trans (show Below w.heap.size w _ by go_grown) (hb3.mono (by simp <;> omega))); clear hb3)
    go_ret
    exact ⟨rfl, HB3.out⟩
  | true =>
    rw [hoE_yes hh] at HC
    rw [cwE_v hh]
    obtain ⟨_, hct, _⟩ := hoB_get hh
    obtain ⟨_, _, k1, k2⟩ := ctB_len hct
    have hy := h.hy
    have HBT := Lib.hid (fun (W : World) (hW : Below w.heap.size w W) => have h' := h.below hW; between_any AY ny cy B Y y1 y2 W h'.hy (by omega) (by omega) h'.hB h'.tb.y)
    clear hh h hct k1 k2 hy
    generalize vS (y1, y2) = bv at *
    generalize btB Y y1 y2 = bb at *
    cases bv with
    | false =>
      go_enter Try.func46, Try.ntmps46
      go_wp2_with (first
        | (go_at_call 33; refine Calls.mono (HC.out _ (by go_grown)) ?_; rintro e w3 ⟨rfl, hb3⟩; have r0 := cell_keep hb3 HS0.out; have r1 := cell_keep hb3 HS1.out; have l1 := World.block_lt_of_cell? _ _ r0; have HB3 := Lib.hid (Below.trans (show Below w.heap.size w _ by go_grown) (hb3.mono (by simp <;> omega))); clear hb3)
        | (go_at_call 61; refine Calls.mono (HV.out _) ?_; rintro e w4 ⟨rfl, hb4⟩; have HB4 := Lib.hid (HB3.out.trans (hb4.mono HB3.out.size)); clear hb4))
      go_ret
      exact ⟨rfl, HB4.out⟩
    | true =>
      cases bb <;>
      · go_enter Try.func46, Try.ntmps46
        go_wp2_with (first
          | (go_at_call 33; refine Calls.mono (HC.out _ (by go_grown)) ?_; rintro e w3 ⟨rfl, hb3⟩; have r0 := cell_keep hb3 HS0.out; have r1 := cell_keep hb3 HS1.out; have S3 := HSB.out.keepA hb3; have l1 := World.block_lt_of_cell? _ _ r0; have HB3 := Lib.hid (Below.trans (show Below w.heap.size w _ by go_grown) (hb3.mono (by simp <;> omega))); clear hb3)
          | (go_at_call 61; refine Calls.mono (HV.out _) ?_; rintro e w4 ⟨rfl, hb4⟩; have u0 := cell_keep hb4 r0; have u1 := cell_keep hb4 r1; have l2 := World.block_lt_of_cell? _ _ u0; obtain ⟨v0, v1, v2, v3, v4⟩ := S3.keep hb4; have HB4 := Lib.hid (HB3.out.trans (hb4.mono HB3.out.size)); clear hb4)
          | (go_at_call 89; refine Calls.mono (HBT.out _ HB4.out) ?_; rintro e w5 ⟨rfl, hb5⟩; have HB5 := Lib.hid (HB4.out.trans (hb5.mono HB4.out.size)); clear hb5))
        go_ret
        exact ⟨rfl, HB5.out⟩
end Go.Proofs.Ytnnmmojlgikdgaa

/- A drawn region that makes one box and fills it: wherever the making and the filling come. -/
namespace Go.Proofs.Ytnnmmojlgikdgaa
open Go.RowKit

def RB (Q : Nat → Value → World → Prop) (E : Nat → Value → World → Prop) (W0 : World) (st al : Nat) (cs0 cs1 : Array Value) (T : TypeId) (val : Nat → Value) (L : Array Bool) (W : World) : Prop :=
  Below W0.heap.size W0 W ∧ (∀ j, L.getD j false = true → Q j (val j) W) ∧ (L.getD st false = false → ∀ j, L.getD j false = true → E j (val j) W) ∧
  (L.getD al false = true → ∃ q, val al = .pointer (some ⟨q, 0, none⟩) ∧ W0.heap.size ≤ q ∧ W.heap[q]? = some (.cells (if L.getD st false then cs1 else cs0) T (0, 0)))
/-- Properties that do not hang on the world. -/
def Still (Q : Nat → Value → World → Prop) : Prop := ∀ j v W W', Q j v W → Q j v W'
section
variable {Q E : Nat → Value → World → Prop} {W0 W W' : World} {st al i q : Nat} {cs0 cs1 : Array Value} {T : TypeId} {v : Value} {val : Nat → Value} {L : Array Bool}
theorem RB.start (Q E : Nat → Value → World → Prop) (W0 : World) (st al : Nat) (cs0 cs1 : Array Value) (T : TypeId) (n : Nat) : RB Q E W0 st al cs0 cs1 T (fun _ => undef) (Array.replicate n false) W0.drew :=
  ⟨(Below.refl _ _).drew, fun j h => (by rw [getD_replicate_no] at h; cases h), fun _ j h => (by rw [getD_replicate_no] at h; cases h), fun h => (by rw [getD_replicate_no] at h; cases h)⟩
theorem RB.step (h : RB Q E W0 st al cs0 cs1 T val L W) (hQ : Still Q) (hE : Stays E) (hb : Below W.heap.size W W') (hq : Q i v W') (he : L.getD st false = false → E i v W') (h1 : i ≠ st) (h2 : i ≠ al) :
    RB Q E W0 st al cs0 cs1 T (upd val i v) (L.setIfInBounds i true) W' := by
  refine ⟨h.1.trans (hb.mono h.1.size), fun j hj => ?_, fun hs j hj => ?_, fun ha => ?_⟩
  · by_cases e : j = i
    · subst e; rw [upd_same]; exact hq
    · rw [upd_other e]
      rw [getD_set_other (fun h => e h.symm)] at hj
      exact hQ _ _ _ _ (h.2.1 j hj)
  · rw [getD_set_other h1] at hs
    by_cases e : j = i
    · subst e; rw [upd_same]; exact he hs
    · rw [upd_other e]
      rw [getD_set_other (fun h => e h.symm)] at hj
      exact hE _ _ _ _ (h.2.2.1 hs j hj) hb
  · rw [getD_set_other h2] at ha
    obtain ⟨q, e1, e2, e3⟩ := h.2.2.2 ha
    exact ⟨q, by rw [upd_other (fun e => h2 e.symm)]; exact e1, e2, by rw [getD_set_other h1]; exact (hb.block q (lt_of_block e3)).trans e3⟩
theorem RB.made (h : RB Q E W0 st al cs0 cs1 T val L W) (hQ : Still Q) (hE : Stays E) (hN : L.getD st false = false) (hne : al ≠ st) (hq : Q al (.pointer (some ⟨W.heap.size, 0, none⟩)) (W.alloc (.cells cs0 T))) (he : E al (.pointer (some ⟨W.heap.size, 0, none⟩)) (W.alloc (.cells cs0 T))) :
    RB Q E W0 st al cs0 cs1 T (upd val al (.pointer (some ⟨W.heap.size, 0, none⟩))) (L.setIfInBounds al true) (W.alloc (.cells cs0 T)) := by
  have hb : Below W.heap.size W (W.alloc (.cells cs0 T)) := (Below.refl _ _).alloc (Nat.le_refl _) _
  refine ⟨h.1.trans (hb.mono h.1.size), fun j hj => ?_, fun _ j hj => ?_, fun _ => ⟨_, upd_same _ _ _, h.1.size, ?_⟩⟩
  · by_cases e : j = al
    · subst e; rw [upd_same]; exact hq
    · rw [upd_other e]
      rw [getD_set_other (fun h => e h.symm)] at hj
      exact hQ _ _ _ _ (h.2.1 j hj)
  · by_cases e : j = al
    · subst e; rw [upd_same]; exact he
    · rw [upd_other e]
      rw [getD_set_other (fun h => e h.symm)] at hj
      exact hE _ _ _ _ (h.2.2.1 hN j hj) hb
  · rw [getD_set_other hne, hN]
    show (W.heap.push _)[W.heap.size]? = _
    simp
theorem RB.filled (h : RB Q E W0 st al cs0 cs1 T val L W) (hQ : Still Q) (hs : st < L.size) (hq : Q st v W') (ha : val al = .pointer (some ⟨q, 0, none⟩)) (hM : W0.heap.size ≤ q) (hb : Below W0.heap.size W0 W') (hblk : W'.heap[q]? = some (.cells cs1 T (0, 0))) (hne : al ≠ st) :
    RB Q E W0 st al cs0 cs1 T (upd val st v) (L.setIfInBounds st true) W' := by
  refine ⟨hb, fun j hj => ?_, fun h2 => (by rw [getD_set_eq hs] at h2; cases h2), fun _ => ⟨q, by rw [upd_other hne]; exact ha, hM, by rw [getD_set_eq hs]; exact hblk⟩⟩
  by_cases e : j = st
  · subst e; rw [upd_same]; exact hq
  · rw [upd_other e]
    rw [getD_set_other (fun h => e h.symm)] at hj
    exact hQ _ _ _ _ (h.2.1 j hj)
end
theorem QG.still {vals : List (Option Value)} : Still (QG vals fun _ _ _ => True) := fun j v W W' hq => by
  unfold QG at hq ⊢
  exact hq
section
variable {Q E : Nat → Value → World → Prop} {vals : List (Option Value)} {ex : Nat → Value → World → Prop} {W0 W : World} {st al : Nat} {cs0 cs1 : Array Value} {T : TypeId} {val : Nat → Value} {L : Array Bool}
theorem RB.go (h : RB Q E W0 st al cs0 cs1 T val L W) (hQ : Still Q) (hE : Stays E) (HQ : Hid (Q = QG vals ex)) (i : Nat) {x : Value} (hx : vals[i]? = some (some x)) (he : ∀ v W, E i v W) (h1 : i ≠ st) (h2 : i ≠ al) : ∀ v W', Below W.heap.size W W' → v = x → RB Q E W0 st al cs0 cs1 T (upd val i v) (L.setIfInBounds i true) W' :=
  fun v W' hb e => h.step hQ hE hb (QG.put HQ hx e) (fun _ => he v W') h1 h2
theorem RB.goT (h : RB Q E W0 st al cs0 cs1 T val L W) (hQ : Still Q) (hE : Stays E) {i : Nat} (hn : ∀ v W, Q i v W) (he : ∀ v W, E i v W) (h1 : i ≠ st) (h2 : i ≠ al) : ∀ v W', Below W.heap.size W W' → True → RB Q E W0 st al cs0 cs1 T (upd val i v) (L.setIfInBounds i true) W' :=
  fun v W' hb _ => h.step hQ hE hb (hn v W') (fun _ => he v W') h1 h2
end
end Go.Proofs.Ytnnmmojlgikdgaa

/- The winch: blows, carries; bears. -/
namespace Go.Proofs.Ytnnmmojlgikdgaa
open Go.RowKit

/-- How a hoist stands. -/
structure HG where
  len : Int
  wt : Int
  since : Int
  cyc : Int
  cut : Bool
  touched : Bool
/-- A winch in a box. -/
def WN (W : World) (g : Nat) (cable : Int) (AX : Option Addr) (nx cx : Nat) (AY : Option Addr) (ny cy : Nat) (AV : Option Addr) (nv cv : Nat) (charge : Int) (s : HG) (y1 y2 : Int) : Prop :=
  W.heap[g]? = some (.cells #[.int .i64 cable, .slice AX nx cx, .slice AY ny cy, .slice AV nv cv, .int .i64 charge, .int .i64 s.len, .int .i64 s.wt, .int .i64 s.since, .int .i64 s.cyc, .bool s.cut, .int .i64 y1, .int .i64 y2, .bool s.touched] 119 (0, 0))
section
variable {W W' : World} {g : Nat} {cable charge y1 y2 : Int} {AX AY AV : Option Addr} {nx cx ny cy nv cv : Nat} {s : HG}
theorem WN.lt (h : WN W g cable AX nx cx AY ny cy AV nv cv charge s y1 y2) : g < W.heap.size := lt_of_block h
theorem WN.stay (h : WN W g cable AX nx cx AY ny cy AV nv cv charge s y1 y2) (hb : Below W.heap.size W W') : WN W' g cable AX nx cx AY ny cy AV nv cv charge s y1 y2 := (hb.block g h.lt).trans h
end

set_option maxRecDepth 100000 in
set_option maxHeartbeats 1000000 in
theorem blows_any (g : Nat) (cable charge y1 y2 : Int) (s : HG) (AX AY AV : Option Addr) (nx cx ny cy nv cv B : Nat) (Y : List Int) (w : World) (hy : Y.length = ny) (hn : 1 ≤ ny ∧ ny ≤ 1000000) (hB : B ≤ w.heap.size) (hr : RI w B AY Y) (h : WN w g cable AX nx cx AY ny cy AV nv cv charge s y1 y2) :
    Calls Try.prog 77 #[.pointer (some ⟨g, 0, none⟩)] w fun e w' => e = .returned (.bool (osB Y (y1, y2))) ∧ Below w.heap.size w w' := by
  have HO := Lib.hid (fun (W : World) (hW : Below w.heap.size w W) (A9 : Option Addr) (c9 : Nat) (hq : RS W W.heap.size A9 [(y1, y2)]) => onAxis2_any AY A9 ny cy 1 c9 W.heap.size Y [(y1, y2)] W hy hn rfl (le_maxLen (by omega)) (Nat.le_refl _) ((hr.below (hW.mono hB)).more (by have := hW.size; omega)) hq)
  simp only [List.all_cons, List.all_nil, Bool.and_true] at HO
  generalize osB Y (y1, y2) = bv at *
  have c2 := cellOf (o := 2) h rfl
  have c10 := cellOf (o := 10) h rfl
  have c11 := cellOf (o := 11) h rfl
  have hg := h.lt
  clear h hr hy hn
  go_enter Try.func77, Try.ntmps77
  go_upto_region 1 with (fail)
  obtain ⟨Q, hQ⟩ : ∃ q9 : Nat → Value → World → Prop, q9 = QG [some (.pointer (some ⟨g, 0, none⟩)), some (.pointer (some ⟨g, 0, none⟩)), some (.pointer (some ⟨g, 0, none⟩)), some (.pointer (some ⟨g, 1, none⟩)), some (.pointer (some ⟨g, 2, none⟩)), some (.slice AY ny cy), some (.pointer (some ⟨g, 0, none⟩)), some (.pointer (some ⟨g, 0, none⟩)), some (.pointer (some ⟨g, 10, none⟩)), some (.agg #[.int .i64 y1, .int .i64 y2]), none, some (.bool bv), some (.bool bv)] (fun j0' v0' w0' => (j0' = 10 → QS [(y1, y2)] v0' w0')) := ⟨_, rfl⟩
  have hst : Stays Q := by rw [hQ]; exact QG.stays (fun j v W W' h hb => fun e => (h e).stay hb)
  have U10 := Lib.hid (show ∀ v0' w0', Q 10 v0' w0' ↔ QS [(y1, y2)] v0' w0' from fun v0' w0' => by rw [hQ]; exact ⟨fun h => h rfl, fun h => fun _ => h⟩)
  have HQ := Lib.hid hQ
  clear hQ
  refine wpIn_wide.1 (region_inv2 (n := 9) (by kernel_rfl) (RQ Q w) (by kernel_rfl) rfl (RQ.start _ _ _) ?hstep ?hend)
  case hstep =>
    intro i' o ho val L b' x hF hR hpre hl
    match i', ho with
    | 0, ho =>
      simp at ho; subst ho; refine step_plain rfl ?_; have e0 := hF.was 0 (by kernel_rfl) rfl; have hgoal := hR.go hst HQ 0 rfl; clear hF hpre hl hR; go_simp; exact ⟨_, rfl, hgoal _ _ (Below.refl _ _) rfl⟩
    | 1, ho =>
      simp at ho; subst ho; refine step_plain rfl ?_; have e3 := hF.gv hR.2 HQ 0 rfl (hpre ⟨0, .data⟩ (by simp) rfl) rfl; have hgoal := hR.go hst HQ 1 rfl; clear hF hpre hl hR; go_simp; exact ⟨_, rfl, hgoal _ _ (Below.refl _ _) rfl⟩
    | 2, ho =>
      simp at ho; subst ho; refine step_plain rfl ?_; have e4 := hF.gv hR.2 HQ 1 rfl (hpre ⟨1, .data⟩ (by simp) rfl) rfl; have hgoal := hR.go hst HQ 2 rfl; clear hF hpre hl hR; go_simp; exact ⟨_, rfl, hgoal _ _ (Below.refl _ _) rfl⟩
    | 3, ho =>
      simp at ho; subst ho; refine step_plain rfl ?_; have e5 := hF.gv hR.2 HQ 2 rfl (hpre ⟨2, .data⟩ (by simp) rfl) rfl; have hgoal := hR.go hst HQ 3 rfl; clear hF hpre hl hR; go_simp; exact ⟨_, rfl, hgoal _ _ (Below.refl _ _) rfl⟩
    | 4, ho =>
      simp at ho; subst ho; refine step_plain rfl ?_; have e6 := hF.gv hR.2 HQ 3 rfl (hpre ⟨3, .data⟩ (by simp) rfl) rfl; have hgoal := hR.go hst HQ 4 rfl; clear hF hpre hl hR; go_simp; exact ⟨_, rfl, hgoal _ _ (Below.refl _ _) rfl⟩
    | 5, ho =>
      simp at ho; subst ho; refine step_plain rfl ?_; have e7 := hF.gv hR.2 HQ 4 rfl (hpre ⟨4, .data⟩ (by simp) rfl) rfl; have hgoal := hR.go hst HQ 5 rfl; have q0 := cell_keep hR.1 c2; clear hF hpre hl hR; go_simp; exact ⟨_, rfl, hgoal _ _ (Below.refl _ _) rfl⟩
    | 6, ho =>
      simp at ho; subst ho; refine step_plain rfl ?_; have e0 := hF.was 0 (by kernel_rfl) rfl; have hgoal := hR.go hst HQ 6 rfl; clear hF hpre hl hR; go_simp; exact ⟨_, rfl, hgoal _ _ (Below.refl _ _) rfl⟩
    | 7, ho =>
      simp at ho; subst ho; refine step_plain rfl ?_; have e9 := hF.gv hR.2 HQ 6 rfl (hpre ⟨6, .data⟩ (by simp) rfl) rfl; have hgoal := hR.go hst HQ 7 rfl; clear hF hpre hl hR; go_simp; exact ⟨_, rfl, hgoal _ _ (Below.refl _ _) rfl⟩
    | 8, ho =>
      simp at ho; subst ho; refine step_plain rfl ?_; have e10 := hF.gv hR.2 HQ 7 rfl (hpre ⟨7, .data⟩ (by simp) rfl) rfl; have hgoal := hR.go hst HQ 8 rfl; clear hF hpre hl hR; go_simp; exact ⟨_, rfl, hgoal _ _ (Below.refl _ _) rfl⟩
    | 9, ho =>
      simp at ho; subst ho; refine step_plain rfl ?_; have e11 := hF.gv hR.2 HQ 8 rfl (hpre ⟨8, .data⟩ (by simp) rfl) rfl; have hgoal := hR.go hst HQ 9 rfl; have q0 := cell_keep hR.1 c10; have q1 := cell_keep hR.1 c11; clear hF hpre hl hR; go_simp; exact ⟨_, rfl, hgoal _ _ (Below.refl _ _) rfl⟩
    | 10, ho =>
      simp at ho; subst ho; refine step_plain rfl ?_; have e12 := hF.gv hR.2 HQ 9 rfl (hpre ⟨9, .data⟩ (by simp) rfl) rfl
      have hgoal : ∀ v0' w0', Below x.heap.size x w0' → QS [(y1, y2)] v0' w0' → RQ Q w (upd val 10 v0') (L.setIfInBounds 10 true) w0' := fun v0' w0' hb hq => hR.step hst hb ((U10.out _ _).2 hq)
      have hM := Lib.hid hR.1
      clear hF hpre hl hR; go_simp; exact ⟨_, rfl, hgoal _ _ ((Below.refl _ _).alloc (Nat.le_refl _) _) ⟨_, _, rfl, (RS.new1 rfl).more (by simp)⟩⟩
    | 11, ho =>
      simp at ho; subst ho; refine step_plain rfl ?_; have e8 := hF.gv hR.2 HQ 5 rfl (hpre ⟨5, .data⟩ (by simp) rfl) rfl; have e13 := hF.gave 10 rfl (hpre ⟨10, .data⟩ (by simp) rfl) rfl
      have v10 := (U10.out _ _).1 (hR.2 10 (hpre ⟨10, .data⟩ (by simp) rfl))
      have hgoal := hR.go hst HQ 11 rfl
      have hM := Lib.hid hR.1
      clear hF hpre hl hR
      obtain ⟨A9, c9, h9, hr9⟩ := v10
      rw [h9] at e13
      go_simp
      refine ⟨trivial, ?_⟩
      refine CallsIn.mono (callsIn_wide.2 (HO.out _ hM.out A9 c9 hr9)) ?_
      rintro e w9 ⟨rfl, hb9⟩
      exact ⟨_, rfl, hgoal _ _ hb9 rfl⟩
    | 12, ho =>
      simp at ho; subst ho; refine step_plain rfl ?_; have e14 := hF.gv hR.2 HQ 11 rfl (hpre ⟨11, .data⟩ (by simp) rfl) rfl; have hgoal := hR.go hst HQ 12 rfl; clear hF hpre hl hR; go_simp; exact ⟨_, rfl, hgoal _ _ (Below.refl _ _) rfl⟩
    | i + 13, ho => simp at ho
  case hend =>
    intro val L b' x hF hall hR
    have e := hF.all (by kernel_rfl) hall
    have k12 := QG.val HQ rfl (hR.2 12 (hall 12 (by decide)))
    have hB := Lib.hid hR.1
    clear hF hall hR hst HQ U10
    subst e
    simp [final, dstOf, List.range, List.range.loop]
    rw [k12]
    go_wp2
    go_ret
    exact ⟨rfl, hB.out⟩

set_option maxRecDepth 100000 in
set_option maxHeartbeats 1000000 in
theorem carries_any (g : Nat) (cable charge y1 y2 a b wt : Int) (s : HG) (AX AY AV : Option Addr) (nx cx ny cy nv cv B : Nat) (X Y : List Int) (V : List (List Int)) (w : World) (ht : HT w B AX AY AV nx ny nv X Y V) (h : WN w g cable AX nx cx AY ny cy AV nv cv charge s y1 y2) :
    Calls Try.prog 83 #[.pointer (some ⟨g, 0, none⟩), .agg #[.int .i64 a, .int .i64 b], .int .i64 wt] w fun e w' => e = .returned (.bool (carB X Y V a b y1 y2 wt)) ∧ Below w.heap.size w w' := by
  have HBD := Lib.hid (fun (W : World) (hW : Below w.heap.size w W) => have h' := ht.below hW; bound_any AX AY AV nx cx ny cy nv cv B X Y V a b y1 y2 W h'.hx h'.hy h'.hv h'.mx h'.my h'.mv h'.mr h'.hB h'.tb)
  have HCR := Lib.hid (show carB X Y V a b y1 y2 wt = (decide (wt = 0) || decide (wt ≤ (bndS X Y V a b y1 y2).1.1)) from rfl)
  generalize carB X Y V a b y1 y2 wt = cb at *
  generalize bndS X Y V a b y1 y2 = bs at *
  obtain ⟨⟨p0, p1⟩, pe⟩ := bs
  simp only at HBD HCR
  have hW1 : WN (w.alloc (.cells #[.int .i64 a, .int .i64 b] 27)) g cable AX nx cx AY ny cy AV nv cv charge s y1 y2 := h.stay ((Below.refl _ _).alloc (Nat.le_refl _) _)
  have hB1 : Below w.heap.size w (w.alloc (.cells #[.int .i64 a, .int .i64 b] 27)) := (Below.refl _ _).alloc (Nat.le_refl _) _
  have l0 : (w.alloc (.cells #[.int .i64 a, .int .i64 b] 27)).cell? ⟨w.heap.size, 0, none⟩ = some (.int .i64 a) := by rw [cell_newest]; rfl
  have l1 : (w.alloc (.cells #[.int .i64 a, .int .i64 b] 27)).cell? ⟨w.heap.size, 1, none⟩ = some (.int .i64 b) := by rw [cell_newest]; rfl
  have hg0 := h.lt
  clear h ht
  go_enter Try.func83, Try.ntmps83
  go_upto_region 1 with (fail)
  generalize w.alloc _ = w1 at *
  have c1 := cellOf (o := 1) hW1 rfl
  have c2 := cellOf (o := 2) hW1 rfl
  have c3 := cellOf (o := 3) hW1 rfl
  have c10 := cellOf (o := 10) hW1 rfl
  have c11 := cellOf (o := 11) hW1 rfl
  have hg := hW1.lt
  have HB1 := Lib.hid hB1
  clear hW1 hB1
  obtain ⟨Q, hQ⟩ : ∃ q9 : Nat → Value → World → Prop, q9 = QG [some (.pointer (some ⟨g, 0, none⟩)), some (.pointer (some ⟨g, 0, none⟩)), some (.pointer (some ⟨g, 0, none⟩)), some (.pointer (some ⟨g, 1, none⟩)), some (.agg #[.slice AX nx cx, .slice AY ny cy, .slice AV nv cv]), some (.agg #[.int .i64 a, .int .i64 b]), some (.pointer (some ⟨g, 0, none⟩)), some (.pointer (some ⟨g, 0, none⟩)), some (.pointer (some ⟨g, 10, none⟩)), some (.agg #[.int .i64 y1, .int .i64 y2]), some (.tuple #[.agg #[.int .i64 p0, .int .i64 p1], .int .i64 pe]), some (.tuple #[.agg #[.int .i64 p0, .int .i64 p1], .int .i64 pe]), some (.agg #[.int .i64 p0, .int .i64 p1]), some (.int .i64 pe), none, none, some (.int .i64 pe)] (fun _ _ _ => True) := ⟨_, rfl⟩
  obtain ⟨E, hE⟩ : ∃ q9 : Nat → Value → World → Prop, q9 = (fun _ _ _ => True) := ⟨_, rfl⟩
  have hSt : Still Q := by rw [hQ]; exact QG.still
  have hEs : Stays E := by rw [hE]; exact fun _ _ _ _ _ _ => trivial
  have XF := Lib.hid (show ∀ j, decide (j ∈ ([] : List Nat)) = false → ∀ v0' w0', E j v0' w0' from fun j hj v0' w0' => by rw [hE]; exact trivial)
  have HQ := Lib.hid hQ
  clear hQ hE
  refine wpIn_wide.1 (region_inv2 (n := 9) (by kernel_rfl) (RB Q E w1 15 14 #[.int .i64 0, .int .i64 0] #[.int .i64 p0, .int .i64 p1] 27) (by kernel_rfl) rfl (RB.start _ _ _ _ _ _ _ _ _) ?hstep ?hend)
  case hstep =>
    intro i' o ho val L b' x hF hR hpre hl
    match i', ho with
    | 0, ho =>
      simp at ho; subst ho; refine step_plain rfl ?_; have e0 := hF.was 0 (by kernel_rfl) rfl; have hgoal := hR.go hSt hEs HQ 0 rfl (XF.out 0 (by decide)) (by decide) (by decide); clear hF hpre hl hR; go_simp; exact ⟨_, rfl, hgoal _ _ (Below.refl _ _) rfl⟩
    | 1, ho =>
      simp at ho; subst ho; refine step_plain rfl ?_; have e10 := hF.gv hR.2.1 HQ 0 rfl (hpre ⟨0, .data⟩ (by simp) rfl) rfl; have hgoal := hR.go hSt hEs HQ 1 rfl (XF.out 1 (by decide)) (by decide) (by decide); clear hF hpre hl hR; go_simp; exact ⟨_, rfl, hgoal _ _ (Below.refl _ _) rfl⟩
    | 2, ho =>
      simp at ho; subst ho; refine step_plain rfl ?_; have e11 := hF.gv hR.2.1 HQ 1 rfl (hpre ⟨1, .data⟩ (by simp) rfl) rfl; have hgoal := hR.go hSt hEs HQ 2 rfl (XF.out 2 (by decide)) (by decide) (by decide); clear hF hpre hl hR; go_simp; exact ⟨_, rfl, hgoal _ _ (Below.refl _ _) rfl⟩
    | 3, ho =>
      simp at ho; subst ho; refine step_plain rfl ?_; have e12 := hF.gv hR.2.1 HQ 2 rfl (hpre ⟨2, .data⟩ (by simp) rfl) rfl; have hgoal := hR.go hSt hEs HQ 3 rfl (XF.out 3 (by decide)) (by decide) (by decide); clear hF hpre hl hR; go_simp; exact ⟨_, rfl, hgoal _ _ (Below.refl _ _) rfl⟩
    | 4, ho =>
      simp at ho; subst ho; refine step_plain rfl ?_; have e13 := hF.gv hR.2.1 HQ 3 rfl (hpre ⟨3, .data⟩ (by simp) rfl) rfl; have hgoal := hR.go hSt hEs HQ 4 rfl (XF.out 4 (by decide)) (by decide) (by decide); have q0 := cell_keep hR.1 c1; have q1 := cell_keep hR.1 c2; have q2 := cell_keep hR.1 c3; clear hF hpre hl hR; go_simp; exact ⟨_, rfl, hgoal _ _ (Below.refl _ _) rfl⟩
    | 5, ho =>
      simp at ho; subst ho; refine step_plain rfl ?_; have e4 := hF.was 4 (by kernel_rfl) rfl; have hgoal := hR.go hSt hEs HQ 5 rfl (XF.out 5 (by decide)) (by decide) (by decide); have q0 := cell_keep hR.1 l0; have q1 := cell_keep hR.1 l1; clear hF hpre hl hR; go_simp; exact ⟨_, rfl, hgoal _ _ (Below.refl _ _) rfl⟩
    | 6, ho =>
      simp at ho; subst ho; refine step_plain rfl ?_; have e0 := hF.was 0 (by kernel_rfl) rfl; have hgoal := hR.go hSt hEs HQ 6 rfl (XF.out 6 (by decide)) (by decide) (by decide); clear hF hpre hl hR; go_simp; exact ⟨_, rfl, hgoal _ _ (Below.refl _ _) rfl⟩
    | 7, ho =>
      simp at ho; subst ho; refine step_plain rfl ?_; have e16 := hF.gv hR.2.1 HQ 6 rfl (hpre ⟨6, .data⟩ (by simp) rfl) rfl; have hgoal := hR.go hSt hEs HQ 7 rfl (XF.out 7 (by decide)) (by decide) (by decide); clear hF hpre hl hR; go_simp; exact ⟨_, rfl, hgoal _ _ (Below.refl _ _) rfl⟩
    | 8, ho =>
      simp at ho; subst ho; refine step_plain rfl ?_; have e17 := hF.gv hR.2.1 HQ 7 rfl (hpre ⟨7, .data⟩ (by simp) rfl) rfl; have hgoal := hR.go hSt hEs HQ 8 rfl (XF.out 8 (by decide)) (by decide) (by decide); clear hF hpre hl hR; go_simp; exact ⟨_, rfl, hgoal _ _ (Below.refl _ _) rfl⟩
    | 9, ho =>
      simp at ho; subst ho; refine step_plain rfl ?_; have e18 := hF.gv hR.2.1 HQ 8 rfl (hpre ⟨8, .data⟩ (by simp) rfl) rfl; have hgoal := hR.go hSt hEs HQ 9 rfl (XF.out 9 (by decide)) (by decide) (by decide); have q0 := cell_keep hR.1 c10; have q1 := cell_keep hR.1 c11; clear hF hpre hl hR; go_simp; exact ⟨_, rfl, hgoal _ _ (Below.refl _ _) rfl⟩
    | 10, ho =>
      simp at ho; subst ho; refine step_plain rfl ?_; have e14 := hF.gv hR.2.1 HQ 4 rfl (hpre ⟨4, .data⟩ (by simp) rfl) rfl; have e15 := hF.gv hR.2.1 HQ 5 rfl (hpre ⟨5, .data⟩ (by simp) rfl) rfl; have e19 := hF.gv hR.2.1 HQ 9 rfl (hpre ⟨9, .data⟩ (by simp) rfl) rfl; have hgoal := hR.go hSt hEs HQ 10 rfl (XF.out 10 (by decide)) (by decide) (by decide)
      have hM := Lib.hid hR.1
      clear hF hpre hl hR; go_simp
      refine ⟨trivial, ?_⟩
      refine CallsIn.mono (callsIn_wide.2 (HBD.out _ (HB1.out.trans (hM.out.mono HB1.out.size)))) ?_
      rintro e w9 ⟨rfl, hb9⟩
      exact ⟨_, rfl, hgoal _ _ hb9 rfl⟩
    | 11, ho =>
      simp at ho; subst ho; refine step_plain rfl ?_; have e20 := hF.gv hR.2.1 HQ 10 rfl (hpre ⟨10, .data⟩ (by simp) rfl) rfl; have hgoal := hR.go hSt hEs HQ 11 rfl (XF.out 11 (by decide)) (by decide) (by decide); clear hF hpre hl hR; go_simp; exact ⟨_, rfl, hgoal _ _ (Below.refl _ _) rfl⟩
    | 12, ho =>
      simp at ho; subst ho; refine step_plain rfl ?_; have e9 := hF.gv hR.2.1 HQ 11 rfl (hpre ⟨11, .data⟩ (by simp) rfl) rfl; have hgoal := hR.go hSt hEs HQ 12 rfl (XF.out 12 (by decide)) (by decide) (by decide); clear hF hpre hl hR; go_simp; exact ⟨_, rfl, hgoal _ _ (Below.refl _ _) rfl⟩
    | 13, ho =>
      simp at ho; subst ho; refine step_plain rfl ?_; have e9 := hF.gv hR.2.1 HQ 11 rfl (hpre ⟨11, .data⟩ (by simp) rfl) rfl; have hgoal := hR.go hSt hEs HQ 13 rfl (XF.out 13 (by decide)) (by decide) (by decide); clear hF hpre hl hR; go_simp; exact ⟨_, rfl, hgoal _ _ (Below.refl _ _) rfl⟩
    | 14, ho =>
      simp at ho; subst ho; refine step_plain rfl ?_; have hN := hF.later hl 15 rfl (e := ⟨14, .data⟩) (by simp) rfl rfl; have hgoal := hR.made hSt hEs hN (by decide) (QG.none HQ 14 rfl (fun _ _ => trivial) _ _) (XF.out 14 (by decide) _ _); clear hF hpre hl hR hN; go_simp; exact ⟨_, rfl, hgoal⟩
    | 15, ho =>
      simp at ho; subst ho; refine step_plain rfl ?_; have e7 := hF.gave 14 rfl (hpre ⟨14, .data⟩ (by simp) rfl) rfl; have e21 := hF.gv hR.2.1 HQ 12 rfl (hpre ⟨12, .data⟩ (by simp) rfl) rfl
      have hls : 15 < L.size := by rw [hF.lsize]; decide
      have hN0 : L.getD 15 false = false := by rw [← getD_same hls]; exact hl
      obtain ⟨q, qe, qM, qb⟩ := hR.2.2.2 (hpre ⟨14, .data⟩ (by simp) rfl)
      rw [hN0] at qb
      simp only [Bool.false_eq_true, if_false] at qb
      rw [qe] at e7
      have g0 := cellOf (o := 0) qb rfl; have f0 := freeOf (o := 0) qb; have g1 := cellOf (o := 1) qb rfl; have f1 := freeOf (o := 1) qb; have hgoal := RB.filled (v := undef) hR hSt hls (QG.none HQ 15 rfl (fun _ _ => trivial) _ _) qe qM ((hR.1.setCell (p := ⟨q, 0, none⟩) qM (.int .i64 p0)).setCell (p := ⟨q, 1, none⟩) qM (.int .i64 p1)) ((block_setCell (o := 1) (.int .i64 p1) (block_setCell (o := 0) (.int .i64 p0) qb)).trans (by rfl)) (by decide)
      have hq := lt_of_block qb
      have HG := Lib.hid hgoal
      clear hF hpre hl hR hls hN0 qe qb hgoal; go_simp
      exact ⟨undef, HG.out⟩
    | 16, ho =>
      simp at ho; subst ho; refine step_plain rfl ?_; have e22 := hF.gv hR.2.1 HQ 13 rfl (hpre ⟨13, .data⟩ (by simp) rfl) rfl; have hgoal := hR.go hSt hEs HQ 16 rfl (XF.out 16 (by decide)) (by decide) (by decide); clear hF hpre hl hR; go_simp; exact ⟨_, rfl, hgoal _ _ (Below.refl _ _) rfl⟩
    | i + 17, ho => simp at ho
  case hend =>
    intro val L b' x hF hall hR
    have e := hF.all (by kernel_rfl) hall
    have k16 := QG.val HQ rfl (hR.2.1 16 (hall 16 (by decide)))
    obtain ⟨g, kp, hM, bk⟩ := hR.2.2.2 (hall 14 (by decide))
    rw [hall 15 (by decide)] at bk
    simp only [if_true] at bk
    have hB := Lib.hid hR.1
    clear hF hall hR hSt hEs XF HQ 
    subst e
    simp [final, dstOf, List.range, List.range.loop]
    rw [kp, k16]
    clear kp k16
    have d0 := cellOf (o := 0) bk rfl
    have HB2 := Lib.hid (HB1.out.trans (hB.out.mono HB1.out.size))
    by_cases hz : wt = 0
    · have HC2 := Lib.hid (show cb = true by rw [HCR.out]; simp [hz])
      have hz1 : ((wt : Int) == 0) = true := by simpa using hz
      clear hz
      go_wp2
      go_ret
      exact ⟨ret_bool HC2.out.symm, HB2.out⟩
    · have HC2 := Lib.hid (show cb = decide (wt ≤ p0) by rw [HCR.out]; simp [hz])
      have hz1 : ((wt : Int) == 0) = false := by simpa using hz
      clear hz
      go_wp2
      go_ret
      exact ⟨ret_bool HC2.out.symm, HB2.out⟩
end Go.Proofs.Ytnnmmojlgikdgaa

/- loaded; Carries of both sides. -/
namespace Go.Proofs.Ytnnmmojlgikdgaa
open Go.RowKit

theorem alone_any (n : Int) (w : World) : Calls Try.prog 84 #[.int .i64 n] w fun e w' => e = .returned (.agg #[.int .i64 n, .int .i64 n]) ∧ Below w.heap.size w w' := by
  go_enter Try.func84, Try.ntmps84
  go_wp2
  go_returns
  exact ⟨rfl, by go_grown⟩

theorem osB_btB {Y : List Int} {a b : Int} (h : vS (a, b) = true) : osB Y (a, b) = btB Y a b := by
  rw [btB_onB (by rw [← vS_vI]; exact h)]
  rfl
theorem hwE_get {X Y : List Int} {V : List (List Int)} {cable charge y1 y2 : Int} (h : hwE X Y V cable charge y1 y2 = 0) : hoB X Y V cable charge = true ∧ vS (y1, y2) = true := by
  unfold hwE at h
  split at h
  · rename_i h1
    split at h
    · rename_i h2
      exact ⟨h1, h2⟩
    · omega
  · omega
theorem cwE_hw {X Y : List Int} {V : List (List Int)} {cable charge y1 y2 : Int} (h : hwE X Y V cable charge y1 y2 ≠ 0) : cwE X Y V cable charge y1 y2 = hwE X Y V cable charge y1 y2 := by
  unfold hwE at h ⊢
  unfold cwE
  cases h1 : hoB X Y V cable charge with
  | false => rfl
  | true =>
    rw [h1] at h
    cases h2 : vS (y1, y2) with
    | false => rfl
    | true => rw [h2] at h; simp at h
theorem cwE_ok {X Y : List Int} {V : List (List Int)} {cable charge y1 y2 : Int} (h : hwE X Y V cable charge y1 y2 = 0) : cwE X Y V cable charge y1 y2 = if osB Y (y1, y2) then 0 else 1 := by
  obtain ⟨h1, h2⟩ := hwE_get h
  unfold cwE
  rw [h1, h2, osB_btB h2]
  rfl

def zeroH : HG := ⟨0, 0, 0, 0, false, false⟩

section
variable (cable charge y1 y2 len wt : Int) (AX AY AV : Option Addr) (nx cx ny cy nv cv B : Nat) (X Y : List Int) (V : List (List Int)) (w : World)

set_option maxRecDepth 100000 in
theorem loaded_bad (h : HT w B AX AY AV nx ny nv X Y V) (hne : hwE X Y V cable charge y1 y2 ≠ 0) :
    Calls Try.prog 82 #[.agg #[.int .i64 cable, .slice AX nx cx, .slice AY ny cy, .slice AV nv cv, .int .i64 charge], .agg #[.int .i64 y1, .int .i64 y2], .int .i64 len, .int .i64 wt] w fun e w' => e = .returned (.tuple #[.pointer none, .int .i64 (hwE X Y V cable charge y1 y2)]) ∧ Below w.heap.size w w' := by
  have HC := Lib.hid (fun (W : World) (hW : Below w.heap.size w W) => checkWinch_any cable charge y1 y2 AX AY AV nx cx ny cy nv cv B X Y V W (h.below hW))
  clear h
  generalize hwE X Y V cable charge y1 y2 = c at *
  have hc : (c != 0) = true := by rw [bne_iff_ne]; exact hne
  clear hne
  go_enter Try.func82, Try.ntmps82
  go_wp2_with (go_at_call 76; refine Calls.mono (HC.out _ (by go_grown)) ?_; rintro e w3 ⟨rfl, hb3⟩; have HB3 := Lib.hid (Below.trans (show Below w.heap.size w _ by go_grown) (hb3.mono (by simp <;> omega))); clear hb3)
  go_ret2
  exact ⟨rfl, HB3.out⟩

/-- What loaded says of its numbers. -/
def ldB (Y : List Int) (cable y1 y2 len wt : Int) : Bool := osB Y (y1, y2) && (decide (0 ≤ len ∧ len ≤ cable) && decide (1 ≤ wt ∧ wt ≤ 100000))
theorem ny_of (h : HT w B AX AY AV nx ny nv X Y V) (h0 : hwE X Y V cable charge y1 y2 = 0) : 1 ≤ ny ∧ ny ≤ 1000000 := by
  obtain ⟨_, hct, _⟩ := hoB_get (hwE_get h0).1
  obtain ⟨_, _, a, b⟩ := ctB_len hct
  have := h.hy
  omega

def GivesWn (r : Bool) (e : Ending) (w' : World) : Prop :=
  if r then ∃ g, e = .returned (.tuple #[.pointer (some ⟨g, 0, none⟩), .int .i64 0]) ∧ WN w' g cable AX nx cx AY ny cy AV nv cv charge zeroH y1 y2 ∧ Below w.heap.size w w'
  else e = .returned (.tuple #[.pointer none, .int .i64 1]) ∧ Below w.heap.size w w'

set_option maxRecDepth 100000 in
set_option maxHeartbeats 1000000 in
theorem loaded_ok (h : HT w B AX AY AV nx ny nv X Y V) (h0 : hwE X Y V cable charge y1 y2 = 0) :
    Calls Try.prog 82 #[.agg #[.int .i64 cable, .slice AX nx cx, .slice AY ny cy, .slice AV nv cv, .int .i64 charge], .agg #[.int .i64 y1, .int .i64 y2], .int .i64 len, .int .i64 wt] w (GivesWn cable charge y1 y2 AX AY AV nx cx ny cy nv cv w (ldB Y cable y1 y2 len wt)) := by
  have hny := ny_of cable charge y1 y2 AX AY AV nx ny nv B X Y V w h h0
  have HC := Lib.hid (fun (W : World) (hW : Below w.heap.size w W) => checkWinch_any cable charge y1 y2 AX AY AV nx cx ny cy nv cv B X Y V W (h.below hW))
  rw [h0] at HC
  have HBL := Lib.hid (fun (W : World) (hW : Below w.heap.size w W) (g : Nat) (hq : WN W g cable AX nx cx AY ny cy AV nv cv charge zeroH y1 y2) => have h' := h.below hW; blows_any g cable charge y1 y2 zeroH AX AY AV nx cx ny cy nv cv B Y W h'.hy hny h'.hB h'.tb.y hq)
  have HSB := Lib.hid (HB.new (cable := cable) (AX := AX) (nx := nx) (cx := cx) (AY := AY) (ny := ny) (cy := cy) (AV := AV) (nv := nv) (cv := cv) (charge := charge) w 57)
  have s0 : ((w.alloc (.cells #[.int .i64 cable, .slice AX nx cx, .slice AY ny cy, .slice AV nv cv, .int .i64 charge] 57)).alloc (.cells #[.int .i64 y1, .int .i64 y2] 27)).cell? ⟨w.heap.size + 1, 0, none⟩ = some (.int .i64 y1) := by rw [show w.heap.size + 1 = (w.alloc (.cells #[.int .i64 cable, .slice AX nx cx, .slice AY ny cy, .slice AV nv cv, .int .i64 charge] 57)).heap.size by simp, cell_newest]; rfl
  have s1 : ((w.alloc (.cells #[.int .i64 cable, .slice AX nx cx, .slice AY ny cy, .slice AV nv cv, .int .i64 charge] 57)).alloc (.cells #[.int .i64 y1, .int .i64 y2] 27)).cell? ⟨w.heap.size + 1, 1, none⟩ = some (.int .i64 y2) := by rw [show w.heap.size + 1 = (w.alloc (.cells #[.int .i64 cable, .slice AX nx cx, .slice AY ny cy, .slice AV nv cv, .int .i64 charge] 57)).heap.size by simp, cell_newest]; rfl
  have HS0 := Lib.hid s0
  have HS1 := Lib.hid s1
  have HNW := Lib.hid (fun (W : World) => show WN (W.alloc (.cells #[.int .i64 cable, .slice AX nx cx, .slice AY ny cy, .slice AV nv cv, .int .i64 charge, .int .i64 0, .int .i64 0, .int .i64 0, .int .i64 0, .bool false, .int .i64 y1, .int .i64 y2, .bool false] 119)) W.heap.size cable AX nx cx AY ny cy AV nv cv charge zeroH y1 y2 from by show (W.heap.push _)[W.heap.size]? = _; simp [zeroH])
  clear s0 s1 h h0 hny
  unfold ldB
  generalize osB Y (y1, y2) = bo at *
  cases bo with
  | false =>
    go_enter Try.func82, Try.ntmps82
    go_wp2_with (first
      | (go_at_call 76; refine Calls.mono (HC.out _ (by go_grown)) ?_; rintro e w3 ⟨rfl, hb3⟩; have r0 := cell_keep hb3 HS0.out; have r1 := cell_keep hb3 HS1.out; obtain ⟨v0, v1, v2, v3, v4⟩ := HSB.out.keepA hb3; have l1 := World.block_lt_of_cell? _ _ r0; have HB3 := Lib.hid (Below.trans (show Below w.heap.size w _ by go_grown) (hb3.mono (by simp <;> omega))); clear hb3)
      | (go_at_call 77; refine Calls.mono (HBL.out _ (HB3.out.alloc HB3.out.size _) _ (HNW.out _)) ?_; rintro e w4 ⟨rfl, hb4⟩; have HB4 := Lib.hid ((HB3.out.alloc HB3.out.size _).trans (hb4.mono (by simp; have := HB3.out.size; omega))); clear hb4))
    go_ret2
    exact ⟨rfl, HB4.out⟩
  | true =>
    by_cases g1 : 0 ≤ len ∧ len ≤ cable
    · have G1 := Lib.hid (show wB 0 cable [len] = true by rw [wB_one]; simp [g1])
      by_cases g2 : 1 ≤ wt ∧ wt ≤ 100000
      · have G2 := Lib.hid (show wB 1 100000 [wt] = true by rw [wB_one]; simp [g2])
        rw [show (true && (decide (0 ≤ len ∧ len ≤ cable) && decide (1 ≤ wt ∧ wt ≤ 100000))) = true by simp [g1, g2]]
        clear g1 g2
        go_enter Try.func82, Try.ntmps82
        go_wp2_with (first
          | (go_at_call 76; refine Calls.mono (HC.out _ (by go_grown)) ?_; rintro e w3 ⟨rfl, hb3⟩; have r0 := cell_keep hb3 HS0.out; have r1 := cell_keep hb3 HS1.out; have S3 := HSB.out.keepA hb3; have HS3 := Lib.hid S3; obtain ⟨v0, v1, v2, v3, v4⟩ := S3; have l1 := World.block_lt_of_cell? _ _ r0; have HB3 := Lib.hid (Below.trans (show Below w.heap.size w _ by go_grown) (hb3.mono (by simp <;> omega))); clear hb3)
          | (go_at_call 77; refine Calls.mono (HBL.out _ (HB3.out.alloc HB3.out.size _) _ (HNW.out _)) ?_; rintro e w4 ⟨rfl, hb4⟩; have HW4 := Lib.hid ((HNW.out _).stay hb4); obtain ⟨z0, z1, z2, z3, z4⟩ := HS3.out.keepA hb4; have l4 := World.block_lt_of_cell? _ _ z0; have HB4 := Lib.hid ((HB3.out.alloc HB3.out.size _).trans (hb4.mono (by simp; have := HB3.out.size; omega))); clear hb4)
          | (go_at_call_of 49 (Value.int .i64 0); refine (within_any 0 cable _ 1 _ _ [len] _ rfl (le_maxLen (by omega)) (RI.new1 (by simp))).mono ?_; rintro e w5 ⟨rfl, rfl⟩; rw [G1.out])
          | (go_at_call 49; refine (within_any 1 100000 _ 1 _ _ [wt] _ rfl (le_maxLen (by omega)) (RI.new1 (by simp))).mono ?_; rintro e w6 ⟨rfl, rfl⟩; rw [G2.out]))
        go_ret2
        exact ⟨_, rfl, (HW4.out.stay ((Below.refl _ _).alloc (Nat.le_refl _) _)).stay ((Below.refl _ _).alloc (Nat.le_refl _) _), (HB4.out.alloc HB4.out.size _).alloc (by simp; have := HB4.out.size; omega) _⟩
      · have G2 := Lib.hid (show wB 1 100000 [wt] = false by rw [wB_one]; simpa using g2)
        rw [show (true && (decide (0 ≤ len ∧ len ≤ cable) && decide (1 ≤ wt ∧ wt ≤ 100000))) = false by simp; intro _ _ h; omega]
        clear g1 g2
        go_enter Try.func82, Try.ntmps82
        go_wp2_with (first
          | (go_at_call 76; refine Calls.mono (HC.out _ (by go_grown)) ?_; rintro e w3 ⟨rfl, hb3⟩; have r0 := cell_keep hb3 HS0.out; have r1 := cell_keep hb3 HS1.out; have S3 := HSB.out.keepA hb3; have HS3 := Lib.hid S3; obtain ⟨v0, v1, v2, v3, v4⟩ := S3; have l1 := World.block_lt_of_cell? _ _ r0; have HB3 := Lib.hid (Below.trans (show Below w.heap.size w _ by go_grown) (hb3.mono (by simp <;> omega))); clear hb3)
          | (go_at_call 77; refine Calls.mono (HBL.out _ (HB3.out.alloc HB3.out.size _) _ (HNW.out _)) ?_; rintro e w4 ⟨rfl, hb4⟩; obtain ⟨z0, z1, z2, z3, z4⟩ := HS3.out.keepA hb4; have l4 := World.block_lt_of_cell? _ _ z0; have HB4 := Lib.hid ((HB3.out.alloc HB3.out.size _).trans (hb4.mono (by simp; have := HB3.out.size; omega))); clear hb4)
          | (go_at_call_of 49 (Value.int .i64 0); refine (within_any 0 cable _ 1 _ _ [len] _ rfl (le_maxLen (by omega)) (RI.new1 (by simp))).mono ?_; rintro e w5 ⟨rfl, rfl⟩; rw [G1.out])
          | (go_at_call 49; refine (within_any 1 100000 _ 1 _ _ [wt] _ rfl (le_maxLen (by omega)) (RI.new1 (by simp))).mono ?_; rintro e w6 ⟨rfl, rfl⟩; rw [G2.out]))
        go_ret2
        exact ⟨rfl, (HB4.out.alloc HB4.out.size _).alloc (by simp; have := HB4.out.size; omega) _⟩
    · have G1 := Lib.hid (show wB 0 cable [len] = false by rw [wB_one]; simpa using g1)
      rw [show (true && (decide (0 ≤ len ∧ len ≤ cable) && decide (1 ≤ wt ∧ wt ≤ 100000))) = false by simp; intro h; omega]
      clear g1
      go_enter Try.func82, Try.ntmps82
      go_wp2_with (first
        | (go_at_call 76; refine Calls.mono (HC.out _ (by go_grown)) ?_; rintro e w3 ⟨rfl, hb3⟩; have r0 := cell_keep hb3 HS0.out; have r1 := cell_keep hb3 HS1.out; have S3 := HSB.out.keepA hb3; have HS3 := Lib.hid S3; obtain ⟨v0, v1, v2, v3, v4⟩ := S3; have l1 := World.block_lt_of_cell? _ _ r0; have HB3 := Lib.hid (Below.trans (show Below w.heap.size w _ by go_grown) (hb3.mono (by simp <;> omega))); clear hb3)
        | (go_at_call 77; refine Calls.mono (HBL.out _ (HB3.out.alloc HB3.out.size _) _ (HNW.out _)) ?_; rintro e w4 ⟨rfl, hb4⟩; obtain ⟨z0, z1, z2, z3, z4⟩ := HS3.out.keepA hb4; have l4 := World.block_lt_of_cell? _ _ z0; have HB4 := Lib.hid ((HB3.out.alloc HB3.out.size _).trans (hb4.mono (by simp; have := HB3.out.size; omega))); clear hb4)
        | (go_at_call 49; refine (within_any 0 cable _ 1 _ _ [len] _ rfl (le_maxLen (by omega)) (RI.new1 (by simp))).mono ?_; rintro e w5 ⟨rfl, rfl⟩; rw [G1.out]))
      go_ret2
      exact ⟨rfl, HB4.out.alloc HB4.out.size _⟩
end
end Go.Proofs.Ytnnmmojlgikdgaa

/- whole.First, whole.Last, with any closure. -/
namespace Go.Proofs.Ytnnmmojlgikdgaa
open Go.RowKit

/-- The function K, with what its closure keeps, answers p from lo to hi, in every world from w on. -/
def Answers (K : FuncId) (caps : Array Value) (lo hi : Int) (p : Int → Bool) (w : World) : Prop :=
  (∀ args W, Sem.run Try.prog (callFunc K args) W = Result.ok (Next.enter K args) W) ∧
  ∀ W n, Below w.heap.size w W → lo ≤ n → n ≤ hi → Calls Try.prog K (#[.int .i64 n] ++ caps) W fun e w' => e = .returned (.bool (p n)) ∧ Below W.heap.size W w'
theorem Answers.later {K : FuncId} {caps : Array Value} {lo hi : Int} {p : Int → Bool} {w w' : World} (h : Answers K caps lo hi p w) (hb : Below w.heap.size w w') : Answers K caps lo hi p w' :=
  ⟨h.1, fun W n hW => h.2 W n (hb.trans (hW.mono hb.size))⟩

set_option maxRecDepth 100000 in
theorem first_any (K : FuncId) (caps : Array Value) (lo hi : Int) (p : Int → Bool) (w : World) (h1 : -1000000000 ≤ lo) (h2 : hi ≤ 1000000000) (h3 : lo ≤ hi + 1) (mono : ∀ i j, lo ≤ i → i ≤ j → j ≤ hi → p i = true → p j = true)
    (HA : Answers K caps lo hi p w) :
    Calls Try.prog 105 #[.int .i64 lo, .int .i64 hi, .func (.func K) #[] caps] w fun e w' => e = .returned (.tuple #[.int .i64 (firB p lo (hi + 1 - lo).toNat), .bool (decide (firB p lo (hi + 1 - lo).toNat ≤ hi))]) ∧ Below w.heap.size w w' := by
  obtain ⟨eg, HI⟩ := HA
  obtain ⟨r, hr⟩ : ∃ r, firB p lo (hi + 1 - lo).toNat = r := ⟨_, rfl⟩
  rw [hr]
  have HR := Lib.hid hr
  clear hr
  have HC := Lib.hid HI
  have HM := Lib.hid mono
  clear HI mono
  go_enter Try.func105, Try.ntmps105
  go_wp2
  go_loopw [0, 1] (fun l h wr => ∃ a b : Int, l = .int .i64 a ∧ h = .int .i64 b ∧ lo ≤ a ∧ a ≤ b + 1 ∧ b ≤ hi ∧ (∀ j, lo ≤ j → j < a → p j = false) ∧ (b < hi → p (b + 1) = true) ∧ Below w.heap.size w wr) (fun l h _ => (intOf h + 1 - intOf l).toNat)
  case atStart => exact ⟨lo, hi, rfl, rfl, Int.le_refl _, h3, Int.le_refl _, fun j a b => by omega, fun a => by omega, Below.refl _ _⟩
  case round =>
    obtain ⟨a, b, rfl, rfl, ha, hab, hb, hf, ht, hbw⟩ := hrel
    have HF := Lib.hid hf
    have HT := Lib.hid ht
    have HBW := Lib.hid hbw
    clear hf ht hbw
    by_cases hlt : a ≤ b
    · obtain ⟨m, hm⟩ : ∃ m, a + (b - a) / 2 = m := ⟨_, rfl⟩
      have m1 : a ≤ m ∧ m ≤ b := by omega
      have HCm := Lib.hid (HC.out wr m HBW.out (by omega) (by omega))
      have hp0 : ∃ v, p m = v := ⟨_, rfl⟩
      obtain ⟨v, hp⟩ := hp0
      rw [hp] at HCm
      have HP := Lib.hid hp
      clear hp
      cases v with
      | true =>
        go_wp2_with (refine Calls.mono HCm.out ?_; rintro e w1 ⟨rfl, hb1⟩; have HB1 := Lib.hid (HBW.out.trans (hb1.mono HBW.out.size)); clear hb1)
        go_roundw
        case rel => exact ⟨a, m - 1, rfl, rfl, ha, by omega, by omega, HF.out, fun _ => by rw [show m - 1 + 1 = m by omega]; exact HP.out, HB1.out⟩
        case measure => simp [intOf]; omega
      | false =>
        go_wp2_with (refine Calls.mono HCm.out ?_; rintro e w1 ⟨rfl, hb1⟩; have HB1 := Lib.hid (HBW.out.trans (hb1.mono HBW.out.size)); clear hb1)
        go_roundw
        case rel => exact ⟨m + 1, b, rfl, rfl, by omega, by omega, hb, fun j j1 j2 => by
          by_cases hjm : j ≤ m
          · cases hj : p j with
            | false => rfl
            | true =>
              have := HM.out j m j1 hjm (by omega) hj
              rw [HP.out] at this
              cases this
          · omega, HT.out, HB1.out⟩
        case measure => simp [intOf]; omega
    · obtain rfl : b = a - 1 := by omega
      obtain rfl : r = a := by
        rw [← HR.out]
        exact firB_uniq ha (by omega) HF.out (fun h => by have := HT.out (by omega); rwa [show a - 1 + 1 = a by omega] at this)
      go_wp2
      go_ret2
      exact ⟨rfl, HBW.out⟩

/-- Last's closure. -/
theorem last1_answers (K : FuncId) (caps : Array Value) (lo hi : Int) (p : Int → Bool) (w : World) (g : Nat) (HA : Answers K caps lo hi p w) (hc : w.cell? ⟨g, 0, none⟩ = some (.func (.func K) #[] caps)) :
    Answers 106 #[.pointer (some ⟨g, 0, none⟩)] lo hi (fun n => !p n) w := by
  obtain ⟨eg, HI⟩ := HA
  refine ⟨Try.call106, fun W n hW n1 n2 => ?_⟩
  have HC := Lib.hid (HI W n hW n1 n2)
  have hcW := cell_keep hW hc
  clear HI hW hc
  show Calls Try.prog 106 #[.int .i64 n, .pointer (some ⟨g, 0, none⟩)] W fun e w' => e = .returned (.bool (!p n)) ∧ Below W.heap.size W w'
  generalize p n = v at *
  go_enter Try.func106, Try.ntmps106
  go_wp2_with (refine Calls.mono HC.out ?_; rintro e w1 ⟨rfl, hb1⟩; have HB1 := Lib.hid hb1; clear hb1)
  go_ret
  exact ⟨rfl, HB1.out⟩

/-- Last: the number, and whether there is one. -/
def lastN (p : Int → Bool) (lo hi : Int) : Int × Bool := (firB (fun n => !p n) lo (hi + 1 - lo).toNat - 1, decide (lo < firB (fun n => !p n) lo (hi + 1 - lo).toNat))
set_option maxRecDepth 100000 in
theorem last_any (K : FuncId) (caps : Array Value) (lo hi : Int) (p : Int → Bool) (w : World) (h1 : -1000000000 ≤ lo) (h2 : hi ≤ 1000000000) (h3 : lo ≤ hi) (mono : ∀ i j, lo ≤ i → i ≤ j → j ≤ hi → p j = true → p i = true)
    (HA : Answers K caps lo hi p w) :
    Calls Try.prog 72 #[.int .i64 lo, .int .i64 hi, .func (.func K) #[] caps] w fun e w' => e = .returned (.tuple #[.int .i64 (lastN p lo hi).1, .bool (lastN p lo hi).2]) ∧ Below w.heap.size w w' := by
  have hbd := firB_spec (fun n => !p n) (hi + 1 - lo).toNat lo
  have b1 := hbd.1
  have b2 := hbd.2.1
  have HF := Lib.hid (fun (W : World) (hW : Below w.heap.size w W) (g : Nat) (hc : W.cell? ⟨g, 0, none⟩ = some (.func (.func K) #[] caps)) => first_any 106 #[.pointer (some ⟨g, 0, none⟩)] lo hi (fun n => !p n) W h1 h2 (by omega) (fun i j a b c d => by
    cases hj : p j with
    | false => rfl
    | true =>
      have := mono i j a b c hj
      rw [this] at d
      cases d) (last1_answers K caps lo hi p W g (HA.later hW) hc))
  unfold lastN
  clear HA mono hbd
  generalize firB (fun n => !p n) lo (hi + 1 - lo).toNat = r at *
  by_cases hr : r ≤ hi
  · have hd : decide (r ≤ hi) = true := decide_eq_true hr
    rw [hd] at HF
    clear hd
    go_enter Try.func72, Try.ntmps72
    go_wp2_with (go_at_call 105; refine Calls.mono (HF.out _ (by go_grown) _ (by rw [cell_newest]; rfl)) ?_; rintro e w1 ⟨rfl, hb1⟩; have HB1 := Lib.hid (Below.trans (show Below w.heap.size w _ by go_grown) (hb1.mono (by simp <;> omega))); clear hb1)
    go_ret2
    exact ⟨rfl, HB1.out⟩
  · have hd : decide (r ≤ hi) = false := decide_eq_false hr
    rw [hd] at HF
    obtain rfl : hi = r - 1 := by omega
    clear hd
    go_enter Try.func72, Try.ntmps72
    go_wp2_with (go_at_call 105; refine Calls.mono (HF.out _ (by go_grown) _ (by rw [cell_newest]; rfl)) ?_; rintro e w1 ⟨rfl, hb1⟩; have HB1 := Lib.hid (Below.trans (show Below w.heap.size w _ by go_grown) (hb1.mono (by simp <;> omega))); clear hb1)
    go_ret2
    exact ⟨by rw [show decide (lo < r) = true by simp; omega]; rfl, HB1.out⟩
end Go.Proofs.Ytnnmmojlgikdgaa

/- bears; Carries and Deepest of both sides. -/
namespace Go.Proofs.Ytnnmmojlgikdgaa
open Go.RowKit

theorem hoist_cell (w : World) (cable charge y1 y2 : Int) (AX AY AV : Option Addr) (nx cx ny cy nv cv : Nat) (k : Nat) (v : Value) (T : TypeId) (hk : (#[Value.int .i64 y1, .int .i64 y2] : Array Value)[k]? = some v) :
    ((w.alloc (.cells #[.int .i64 cable, .slice AX nx cx, .slice AY ny cy, .slice AV nv cv, .int .i64 charge] T)).alloc (.cells #[.int .i64 y1, .int .i64 y2] 27)).cell? ⟨w.heap.size + 1, k, none⟩ = some v := by
  rw [show w.heap.size + 1 = (w.alloc (.cells #[.int .i64 cable, .slice AX nx cx, .slice AY ny cy, .slice AV nv cv, .int .i64 charge] T)).heap.size by simp, cell_newest]
  exact hk

section
variable (cable charge y1 y2 len wt : Int) (AX AY AV : Option Addr) (nx cx ny cy nv cv B : Nat) (X Y : List Int) (V : List (List Int)) (w : World)

set_option maxRecDepth 100000 in
theorem bears_any (h : HT w B AX AY AV nx ny nv X Y V) :
    Calls Try.prog 85 #[.agg #[.int .i64 cable, .slice AX nx cx, .slice AY ny cy, .slice AV nv cv, .int .i64 charge], .agg #[.int .i64 y1, .int .i64 y2], .int .i64 len, .int .i64 wt] w fun e w' => e = .returned (.bool (beaB X Y V len y1 y2 wt)) ∧ Below w.heap.size w w' := by
  have HBD := Lib.hid (fun (W : World) (hW : Below w.heap.size w W) => have h' := h.below hW; rBound_any AX AY AV nx cx ny cy nv cv B X Y V len len y1 y2 W h'.hx h'.hy h'.hv h'.mx h'.my h'.mv h'.mr h'.hB h'.tb)
  have HCR := Lib.hid (show beaB X Y V len y1 y2 wt = decide (wt ≤ (bndS X Y V len len y1 y2).1.1) from rfl)
  generalize beaB X Y V len y1 y2 wt = cb at *
  generalize bndS X Y V len len y1 y2 = bs at *
  obtain ⟨⟨p0, p1⟩, pe⟩ := bs
  simp only at HBD HCR
  clear h
  go_enter Try.func85, Try.ntmps85
  go_wp2_with (go_at_call 111; refine Calls.mono (HBD.out _ (by go_grown)) ?_; rintro e w3 ⟨rfl, hb3⟩; have HB3 := Lib.hid (Below.trans (show Below w.heap.size w _ by go_grown) (hb3.mono (by simp <;> omega))); clear hb3)
  go_ret
  exact ⟨ret_bool HCR.out.symm, (HB3.out.alloc HB3.out.size _)⟩

theorem carN_bad (h : cwE X Y V cable charge y1 y2 ≠ 0) : carN X Y V cable charge y1 y2 len wt = (false, cwE X Y V cable charge y1 y2) := by unfold carN; rw [if_neg h]
theorem carN_arg (h : cwE X Y V cable charge y1 y2 = 0) (h2 : ¬ ((0 ≤ len ∧ len ≤ cable) ∧ (1 ≤ wt ∧ wt ≤ 100000))) : carN X Y V cable charge y1 y2 len wt = (false, 1) := by unfold carN; rw [if_pos h, if_neg h2]
theorem carN_yes (h : cwE X Y V cable charge y1 y2 = 0) (h2 : (0 ≤ len ∧ len ≤ cable) ∧ (1 ≤ wt ∧ wt ≤ 100000)) : carN X Y V cable charge y1 y2 len wt = (beaB X Y V len y1 y2 wt, 0) := by unfold carN; rw [if_pos h, if_pos h2]
theorem carB_pos (a b : Int) (h : 1 ≤ wt) : carB X Y V a b y1 y2 wt = decide (wt ≤ loS X Y V a b y1 y2) := by
  unfold carB
  rw [show decide (wt = 0) = false by simp; omega]
  simp

set_option maxRecDepth 100000 in
theorem carriesT_any (h : HT w B AX AY AV nx ny nv X Y V) :
    Calls Try.prog 36 #[.agg #[.int .i64 cable, .slice AX nx cx, .slice AY ny cy, .slice AV nv cv, .int .i64 charge], .agg #[.int .i64 y1, .int .i64 y2], .int .i64 len, .int .i64 wt] w fun e w' =>
      e = .returned (.tuple #[.bool (carN X Y V cable charge y1 y2 len wt).1, .int .i64 (carN X Y V cable charge y1 y2 len wt).2]) ∧ Below w.heap.size w w' := by
  by_cases h0 : hwE X Y V cable charge y1 y2 = 0
  · have HL := Lib.hid (fun (W : World) (hW : Below w.heap.size w W) => loaded_ok cable charge y1 y2 len wt AX AY AV nx cx ny cy nv cv B X Y V W (h.below hW) h0)
    have hcw := cwE_ok h0
    cases hl : ldB Y cable y1 y2 len wt with
    | false =>
      rw [hl] at HL
      have e1 : carN X Y V cable charge y1 y2 len wt = (false, 1) := by
        unfold ldB at hl
        cases ho : osB Y (y1, y2) with
        | false =>
          rw [ho] at hcw
          rw [carN_bad _ _ _ _ _ _ _ _ _ (by rw [hcw]; simp), hcw]
          rfl
        | true =>
          rw [ho] at hcw hl
          refine carN_arg _ _ _ _ _ _ _ _ _ hcw ?_
          simpa using hl
      rw [e1]
      clear h h0 hcw hl e1
      go_enter Try.func36, Try.ntmps36
      go_wp2_with (go_at_call 82; refine Calls.mono (HL.out _ (by go_grown)) ?_; rintro e w3 ⟨rfl, hb3⟩; have HB3 := Lib.hid (Below.trans (show Below w.heap.size w _ by go_grown) (hb3.mono (by simp <;> omega))); clear hb3)
      go_ret2
      exact ⟨rfl, HB3.out⟩
    | true =>
      rw [hl] at HL
      unfold ldB at hl
      simp only [Bool.and_eq_true, decide_eq_true_eq] at hl
      obtain ⟨ho, h2⟩ := hl
      rw [ho] at hcw
      rw [carN_yes _ _ _ _ _ _ _ _ _ hcw h2]
      have HCA := Lib.hid (fun (W : World) (hW : Below w.heap.size w W) (g : Nat) (hq : WN W g cable AX nx cx AY ny cy AV nv cv charge zeroH y1 y2) => carries_any g cable charge y1 y2 len len wt zeroH AX AY AV nx cx ny cy nv cv B X Y V W (h.below hW) hq)
      rw [carB_pos y1 y2 wt X Y V len len h2.2.1] at HCA
      have HAL := Lib.hid (alone_any len)
      have HBE := Lib.hid (show beaB X Y V len y1 y2 wt = decide (wt ≤ loS X Y V len len y1 y2) from rfl)
      generalize beaB X Y V len y1 y2 wt = bb at *
      rw [← HBE.out] at HCA
      clear h h0 hcw ho h2
      go_enter Try.func36, Try.ntmps36
      go_wp2_with (first
        | (go_at_call 82; refine Calls.mono (HL.out _ (by go_grown)) ?_; rintro e w3 ⟨g, rfl, hw3, hb3⟩; have HW3 := Lib.hid hw3; have HB3 := Lib.hid (Below.trans (show Below w.heap.size w _ by go_grown) (hb3.mono (by simp <;> omega))); clear hb3 hw3)
        | (go_at_call 84; refine Calls.mono (HAL.out _) ?_; rintro e w4 ⟨rfl, hb4⟩; have HW4 := Lib.hid (HW3.out.stay hb4); have HB4 := Lib.hid (HB3.out.trans (hb4.mono HB3.out.size)); clear hb4)
        | (go_at_call 83; refine Calls.mono (HCA.out _ HB4.out _ HW4.out) ?_; rintro e w5 ⟨rfl, hb5⟩; have HB5 := Lib.hid (HB4.out.trans (hb5.mono HB4.out.size)); clear hb5))
      go_ret2
      exact ⟨rfl, HB5.out⟩
  · have HL := Lib.hid (fun (W : World) (hW : Below w.heap.size w W) => loaded_bad cable charge y1 y2 len wt AX AY AV nx cx ny cy nv cv B X Y V W (h.below hW) h0)
    have hcw := cwE_hw h0
    rw [carN_bad _ _ _ _ _ _ _ _ _ (by rw [hcw]; exact h0), hcw]
    clear h hcw
    generalize hwE X Y V cable charge y1 y2 = c at *
    have hc : (c != 0) = true := by rw [bne_iff_ne]; exact h0
    clear h0
    go_enter Try.func36, Try.ntmps36
    go_wp2_with (go_at_call 82; refine Calls.mono (HL.out _ (by go_grown)) ?_; rintro e w3 ⟨rfl, hb3⟩; have HB3 := Lib.hid (Below.trans (show Below w.heap.size w _ by go_grown) (hb3.mono (by simp <;> omega))); clear hb3)
    go_ret2
    exact ⟨rfl, HB3.out⟩

set_option maxRecDepth 100000 in
theorem rcarries_any (h : HT w B AX AY AV nx ny nv X Y V) :
    Calls Try.prog 37 #[.agg #[.int .i64 cable, .slice AX nx cx, .slice AY ny cy, .slice AV nv cv, .int .i64 charge], .agg #[.int .i64 y1, .int .i64 y2], .int .i64 len, .int .i64 wt] w fun e w' =>
      e = .returned (.tuple #[.bool (carN X Y V cable charge y1 y2 len wt).1, .int .i64 (carN X Y V cable charge y1 y2 len wt).2]) ∧ Below w.heap.size w w' := by
  have HCW := Lib.hid (fun (W : World) (hW : Below w.heap.size w W) => checkWinds_any cable charge y1 y2 AX AY AV nx cx ny cy nv cv B X Y V W (h.below hW))
  have HBE := Lib.hid (fun (W : World) (hW : Below w.heap.size w W) => bears_any cable charge y1 y2 len wt AX AY AV nx cx ny cy nv cv B X Y V W (h.below hW))
  have HSB := Lib.hid (HB.new (cable := cable) (AX := AX) (nx := nx) (cx := cx) (AY := AY) (ny := ny) (cy := cy) (AV := AV) (nv := nv) (cv := cv) (charge := charge) w 57)
  have HS0 := Lib.hid (hoist_cell w cable charge y1 y2 AX AY AV nx cx ny cy nv cv 0 _ 57 rfl)
  have HS1 := Lib.hid (hoist_cell w cable charge y1 y2 AX AY AV nx cx ny cy nv cv 1 _ 57 rfl)
  by_cases h0 : cwE X Y V cable charge y1 y2 = 0
  · rw [h0] at HCW
    by_cases h2 : (0 ≤ len ∧ len ≤ cable) ∧ (1 ≤ wt ∧ wt ≤ 100000)
    · rw [carN_yes _ _ _ _ _ _ _ _ _ h0 h2]
      generalize beaB X Y V len y1 y2 wt = bb at *
      have H1 := Lib.hid (w7_yes h2.1.1 h2.1.2)
      have H2 := Lib.hid (w7_yes h2.2.1 h2.2.2)
      clear h h0 h2
      go_enter Try.func37, Try.ntmps37
      go_wp2_with (first
        | (go_at_call 46; refine Calls.mono (HCW.out _ (by go_grown)) ?_; rintro e w3 ⟨rfl, hb3⟩; have r0 := cell_keep hb3 HS0.out; have r1 := cell_keep hb3 HS1.out; obtain ⟨v0, v1, v2, v3, v4⟩ := HSB.out.keepA hb3; have l1 := World.block_lt_of_cell? _ _ r0; have HB3 := Lib.hid (Below.trans (show Below w.heap.size w _ by go_grown) (hb3.mono (by simp <;> omega))); clear hb3)
        | (go_at_call 50; with_reducible refine Calls.mono (H1.out _) ?_; rintro e w4 ⟨rfl, rfl⟩)
        | (go_at_call 50; with_reducible refine Calls.mono (H2.out _) ?_; rintro e w4 ⟨rfl, rfl⟩)
        | (go_at_call 85; refine Calls.mono (HBE.out _ HB3.out) ?_; rintro e w5 ⟨rfl, hb5⟩; have HB5 := Lib.hid (HB3.out.trans (hb5.mono HB3.out.size)); clear hb5))
      go_ret2
      exact ⟨rfl, HB5.out⟩
    · rw [carN_arg _ _ _ _ _ _ _ _ _ h0 h2]
      by_cases g1 : 0 ≤ len ∧ len ≤ cable
      · have g2 : ¬ (1 ≤ wt ∧ wt ≤ 100000) := fun h => h2 ⟨g1, h⟩
        have H1 := Lib.hid (w7_yes g1.1 g1.2)
        have H2 := Lib.hid (w7_no g2)
        clear h h0 h2 g1 g2
        go_enter Try.func37, Try.ntmps37
        go_wp2_with (first
          | (go_at_call 46; refine Calls.mono (HCW.out _ (by go_grown)) ?_; rintro e w3 ⟨rfl, hb3⟩; have r0 := cell_keep hb3 HS0.out; have r1 := cell_keep hb3 HS1.out; obtain ⟨v0, v1, v2, v3, v4⟩ := HSB.out.keepA hb3; have l1 := World.block_lt_of_cell? _ _ r0; have HB3 := Lib.hid (Below.trans (show Below w.heap.size w _ by go_grown) (hb3.mono (by simp <;> omega))); clear hb3)
          | (go_at_call 50; with_reducible refine Calls.mono (H1.out _) ?_; rintro e w4 ⟨rfl, rfl⟩)
          | (go_at_call 50; with_reducible refine Calls.mono (H2.out _) ?_; rintro e w4 ⟨rfl, rfl⟩))
        go_ret2
        exact ⟨rfl, HB3.out⟩
      · have H1 := Lib.hid (w7_no g1)
        clear h h0 h2 g1
        go_enter Try.func37, Try.ntmps37
        go_wp2_with (first
          | (go_at_call 46; refine Calls.mono (HCW.out _ (by go_grown)) ?_; rintro e w3 ⟨rfl, hb3⟩; have r0 := cell_keep hb3 HS0.out; have r1 := cell_keep hb3 HS1.out; obtain ⟨v0, v1, v2, v3, v4⟩ := HSB.out.keepA hb3; have l1 := World.block_lt_of_cell? _ _ r0; have HB3 := Lib.hid (Below.trans (show Below w.heap.size w _ by go_grown) (hb3.mono (by simp <;> omega))); clear hb3)
          | (go_at_call 50; with_reducible refine Calls.mono (H1.out _) ?_; rintro e w4 ⟨rfl, rfl⟩))
        go_ret2
        exact ⟨rfl, HB3.out⟩
  · rw [carN_bad _ _ _ _ _ _ _ _ _ h0]
    generalize cwE X Y V cable charge y1 y2 = c at *
    have hc : (c != 0) = true := by rw [bne_iff_ne]; exact h0
    clear h0 h
    go_enter Try.func37, Try.ntmps37
    go_wp2_with (go_at_call 46; refine Calls.mono (HCW.out _ (by go_grown)) ?_; rintro e w3 ⟨rfl, hb3⟩; have HB3 := Lib.hid (Below.trans (show Below w.heap.size w _ by go_grown) (hb3.mono (by simp <;> omega))); clear hb3)
    go_ret2
    exact ⟨rfl, HB3.out⟩
end
end Go.Proofs.Ytnnmmojlgikdgaa

/- Deepest of both sides. -/
namespace Go.Proofs.Ytnnmmojlgikdgaa
open Go.RowKit

theorem fir_same {X Y : List Int} {V : List (List Int)} {cable y1 y2 wt : Int} (hz : HZ X Y V cable y1 y2) (hw : 1 ≤ wt ∧ wt ≤ 100000) :
    firB (fun n => !carB X Y V 0 n y1 y2 wt) 0 (cable + 1 - 0).toNat = firB (fun n => !beaB X Y V n y1 y2 wt) 0 (cable + 1).toNat := by
  have c1 := hz.c1
  have key : ∀ n, 0 ≤ n → n ≤ cable → (carB X Y V 0 n y1 y2 wt = true ↔ ∀ l, 0 ≤ l → l ≤ n → beaB X Y V l y1 y2 wt = true) := fun n h0 h1 => by
    rw [carB_pos y1 y2 wt X Y V 0 n hw.1, decide_eq_true_eq, hz.all_iff h0 h1 (by omega)]
    simp [beaB]
  obtain ⟨s1, s2, s3, s4⟩ := firB_spec (fun n => !beaB X Y V n y1 y2 wt) (cable + 1).toNat 0
  rw [show (cable + 1 - 0).toNat = (cable + 1).toNat by rw [Int.sub_zero]]
  refine firB_uniq s1 s2 (fun j j1 j2 => ?_) (fun h => ?_)
  · have : carB X Y V 0 j y1 y2 wt = true := (key j j1 (by omega)).2 fun l l1 l2 => by
      have := s3 l l1 (by omega)
      simpa using this
    simp [this]
  · have hs := s4 h
    generalize firB (fun n => !beaB X Y V n y1 y2 wt) 0 (cable + 1).toNat = m at *
    cases hc : carB X Y V 0 m y1 y2 wt with
    | false => rfl
    | true =>
      have := (key m s1 (by omega)).1 hc m s1 (Int.le_refl m)
      simp only [this] at hs
      cases hs
theorem car_mono {X Y : List Int} {V : List (List Int)} {cable y1 y2 wt : Int} (hz : HZ X Y V cable y1 y2) (hw : 1 ≤ wt ∧ wt ≤ 100000) (i j : Int) (h0 : 0 ≤ i) (hij : i ≤ j) (h1 : j ≤ cable) (h : carB X Y V 0 j y1 y2 wt = true) : carB X Y V 0 i y1 y2 wt = true := by
  rw [carB_pos y1 y2 wt X Y V 0 _ hw.1, decide_eq_true_eq] at h ⊢
  rw [hz.all_iff (by omega) h1 (by omega)] at h
  rw [hz.all_iff h0 (by omega) (by omega)]
  exact fun l l1 l2 => h l l1 (by omega)

section
variable (cable charge y1 y2 wt : Int) (AX AY AV : Option Addr) (nx cx ny cy nv cv B : Nat) (X Y : List Int) (V : List (List Int)) (w : World)

set_option maxRecDepth 100000 in
theorem deepest1_answers (gw gt g : Nat) (h : HT w B AX AY AV nx ny nv X Y V) (hq : WN w g cable AX nx cx AY ny cy AV nv cv charge zeroH y1 y2) (hw : w.cell? ⟨gw, 0, none⟩ = some (.pointer (some ⟨g, 0, none⟩))) (ht : w.cell? ⟨gt, 0, none⟩ = some (.int .i64 wt)) :
    Answers 86 #[.pointer (some ⟨gw, 0, none⟩), .pointer (some ⟨gt, 0, none⟩)] 0 cable (fun n => carB X Y V 0 n y1 y2 wt) w := by
  refine ⟨Try.call86, fun W n hW _ _ => ?_⟩
  have HCA := Lib.hid (carries_any g cable charge y1 y2 0 n wt zeroH AX AY AV nx cx ny cy nv cv B X Y V W (h.below hW) (hq.stay hW))
  have c0 := cell_keep hW hw
  have c1 := cell_keep hW ht
  clear h hq hw ht hW
  show Calls Try.prog 86 #[.int .i64 n, .pointer (some ⟨gw, 0, none⟩), .pointer (some ⟨gt, 0, none⟩)] W fun e w' => e = .returned (.bool (carB X Y V 0 n y1 y2 wt)) ∧ Below W.heap.size W w'
  generalize carB X Y V 0 n y1 y2 wt = cb at *
  go_enter Try.func86, Try.ntmps86
  go_wp2_with (go_at_call 83; refine Calls.mono HCA.out ?_; rintro e w3 ⟨rfl, hb3⟩; have HB3 := Lib.hid hb3; clear hb3)
  go_ret
  exact ⟨rfl, HB3.out⟩

theorem deepN_bad (h : cwE X Y V cable charge y1 y2 ≠ 0) : deepN X Y V cable charge y1 y2 wt = (0, cwE X Y V cable charge y1 y2) := by unfold deepN; rw [if_neg h]
theorem deepN_arg (h : cwE X Y V cable charge y1 y2 = 0) (h2 : ¬ (1 ≤ wt ∧ wt ≤ 100000)) : deepN X Y V cable charge y1 y2 wt = (0, 1) := by unfold deepN; rw [if_pos h, if_neg h2]
theorem deepN_yes (h : cwE X Y V cable charge y1 y2 = 0) (h2 : 1 ≤ wt ∧ wt ≤ 100000) : deepN X Y V cable charge y1 y2 wt = if deepR X Y V cable y1 y2 wt < 0 then (0, 3) else (deepR X Y V cable y1 y2 wt, 0) := by unfold deepN; rw [if_pos h, if_pos h2]

set_option maxRecDepth 100000 in
set_option maxHeartbeats 1000000 in
theorem deepest_any (h : HT w B AX AY AV nx ny nv X Y V) :
    Calls Try.prog 38 #[.agg #[.int .i64 cable, .slice AX nx cx, .slice AY ny cy, .slice AV nv cv, .int .i64 charge], .agg #[.int .i64 y1, .int .i64 y2], .int .i64 wt] w fun e w' =>
      e = .returned (.tuple #[.int .i64 (deepN X Y V cable charge y1 y2 wt).1, .int .i64 (deepN X Y V cable charge y1 y2 wt).2]) ∧ Below w.heap.size w w' := by
  by_cases h0 : hwE X Y V cable charge y1 y2 = 0
  · have HL := Lib.hid (fun (W : World) (hW : Below w.heap.size w W) => loaded_ok cable charge y1 y2 0 wt AX AY AV nx cx ny cy nv cv B X Y V W (h.below hW) h0)
    have hcw := cwE_ok h0
    have hc1 := (hoB_get (hwE_get h0).1).1
    cases hl : ldB Y cable y1 y2 0 wt with
    | false =>
      rw [hl] at HL
      have e1 : deepN X Y V cable charge y1 y2 wt = (0, 1) := by
        unfold ldB at hl
        cases ho : osB Y (y1, y2) with
        | false =>
          rw [ho] at hcw
          rw [deepN_bad _ _ _ _ _ _ _ _ (by rw [hcw]; simp), hcw]
          rfl
        | true =>
          rw [ho] at hcw hl
          refine deepN_arg _ _ _ _ _ _ _ _ hcw ?_
          simp at hl
          omega
      rw [e1]
      clear h h0 hcw hl e1 hc1
      go_enter Try.func38, Try.ntmps38
      go_wp2_with (go_at_call 82; refine Calls.mono (HL.out _ (by go_grown)) ?_; rintro e w3 ⟨rfl, hb3⟩; have HB3 := Lib.hid (Below.trans (show Below w.heap.size w _ by go_grown) (hb3.mono (by simp <;> omega))); clear hb3)
      go_ret2
      exact ⟨rfl, HB3.out.alloc HB3.out.size _⟩
    | true =>
      rw [hl] at HL
      unfold ldB at hl
      simp only [Bool.and_eq_true, decide_eq_true_eq] at hl
      obtain ⟨ho, _, h2⟩ := hl
      rw [ho] at hcw
      have hz := hz_of hcw
      rw [deepN_yes _ _ _ _ _ _ _ _ hcw h2]
      have HLA := Lib.hid (fun (W : World) (hW : Below w.heap.size w W) (gw gt g : Nat) (hq : WN W g cable AX nx cx AY ny cy AV nv cv charge zeroH y1 y2) (hw : W.cell? ⟨gw, 0, none⟩ = some (.pointer (some ⟨g, 0, none⟩))) (ht : W.cell? ⟨gt, 0, none⟩ = some (.int .i64 wt)) =>
        last_any 86 #[.pointer (some ⟨gw, 0, none⟩), .pointer (some ⟨gt, 0, none⟩)] 0 cable (fun n => carB X Y V 0 n y1 y2 wt) W (by omega) (by omega) (by omega) (fun i j a b c d => car_mono hz h2 i j a b c d) (deepest1_answers cable charge y1 y2 wt AX AY AV nx cx ny cy nv cv B X Y V W gw gt g (h.below hW) hq hw ht))
      have hla : lastN (fun n => carB X Y V 0 n y1 y2 wt) 0 cable = (deepR X Y V cable y1 y2 wt, decide (0 ≤ deepR X Y V cable y1 y2 wt)) := by
        unfold lastN deepR
        rw [fir_same hz h2]
        generalize firB (fun n => !beaB X Y V n y1 y2 wt) 0 (cable + 1).toNat = m
        have : decide (0 < m) = decide (0 ≤ m - 1) := by
          rw [decide_eq_decide]
          omega
        rw [this]
      rw [hla] at HLA
      generalize deepR X Y V cable y1 y2 wt = r at *
      have HSB := Lib.hid (HB.new (cable := cable) (AX := AX) (nx := nx) (cx := cx) (AY := AY) (ny := ny) (cy := cy) (AV := AV) (nv := nv) (cv := cv) (charge := charge) w 57)
      have HWT := Lib.hid (show (((w.alloc (.cells #[.int .i64 cable, .slice AX nx cx, .slice AY ny cy, .slice AV nv cv, .int .i64 charge] 57)).alloc (.cells #[.int .i64 y1, .int .i64 y2] 27)).alloc (.cells #[.int .i64 wt] 3)).cell? ⟨w.heap.size + 1 + 1, 0, none⟩ = some (.int .i64 wt) by
        rw [show w.heap.size + 1 + 1 = ((w.alloc (.cells #[.int .i64 cable, .slice AX nx cx, .slice AY ny cy, .slice AV nv cv, .int .i64 charge] 57)).alloc (.cells #[.int .i64 y1, .int .i64 y2] 27)).heap.size by simp, cell_newest]; rfl)
      have HS2 := Lib.hid (show HB (((w.alloc (.cells #[.int .i64 cable, .slice AX nx cx, .slice AY ny cy, .slice AV nv cv, .int .i64 charge] 57)).alloc (.cells #[.int .i64 y1, .int .i64 y2] 27)).alloc (.cells #[.int .i64 wt] 3)) w.heap.size cable AX nx cx AY ny cy AV nv cv charge from (HSB.out.keep ((Below.refl _ _).alloc (Nat.le_refl _) _)).keep ((Below.refl _ _).alloc (Nat.le_refl _) _))
      clear h h0 hcw ho h2 hz hla hc1
      by_cases hr : r < 0
      · rw [if_pos hr]
        have hd : decide (0 ≤ r) = false := by simp; omega
        rw [hd] at HLA
        clear hd hr
        go_enter Try.func38, Try.ntmps38
        go_wp2_with (first
          | (go_at_call 82; refine Calls.mono (HL.out _ (by go_grown)) ?_; rintro e w3 ⟨g, rfl, hw3, hb3⟩; have HW3 := Lib.hid hw3; have HT3 := Lib.hid (cell_keep hb3 HWT.out); obtain ⟨v0, v1, v2, v3, v4⟩ := HS2.out.keep hb3; have l1 := World.block_lt_of_cell? _ _ v0; have HB3 := Lib.hid (Below.trans (show Below w.heap.size w _ by go_grown) (hb3.mono (by simp <;> omega))); clear hb3 hw3)
          | (go_at_call 72; refine Calls.mono (HLA.out _ (HB3.out.alloc HB3.out.size _) w3.heap.size _ g (HW3.out.stay ((Below.refl _ _).alloc (Nat.le_refl _) _)) (by rw [cell_newest]; rfl) (cell_keep ((Below.refl _ _).alloc (Nat.le_refl _) _) HT3.out)) ?_; rintro e w4 ⟨rfl, hb4⟩; have HB4 := Lib.hid ((HB3.out.alloc HB3.out.size _).trans (hb4.mono (by simp; have := HB3.out.size; omega))); clear hb4))
        go_ret2
        exact ⟨rfl, HB4.out⟩
      · rw [if_neg hr]
        have hd : decide (0 ≤ r) = true := by simp; omega
        rw [hd] at HLA
        clear hd hr
        go_enter Try.func38, Try.ntmps38
        go_wp2_with (first
          | (go_at_call 82; refine Calls.mono (HL.out _ (by go_grown)) ?_; rintro e w3 ⟨g, rfl, hw3, hb3⟩; have HW3 := Lib.hid hw3; have HT3 := Lib.hid (cell_keep hb3 HWT.out); obtain ⟨v0, v1, v2, v3, v4⟩ := HS2.out.keep hb3; have l1 := World.block_lt_of_cell? _ _ v0; have HB3 := Lib.hid (Below.trans (show Below w.heap.size w _ by go_grown) (hb3.mono (by simp <;> omega))); clear hb3 hw3)
          | (go_at_call 72; refine Calls.mono (HLA.out _ (HB3.out.alloc HB3.out.size _) w3.heap.size _ g (HW3.out.stay ((Below.refl _ _).alloc (Nat.le_refl _) _)) (by rw [cell_newest]; rfl) (cell_keep ((Below.refl _ _).alloc (Nat.le_refl _) _) HT3.out)) ?_; rintro e w4 ⟨rfl, hb4⟩; have HB4 := Lib.hid ((HB3.out.alloc HB3.out.size _).trans (hb4.mono (by simp; have := HB3.out.size; omega))); clear hb4))
        go_ret2
        exact ⟨rfl, HB4.out⟩
  · have HL := Lib.hid (fun (W : World) (hW : Below w.heap.size w W) => loaded_bad cable charge y1 y2 0 wt AX AY AV nx cx ny cy nv cv B X Y V W (h.below hW) h0)
    have hcw := cwE_hw h0
    rw [deepN_bad _ _ _ _ _ _ _ _ (by rw [hcw]; exact h0), hcw]
    clear h hcw
    generalize hwE X Y V cable charge y1 y2 = c at *
    have hc : (c != 0) = true := by rw [bne_iff_ne]; exact h0
    clear h0
    go_enter Try.func38, Try.ntmps38
    go_wp2_with (go_at_call 82; refine Calls.mono (HL.out _ (by go_grown)) ?_; rintro e w3 ⟨rfl, hb3⟩; have HB3 := Lib.hid (Below.trans (show Below w.heap.size w _ by go_grown) (hb3.mono (by simp <;> omega))); clear hb3)
    go_ret2
    exact ⟨rfl, HB3.out.alloc HB3.out.size _⟩

set_option maxRecDepth 100000 in
set_option maxHeartbeats 1000000 in
theorem rdeepest_any (h : HT w B AX AY AV nx ny nv X Y V) :
    Calls Try.prog 39 #[.agg #[.int .i64 cable, .slice AX nx cx, .slice AY ny cy, .slice AV nv cv, .int .i64 charge], .agg #[.int .i64 y1, .int .i64 y2], .int .i64 wt] w fun e w' =>
      e = .returned (.tuple #[.int .i64 (deepN X Y V cable charge y1 y2 wt).1, .int .i64 (deepN X Y V cable charge y1 y2 wt).2]) ∧ Below w.heap.size w w' := by
  have HCW := Lib.hid (fun (W : World) (hW : Below w.heap.size w W) => checkWinds_any cable charge y1 y2 AX AY AV nx cx ny cy nv cv B X Y V W (h.below hW))
  have HSB := Lib.hid (HB.new (cable := cable) (AX := AX) (nx := nx) (cx := cx) (AY := AY) (ny := ny) (cy := cy) (AV := AV) (nv := nv) (cv := cv) (charge := charge) w 57)
  have HS0 := Lib.hid (hoist_cell w cable charge y1 y2 AX AY AV nx cx ny cy nv cv 0 _ 57 rfl)
  have HS1 := Lib.hid (hoist_cell w cable charge y1 y2 AX AY AV nx cx ny cy nv cv 1 _ 57 rfl)
  by_cases h0 : cwE X Y V cable charge y1 y2 = 0
  · have hz := hz_of h0
    have hc1 := hz.c1
    have hc2 := hz.c2
    rw [h0] at HCW
    by_cases h2 : 1 ≤ wt ∧ wt ≤ 100000
    · rw [deepN_yes _ _ _ _ _ _ _ _ h0 h2]
      have H2 := Lib.hid (w7_yes h2.1 h2.2)
      have HBE := Lib.hid (fun (n : Int) (W : World) (hW : Below w.heap.size w W) => bears_any cable charge y1 y2 n wt AX AY AV nx cx ny cy nv cv B X Y V W (h.below hW))
      have HDR := Lib.hid (fun m (a : 0 ≤ m) (b : m ≤ 0 + ((cable + 1).toNat : Int)) (c : ∀ j, 0 ≤ j → j < m → (!beaB X Y V j y1 y2 wt) = false) (d : m < 0 + ((cable + 1).toNat : Int) → (!beaB X Y V m y1 y2 wt) = true) => show deepR X Y V cable y1 y2 wt = m - 1 by unfold deepR; rw [firB_uniq a b c d])
      generalize deepR X Y V cable y1 y2 wt = r at *
      obtain ⟨⟨da, db⟩, hd⟩ : ∃ d : Int × Int, (if r < 0 then ((0 : Int), (3 : Int)) else (r, 0)) = d := ⟨_, rfl⟩
      rw [hd]
      have HDV := Lib.hid hd
      dsimp only
      clear hd
      generalize hbea : (fun n => beaB X Y V n y1 y2 wt) = bea at *
      have hbe : ∀ n, beaB X Y V n y1 y2 wt = bea n := fun n => by rw [← hbea]
      simp only [hbe] at HBE HDR
      clear h h0 h2 hz hbea hbe
      go_enter Try.func39, Try.ntmps39
      go_wp2_with (first
        | (go_at_call 46; refine Calls.mono (HCW.out _ (by go_grown)) ?_; rintro e w3 ⟨rfl, hb3⟩; have r0 := cell_keep hb3 HS0.out; have r1 := cell_keep hb3 HS1.out; have HS3 := Lib.hid (HSB.out.keepA hb3); have l1 := World.block_lt_of_cell? _ _ r0; have HB3 := Lib.hid (Below.trans (show Below w.heap.size w _ by go_grown) (hb3.mono (by simp <;> omega))); clear hb3)
        | (go_at_call 50; refine Calls.mono (H2.out _) ?_; rintro e w4 ⟨rfl, rfl⟩))
      have HR0 := Lib.hid r0
      have HR1 := Lib.hid r1
      clear r0 r1 l1
      go_loopw [9, 10] (fun b i wr => ∃ k : Nat, (k : Int) ≤ cable + 1 ∧ b = .int .i64 ((k : Int) - 1) ∧ i = .int .i64 k ∧ (∀ j, 0 ≤ j → j < (k : Int) → bea j = true) ∧ Below w3.heap.size w3 wr) (fun _ i _ => (cable + 1 - intOf i).toNat)
      case atStart => exact ⟨0, by omega, rfl, rfl, fun j a b => by omega, Below.refl _ _⟩
      case round =>
        obtain ⟨k, hk, rfl, rfl, hall, hbw⟩ := hrel
        have HAL := Lib.hid hall
        have HBW := Lib.hid hbw
        obtain ⟨v0, v1, v2, v3, v4⟩ := HS3.out.keep hbw
        have u0 := cell_keep hbw HR0.out
        have u1 := cell_keep hbw HR1.out
        have l1 := World.block_lt_of_cell? _ _ u0
        clear hall hbw
        by_cases hlt : (k : Int) ≤ cable
        · have HBk := Lib.hid (HBE.out k wr (HB3.out.trans (HBW.out.mono HB3.out.size)))
          obtain ⟨v, hv⟩ : ∃ v, bea k = v := ⟨_, rfl⟩
          rw [hv] at HBk
          have HV := Lib.hid hv
          clear hv
          cases v with
          | true =>
            go_wp2_with (go_at_call 85; refine Calls.mono HBk.out ?_; rintro e w5 ⟨rfl, hb5⟩; have HB5 := Lib.hid (HBW.out.trans (hb5.mono HBW.out.size)); clear hb5)
            go_roundw
            case rel => exact ⟨k + 1, by omega, by go_num, by go_num, fun j a b => by
              by_cases e : j = k
              · rw [e]; exact HV.out
              · exact HAL.out j a (by omega), HB5.out⟩
            case measure => simp [intOf]; omega
          | false =>
            have HD := Lib.hid (HDR.out k (by omega) (by omega) (fun j a b => by rw [HAL.out j a b]; rfl) (fun _ => by rw [HV.out]; rfl))
            clear HDR
            by_cases hk0 : k = 0
            · subst hk0
              have HE := Lib.hid (show da = 0 ∧ db = 3 by have := HDV.out; rw [HD.out, if_pos (by simp)] at this; cases this; exact ⟨rfl, rfl⟩)
              go_wp2_with (go_at_call 85; refine Calls.mono HBk.out ?_; rintro e w5 ⟨rfl, hb5⟩; have HB5 := Lib.hid (HBW.out.trans (hb5.mono HBW.out.size)); clear hb5)
              go_ret2
              exact ⟨by rw [HE.out.1, HE.out.2]; rfl, HB3.out.trans (HB5.out.mono HB3.out.size)⟩
            · have HE := Lib.hid (show da = (k : Int) - 1 ∧ db = 0 by have := HDV.out; rw [HD.out, if_neg (by omega)] at this; cases this; exact ⟨rfl, rfl⟩)
              have hk1 : ¬ ((k : Int) - 1 < 0) := by omega
              clear hk0
              go_wp2_with (go_at_call 85; refine Calls.mono HBk.out ?_; rintro e w5 ⟨rfl, hb5⟩; have HB5 := Lib.hid (HBW.out.trans (hb5.mono HBW.out.size)); clear hb5)
              go_ret2
              exact ⟨by rw [HE.out.1, HE.out.2]; rfl, HB3.out.trans (HB5.out.mono HB3.out.size)⟩
        · have HD := Lib.hid (HDR.out k (by omega) (by omega) (fun j a b => by rw [HAL.out j a b]; rfl) (fun h => by omega))
          clear HDR
          have HE := Lib.hid (show da = (k : Int) - 1 ∧ db = 0 by have := HDV.out; rw [HD.out, if_neg (by omega)] at this; cases this; exact ⟨rfl, rfl⟩)
          have hk1 : ¬ ((k : Int) - 1 < 0) := by omega
          go_wp2
          go_ret2
          exact ⟨by rw [HE.out.1, HE.out.2]; rfl, HB3.out.trans (HBW.out.mono HB3.out.size)⟩
    · rw [deepN_arg _ _ _ _ _ _ _ _ h0 h2]
      have H2 := Lib.hid (w7_no h2)
      clear h h0 h2 hz
      go_enter Try.func39, Try.ntmps39
      go_wp2_with (first
        | (go_at_call 46; refine Calls.mono (HCW.out _ (by go_grown)) ?_; rintro e w3 ⟨rfl, hb3⟩; have HB3 := Lib.hid (Below.trans (show Below w.heap.size w _ by go_grown) (hb3.mono (by simp <;> omega))); clear hb3)
        | (go_at_call 50; refine Calls.mono (H2.out _) ?_; rintro e w4 ⟨rfl, rfl⟩))
      go_ret2
      exact ⟨rfl, HB3.out⟩
  · rw [deepN_bad _ _ _ _ _ _ _ _ h0]
    generalize cwE X Y V cable charge y1 y2 = c at *
    have hc : (c != 0) = true := by rw [bne_iff_ne]; exact h0
    clear h0 h
    go_enter Try.func39, Try.ntmps39
    go_wp2_with (go_at_call 46; refine Calls.mono (HCW.out _ (by go_grown)) ?_; rintro e w3 ⟨rfl, hb3⟩; have HB3 := Lib.hid (Below.trans (show Below w.heap.size w _ by go_grown) (hb3.mono (by simp <;> omega))); clear hb3)
    go_ret2
    exact ⟨rfl, HB3.out⟩
end
end Go.Proofs.Ytnnmmojlgikdgaa

/- A drawn region whose last operation fills a box that was there. -/
namespace Go.Proofs.Ytnnmmojlgikdgaa
open Go.RowKit

def RT (Q : Nat → Value → World → Prop) (W0 : World) (s : Nat) (f : World → World) (val : Nat → Value) (L : Array Bool) (W : World) : Prop :=
  (L.getD s false = false → RQ Q W0 val L W) ∧ (L.getD s false = true → ∃ y, RQ Q W0 val (L.setIfInBounds s false) y ∧ W = f y)
section
variable {Q : Nat → Value → World → Prop} {W0 W W' : World} {s i : Nat} {f : World → World} {v : Value} {val : Nat → Value} {L : Array Bool}
theorem RT.start (Q : Nat → Value → World → Prop) (W0 : World) (s : Nat) (f : World → World) (n : Nat) : RT Q W0 s f (fun _ => undef) (Array.replicate n false) W0.drew :=
  ⟨fun _ => RQ.start Q W0 n, fun h => by rw [getD_replicate_no] at h; cases h⟩
theorem RT.step (h : RQ Q W0 val L W) (hQ : Stays Q) (hb : Below W.heap.size W W') (hq : Q i v W') (hs : i ≠ s) (hN : L.getD s false = false) : RT Q W0 s f (upd val i v) (L.setIfInBounds i true) W' :=
  ⟨fun _ => h.step hQ hb hq, fun h2 => (by rw [getD_set_other hs, hN] at h2; cases h2)⟩
theorem getD_setF {L : Array Bool} {i j : Nat} (h : (L.setIfInBounds i false).getD j false = true) : j ≠ i ∧ L.getD j false = true := by
  simp only [Array.getD_eq_getD_getElem?, Array.getElem?_setIfInBounds] at h ⊢
  by_cases e : i = j
  · subst e
    by_cases hs : i < L.size <;> simp [hs] at h
  · simp [e] at h
    exact ⟨fun h => e h.symm, h⟩
theorem RT.store (h : RQ Q W0 val L W) (hs : s < L.size) : RT Q W0 s f (upd val s v) (L.setIfInBounds s true) (f W) :=
  ⟨fun h2 => (by rw [getD_set_eq hs] at h2; cases h2), fun _ => ⟨W, ⟨h.1, fun j hj => by
    obtain ⟨h1, h2⟩ := getD_setF hj
    rw [upd_other h1]
    rw [getD_set_other (fun e => h1 e.symm)] at h2
    exact h.2 j h2⟩, rfl⟩⟩
theorem RT.done (h : RT Q W0 s f val L W) (hs : L.getD s false = true) : ∃ y, Below W0.heap.size W0 y ∧ W = f y ∧ ∀ j, j ≠ s → L.getD j false = true → Q j (val j) y := by
  obtain ⟨y, h1, h2⟩ := h.2 hs
  refine ⟨y, h1.1, h2, fun j hj hl => h1.2 j ?_⟩
  simp only [Array.getD_eq_getD_getElem?, Array.getElem?_setIfInBounds] at hl ⊢
  rw [if_neg (fun e => hj e.symm)]
  exact hl
end
section
variable {Q : Nat → Value → World → Prop} {vals : List (Option Value)} {ex : Nat → Value → World → Prop} {W0 W : World} {s : Nat} {f : World → World} {val : Nat → Value} {L : Array Bool}
theorem RT.go (h : RQ Q W0 val L W) (hQ : Stays Q) (HQ : Hid (Q = QG vals ex)) (i : Nat) {x : Value} (hx : vals[i]? = some (some x)) (hs : i ≠ s) (hN : L.getD s false = false) : ∀ v W', Below W.heap.size W W' → v = x → RT Q W0 s f (upd val i v) (L.setIfInBounds i true) W' :=
  fun _ _ hb e => RT.step h hQ hb (QG.put HQ hx e) hs hN
theorem RT.goT (h : RQ Q W0 val L W) (hQ : Stays Q) {i : Nat} (hn : ∀ v W, Q i v W) (hs : i ≠ s) (hN : L.getD s false = false) : ∀ v W', Below W.heap.size W W' → True → RT Q W0 s f (upd val i v) (L.setIfInBounds i true) W' :=
  fun v W' hb _ => RT.step h hQ hb (hn v W') hs hN
end
end Go.Proofs.Ytnnmmojlgikdgaa

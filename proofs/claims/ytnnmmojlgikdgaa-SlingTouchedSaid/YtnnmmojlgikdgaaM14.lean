/- Contracts of the functions that the statement reaches: JHaul3, JHaul4, JHaul5, JHaul, JRhaul, JKit3, JHoiLaw. -/
import Derived.Test.YtnnmmojlgikdgaaM10
import Derived.Test.YtnnmmojlgikdgaaM13
import Derived.Test.YtnnmmojlgikdgaaM6

/- Haul. -/
namespace Go.Proofs.Ytnnmmojlgikdgaa
open Go.RowKit

section
variable (cable charge y1 y2 : Int) (AX AY AV A : Option Addr) (nx cx ny cy nv cv B na ca : Nat) (X Y : List Int) (V : List (List Int)) (L : List (Int × Int)) (w : World)

set_option maxRecDepth 100000 in
set_option maxHeartbeats 4000000 in
theorem haul_arg (h : HT w B AX AY AV nx ny nv X Y V) (hL : L.length = na) (hr : RS w B A L) (h0 : hwE X Y V cable charge y1 y2 = 0) (hn : na ≤ 100) (ho : osB Y (y1, y2) = false) :
    Calls Try.prog 34 #[.agg #[.int .i64 cable, .slice AX nx cx, .slice AY ny cy, .slice AV nv cv, .int .i64 charge], .agg #[.int .i64 y1, .int .i64 y2], .slice A na ca] w fun e w' => e = .returned (.tuple #[HA zeroH, .int .i64 (0), .int .i64 (1)]) ∧ Below w.heap.size w w' := by
  have HC := Lib.hid (fun (W : World) (hW : Below w.heap.size w W) => checkWinch_any cable charge y1 y2 AX AY AV nx cx ny cy nv cv B X Y V W (h.below hW))
  have HX0 := Lib.hid (show HX (((w.alloc (.cells #[.int .i64 cable, .slice AX nx cx, .slice AY ny cy, .slice AV nv cv, .int .i64 charge] 57)).alloc (.cells #[.int .i64 y1, .int .i64 y2] 27)).alloc (.cells #[.int .i64 0, .int .i64 0, .int .i64 0, .int .i64 0, .bool false] 61)) (w.heap.size + 1 + 1) zeroH by have e : ((w.alloc (.cells #[.int .i64 cable, .slice AX nx cx, .slice AY ny cy, .slice AV nv cv, .int .i64 charge] 57)).alloc (.cells #[.int .i64 y1, .int .i64 y2] 27)).heap.size = w.heap.size + 1 + 1 := (by simp); rw [← e]; exact HX.new _)
  have HB0 := Lib.hid (show Below w.heap.size w (((w.alloc (.cells #[.int .i64 cable, .slice AX nx cx, .slice AY ny cy, .slice AV nv cv, .int .i64 charge] 57)).alloc (.cells #[.int .i64 y1, .int .i64 y2] 27)).alloc (.cells #[.int .i64 0, .int .i64 0, .int .i64 0, .int .i64 0, .bool false] 61)) by go_grown)
  rw [h0] at HC
  have hny := ny_of cable charge y1 y2 AX AY AV nx ny nv B X Y V w h h0
  have hca := (hoB_get (hwE_get h0).1).1
  have HSB := Lib.hid (HB.new (cable := cable) (AX := AX) (nx := nx) (cx := cx) (AY := AY) (ny := ny) (cy := cy) (AV := AV) (nv := nv) (cv := cv) (charge := charge) w 57)
  have HBL := Lib.hid (fun (W : World) (hW : Below w.heap.size w W) (g : Nat) (hq : WN W g cable AX nx cx AY ny cy AV nv cv charge zeroH y1 y2) => have h' := h.below hW; blows_any g cable charge y1 y2 zeroH AX AY AV nx cx ny cy nv cv B Y W h'.hy hny h'.hB h'.tb.y hq)
  have HIX := Lib.hid (fun (W : World) (hW : Below w.heap.size w W) (g q : Nat) (hg : w.heap.size ≤ g) (hqg : q ≠ g) (hw : WN W g cable AX nx cx AY ny cy AV nv cv charge zeroH y1 y2) (hq : W.cell? ⟨q, 0, none⟩ = some (.pointer (some ⟨g, 0, none⟩))) => indexFunc_any g q cable charge y1 y2 AX AY AV nx cx ny cy nv cv B X Y V W A na ca L zeroH hL hn (hr.below (hW.mono h.hB)) (Nat.le_trans h.hB hg) hqg (h.below hW) hw hq (zero_good (by omega)) (by omega) hca.2)
  have HNW := Lib.hid (fun (W : World) => show WN (W.alloc (.cells #[.int .i64 cable, .slice AX nx cx, .slice AY ny cy, .slice AV nv cv, .int .i64 charge, .int .i64 0, .int .i64 0, .int .i64 0, .int .i64 0, .bool false, .int .i64 y1, .int .i64 y2, .bool false] 119)) W.heap.size cable AX nx cx AY ny cy AV nv cv charge zeroH y1 y2 from by show (W.heap.push _)[W.heap.size]? = _; simp [zeroH])
  have hnn : ¬ (100 < (na : Int)) := by omega
  clear h hr h0
  have hb1 : Below (w.alloc (.cells #[.int .i64 cable, .slice AX nx cx, .slice AY ny cy, .slice AV nv cv, .int .i64 charge] 57)).heap.size (w.alloc (.cells #[.int .i64 cable, .slice AX nx cx, .slice AY ny cy, .slice AV nv cv, .int .i64 charge] 57)) (((w.alloc (.cells #[.int .i64 cable, .slice AX nx cx, .slice AY ny cy, .slice AV nv cv, .int .i64 charge] 57)).alloc (.cells #[.int .i64 y1, .int .i64 y2] 27)).alloc (.cells #[.int .i64 0, .int .i64 0, .int .i64 0, .int .i64 0, .bool false] 61)) := ((Below.refl _ _).alloc (Nat.le_refl _) _).alloc (by simp) _
  have hb2 : Below ((w.alloc (.cells #[.int .i64 cable, .slice AX nx cx, .slice AY ny cy, .slice AV nv cv, .int .i64 charge] 57)).alloc (.cells #[.int .i64 y1, .int .i64 y2] 27)).heap.size ((w.alloc (.cells #[.int .i64 cable, .slice AX nx cx, .slice AY ny cy, .slice AV nv cv, .int .i64 charge] 57)).alloc (.cells #[.int .i64 y1, .int .i64 y2] 27)) (((w.alloc (.cells #[.int .i64 cable, .slice AX nx cx, .slice AY ny cy, .slice AV nv cv, .int .i64 charge] 57)).alloc (.cells #[.int .i64 y1, .int .i64 y2] 27)).alloc (.cells #[.int .i64 0, .int .i64 0, .int .i64 0, .int .i64 0, .bool false] 61)) := (Below.refl _ _).alloc (Nat.le_refl _) _
  have HS := Lib.hid (HSB.out.keep hb1)
  have HS0 := Lib.hid (cell_keep hb2 (hoist_cell w cable charge y1 y2 AX AY AV nx cx ny cy nv cv 0 _ 57 rfl))
  have HS1 := Lib.hid (cell_keep hb2 (hoist_cell w cable charge y1 y2 AX AY AV nx cx ny cy nv cv 1 _ 57 rfl))
  clear hb1 hb2
  rw [ho] at HBL
  clear ho
  go_enter Try.func34, Try.ntmps34
  go_upto_region 7 with (go_at_call 76; refine Calls.mono (HC.out _ (by go_grown)) ?_; rintro e w3 ⟨rfl, hb3⟩; have hx3 := HX0.out.stay hb3; have hl3 := hx3.lt; have HX3 := Lib.hid hx3; have HB3 := Lib.hid (HB0.out.trans (hb3.mono (by simp <;> omega))); have r0 := cell_keep hb3 HS0.out; have r1 := cell_keep hb3 HS1.out; obtain ⟨v0, v1, v2, v3, v4⟩ := HS.out.keep hb3; clear hb3)
  clear r0 r1 v0 v1 v2 v3 v4 hx3
  generalize hW5 : World.alloc _ _ = w5
  have hsz5 : w5.heap.size = w3.heap.size + 1 + 1 := by rw [← hW5]; simp
  have HW5 := Lib.hid (show WN w5 w3.heap.size cable AX nx cx AY ny cy AV nv cv charge zeroH y1 y2 by
    rw [← hW5]
    exact (HNW.out w3).stay ((Below.refl _ _).alloc (Nat.le_refl _) _))
  have HQ5 := Lib.hid (show w5.cell? ⟨w3.heap.size + 1, 0, none⟩ = some (.pointer (some ⟨w3.heap.size, 0, none⟩)) by
    rw [← hW5, show w3.heap.size + 1 = (World.alloc w3 (.cells #[.int .i64 cable, .slice AX nx cx, .slice AY ny cy, .slice AV nv cv, .int .i64 charge, .int .i64 0, .int .i64 0, .int .i64 0, .int .i64 0, .bool false, .int .i64 y1, .int .i64 y2, .bool false] 119)).heap.size by simp, cell_newest]
    rfl)
  have HX5 := Lib.hid (show HX w5 (w.heap.size + 1 + 1) zeroH by
    rw [← hW5]
    exact (HX3.out.stay ((Below.refl _ _).alloc (Nat.le_refl _) _)).stay ((Below.refl _ _).alloc (Nat.le_refl _) _))
  have HB5 := Lib.hid (show Below w.heap.size w w5 by
    rw [← hW5]
    exact (HB3.out.alloc HB3.out.size _).alloc (by have := HB3.out.size; simp <;> omega) _)
  clear hW5
  have q5 := HQ5.out
  have c0 := cellOf (o := 0) HX5.out rfl
  go_wp2_with (go_at_call 77; refine Calls.mono (HBL.out _ HB5.out _ HW5.out) ?_; rintro e w6 ⟨rfl, hb6⟩; have hx6 := HX5.out.stay hb6; have hl6 := hx6.lt; have HX6 := Lib.hid hx6; have HB6 := Lib.hid (HB5.out.trans (hb6.mono HB5.out.size)); have c1 := cellOf (o := 1) hx6 rfl; have c2 := cellOf (o := 2) hx6 rfl; have c3 := cellOf (o := 3) hx6 rfl; have c4 := cellOf (o := 4) hx6 rfl; have f0 := freeOf (o := 0) hx6; have f1 := freeOf (o := 1) hx6; have f2 := freeOf (o := 2) hx6; have f3 := freeOf (o := 3) hx6; have f4 := freeOf (o := 4) hx6; clear c0; have c0 := cellOf (o := 0) hx6 rfl; clear hb6)
  have hx3 := hx6
  have hp := HX6.out.put (0) (0) (0) (0) (false)
  have hq := hx_below HB6.out (by omega : w.heap.size ≤ w.heap.size + 1 + 1) (.int .i64 (0)) (.int .i64 (0)) (.int .i64 (0)) (.int .i64 (0)) (.bool false)
  clear c0 c1 c2 c3 c4 f0 f1 f2 f3 f4 hx3
  generalize ((((World.setCell w6 _ _).setCell _ _).setCell _ _).setCell _ _).setCell _ _ = w9 at *
  have d0 := cellOf (o := 0) hp rfl
  have d1 := cellOf (o := 1) hp rfl
  have d2 := cellOf (o := 2) hp rfl
  have d3 := cellOf (o := 3) hp rfl
  have d4 := cellOf (o := 4) hp rfl
  exact bodyPost_ret (v := .tuple #[.agg #[.int .i64 (0), .int .i64 (0), .int .i64 (0), .int .i64 (0), .bool (false)], .int .i64 (0), .int .i64 (1)]) (by simp [results, Try.results34, go_sem, d0, d1, d2, d3, d4]) rfl ⟨rfl, hq⟩

end
end Go.Proofs.Ytnnmmojlgikdgaa

/- Haul. -/
namespace Go.Proofs.Ytnnmmojlgikdgaa
open Go.RowKit

section
variable (cable charge y1 y2 : Int) (AX AY AV A : Option Addr) (nx cx ny cy nv cv B na ca : Nat) (X Y : List Int) (V : List (List Int)) (L : List (Int × Int)) (w : World)

set_option maxRecDepth 100000 in
set_option maxHeartbeats 4000000 in
theorem haul_stop (h : HT w B AX AY AV nx ny nv X Y V) (hL : L.length = na) (hr : RS w B A L) (h0 : hwE X Y V cable charge y1 y2 = 0) (hn : na ≤ 100) (ho : osB Y (y1, y2) = true) (hri : 0 ≤ (hauR (doB (fun l u => carB X Y V l l y1 y2 u) cable charge) L zeroH 0).2) :
    Calls Try.prog 34 #[.agg #[.int .i64 cable, .slice AX nx cx, .slice AY ny cy, .slice AV nv cv, .int .i64 charge], .agg #[.int .i64 y1, .int .i64 y2], .slice A na ca] w fun e w' => e = .returned (.tuple #[HA zeroH, .int .i64 ((hauR (doB (fun l u => carB X Y V l l y1 y2 u) cable charge) L zeroH 0).2), .int .i64 (72)]) ∧ Below w.heap.size w w' := by
  have HC := Lib.hid (fun (W : World) (hW : Below w.heap.size w W) => checkWinch_any cable charge y1 y2 AX AY AV nx cx ny cy nv cv B X Y V W (h.below hW))
  have HX0 := Lib.hid (show HX (((w.alloc (.cells #[.int .i64 cable, .slice AX nx cx, .slice AY ny cy, .slice AV nv cv, .int .i64 charge] 57)).alloc (.cells #[.int .i64 y1, .int .i64 y2] 27)).alloc (.cells #[.int .i64 0, .int .i64 0, .int .i64 0, .int .i64 0, .bool false] 61)) (w.heap.size + 1 + 1) zeroH by have e : ((w.alloc (.cells #[.int .i64 cable, .slice AX nx cx, .slice AY ny cy, .slice AV nv cv, .int .i64 charge] 57)).alloc (.cells #[.int .i64 y1, .int .i64 y2] 27)).heap.size = w.heap.size + 1 + 1 := (by simp); rw [← e]; exact HX.new _)
  have HB0 := Lib.hid (show Below w.heap.size w (((w.alloc (.cells #[.int .i64 cable, .slice AX nx cx, .slice AY ny cy, .slice AV nv cv, .int .i64 charge] 57)).alloc (.cells #[.int .i64 y1, .int .i64 y2] 27)).alloc (.cells #[.int .i64 0, .int .i64 0, .int .i64 0, .int .i64 0, .bool false] 61)) by go_grown)
  rw [h0] at HC
  have hny := ny_of cable charge y1 y2 AX AY AV nx ny nv B X Y V w h h0
  have hca := (hoB_get (hwE_get h0).1).1
  have HSB := Lib.hid (HB.new (cable := cable) (AX := AX) (nx := nx) (cx := cx) (AY := AY) (ny := ny) (cy := cy) (AV := AV) (nv := nv) (cv := cv) (charge := charge) w 57)
  have HBL := Lib.hid (fun (W : World) (hW : Below w.heap.size w W) (g : Nat) (hq : WN W g cable AX nx cx AY ny cy AV nv cv charge zeroH y1 y2) => have h' := h.below hW; blows_any g cable charge y1 y2 zeroH AX AY AV nx cx ny cy nv cv B Y W h'.hy hny h'.hB h'.tb.y hq)
  have HIX := Lib.hid (fun (W : World) (hW : Below w.heap.size w W) (g q : Nat) (hg : w.heap.size ≤ g) (hqg : q ≠ g) (hw : WN W g cable AX nx cx AY ny cy AV nv cv charge zeroH y1 y2) (hq : W.cell? ⟨q, 0, none⟩ = some (.pointer (some ⟨g, 0, none⟩))) => indexFunc_any g q cable charge y1 y2 AX AY AV nx cx ny cy nv cv B X Y V W A na ca L zeroH hL hn (hr.below (hW.mono h.hB)) (Nat.le_trans h.hB hg) hqg (h.below hW) hw hq (zero_good (by omega)) (by omega) hca.2)
  have HNW := Lib.hid (fun (W : World) => show WN (W.alloc (.cells #[.int .i64 cable, .slice AX nx cx, .slice AY ny cy, .slice AV nv cv, .int .i64 charge, .int .i64 0, .int .i64 0, .int .i64 0, .int .i64 0, .bool false, .int .i64 y1, .int .i64 y2, .bool false] 119)) W.heap.size cable AX nx cx AY ny cy AV nv cv charge zeroH y1 y2 from by show (W.heap.push _)[W.heap.size]? = _; simp [zeroH])
  have hnn : ¬ (100 < (na : Int)) := by omega
  clear h hr h0
  have hb1 : Below (w.alloc (.cells #[.int .i64 cable, .slice AX nx cx, .slice AY ny cy, .slice AV nv cv, .int .i64 charge] 57)).heap.size (w.alloc (.cells #[.int .i64 cable, .slice AX nx cx, .slice AY ny cy, .slice AV nv cv, .int .i64 charge] 57)) (((w.alloc (.cells #[.int .i64 cable, .slice AX nx cx, .slice AY ny cy, .slice AV nv cv, .int .i64 charge] 57)).alloc (.cells #[.int .i64 y1, .int .i64 y2] 27)).alloc (.cells #[.int .i64 0, .int .i64 0, .int .i64 0, .int .i64 0, .bool false] 61)) := ((Below.refl _ _).alloc (Nat.le_refl _) _).alloc (by simp) _
  have hb2 : Below ((w.alloc (.cells #[.int .i64 cable, .slice AX nx cx, .slice AY ny cy, .slice AV nv cv, .int .i64 charge] 57)).alloc (.cells #[.int .i64 y1, .int .i64 y2] 27)).heap.size ((w.alloc (.cells #[.int .i64 cable, .slice AX nx cx, .slice AY ny cy, .slice AV nv cv, .int .i64 charge] 57)).alloc (.cells #[.int .i64 y1, .int .i64 y2] 27)) (((w.alloc (.cells #[.int .i64 cable, .slice AX nx cx, .slice AY ny cy, .slice AV nv cv, .int .i64 charge] 57)).alloc (.cells #[.int .i64 y1, .int .i64 y2] 27)).alloc (.cells #[.int .i64 0, .int .i64 0, .int .i64 0, .int .i64 0, .bool false] 61)) := (Below.refl _ _).alloc (Nat.le_refl _) _
  have HS := Lib.hid (HSB.out.keep hb1)
  have HS0 := Lib.hid (cell_keep hb2 (hoist_cell w cable charge y1 y2 AX AY AV nx cx ny cy nv cv 0 _ 57 rfl))
  have HS1 := Lib.hid (cell_keep hb2 (hoist_cell w cable charge y1 y2 AX AY AV nx cx ny cy nv cv 1 _ 57 rfl))
  clear hb1 hb2
  rw [ho] at HBL
  clear ho
  generalize hauR (doB (fun l u => carB X Y V l l y1 y2 u) cable charge) L zeroH 0 = R at *
  obtain ⟨⟨rl, rw', rs, rc, ru, rt⟩, ri⟩ := R
  simp only at HIX hri
  go_enter Try.func34, Try.ntmps34
  go_upto_region 7 with (go_at_call 76; refine Calls.mono (HC.out _ (by go_grown)) ?_; rintro e w3 ⟨rfl, hb3⟩; have hx3 := HX0.out.stay hb3; have hl3 := hx3.lt; have HX3 := Lib.hid hx3; have HB3 := Lib.hid (HB0.out.trans (hb3.mono (by simp <;> omega))); have r0 := cell_keep hb3 HS0.out; have r1 := cell_keep hb3 HS1.out; obtain ⟨v0, v1, v2, v3, v4⟩ := HS.out.keep hb3; clear hb3)
  clear r0 r1 v0 v1 v2 v3 v4 hx3
  generalize hW5 : World.alloc _ _ = w5
  have hsz5 : w5.heap.size = w3.heap.size + 1 + 1 := by rw [← hW5]; simp
  have HW5 := Lib.hid (show WN w5 w3.heap.size cable AX nx cx AY ny cy AV nv cv charge zeroH y1 y2 by
    rw [← hW5]
    exact (HNW.out w3).stay ((Below.refl _ _).alloc (Nat.le_refl _) _))
  have HQ5 := Lib.hid (show w5.cell? ⟨w3.heap.size + 1, 0, none⟩ = some (.pointer (some ⟨w3.heap.size, 0, none⟩)) by
    rw [← hW5, show w3.heap.size + 1 = (World.alloc w3 (.cells #[.int .i64 cable, .slice AX nx cx, .slice AY ny cy, .slice AV nv cv, .int .i64 charge, .int .i64 0, .int .i64 0, .int .i64 0, .int .i64 0, .bool false, .int .i64 y1, .int .i64 y2, .bool false] 119)).heap.size by simp, cell_newest]
    rfl)
  have HX5 := Lib.hid (show HX w5 (w.heap.size + 1 + 1) zeroH by
    rw [← hW5]
    exact (HX3.out.stay ((Below.refl _ _).alloc (Nat.le_refl _) _)).stay ((Below.refl _ _).alloc (Nat.le_refl _) _))
  have HB5 := Lib.hid (show Below w.heap.size w w5 by
    rw [← hW5]
    exact (HB3.out.alloc HB3.out.size _).alloc (by have := HB3.out.size; simp <;> omega) _)
  clear hW5
  have q5 := HQ5.out
  go_upto_region 11 with (first
    | (go_at_call 77; refine Calls.mono (HBL.out _ HB5.out _ HW5.out) ?_; rintro e w6 ⟨rfl, hb6⟩; have q6 := cell_keep hb6 HQ5.out; have HQ6 := Lib.hid q6; have HX6 := Lib.hid (HX5.out.stay hb6); have HW6 := Lib.hid (HW5.out.stay hb6); have HB6 := Lib.hid (HB5.out.trans (hb6.mono HB5.out.size)); clear hb6)
    | (go_at_call 78; refine Calls.mono (HIX.out _ HB6.out w3.heap.size (w3.heap.size + 1) HB3.out.size (by omega) HW6.out HQ6.out) ?_; rintro e w7 ⟨rfl, hw7, hk7⟩; have HX7 := Lib.hid (HX6.out.keep hk7 (by omega)); have HW7 := Lib.hid hw7; have q7 := hk7.cell HQ6.out (by omega); have HB7 := Lib.hid (HB6.out.trans (hk7.low HB3.out.size)); clear hw7 hk7))
  have hx3 := HX7.out
  have hl7 := hx3.lt
  have c0 := cellOf (o := 0) hx3 rfl
  have f0 := freeOf (o := 0) hx3
  have c1 := cellOf (o := 1) hx3 rfl
  have f1 := freeOf (o := 1) hx3
  have c2 := cellOf (o := 2) hx3 rfl
  have f2 := freeOf (o := 2) hx3
  have c3 := cellOf (o := 3) hx3 rfl
  have f3 := freeOf (o := 3) hx3
  have c4 := cellOf (o := 4) hx3 rfl
  have f4 := freeOf (o := 4) hx3
  go_wp2
  have hp := HX7.out.put (0) (0) (0) (0) (false)
  have hq := hx_below HB7.out (by omega : w.heap.size ≤ w.heap.size + 1 + 1) (.int .i64 (0)) (.int .i64 (0)) (.int .i64 (0)) (.int .i64 (0)) (.bool false)
  clear c0 c1 c2 c3 c4 f0 f1 f2 f3 f4 hx3
  generalize ((((World.setCell w7 _ _).setCell _ _).setCell _ _).setCell _ _).setCell _ _ = w9 at *
  have d0 := cellOf (o := 0) hp rfl
  have d1 := cellOf (o := 1) hp rfl
  have d2 := cellOf (o := 2) hp rfl
  have d3 := cellOf (o := 3) hp rfl
  have d4 := cellOf (o := 4) hp rfl
  exact bodyPost_ret (v := .tuple #[.agg #[.int .i64 (0), .int .i64 (0), .int .i64 (0), .int .i64 (0), .bool (false)], .int .i64 (ri), .int .i64 (72)]) (by simp [results, Try.results34, go_sem, d0, d1, d2, d3, d4]) rfl ⟨rfl, hq⟩

end
end Go.Proofs.Ytnnmmojlgikdgaa

/- Haul. -/
namespace Go.Proofs.Ytnnmmojlgikdgaa
open Go.RowKit

section
variable (cable charge y1 y2 : Int) (AX AY AV A : Option Addr) (nx cx ny cy nv cv B na ca : Nat) (X Y : List Int) (V : List (List Int)) (L : List (Int × Int)) (w : World)

set_option maxRecDepth 100000 in
set_option maxHeartbeats 4000000 in
theorem haul_run (h : HT w B AX AY AV nx ny nv X Y V) (hL : L.length = na) (hr : RS w B A L) (h0 : hwE X Y V cable charge y1 y2 = 0) (hn : na ≤ 100) (ho : osB Y (y1, y2) = true) (hri : ¬ (0 ≤ (hauR (doB (fun l u => carB X Y V l l y1 y2 u) cable charge) L zeroH 0).2)) :
    Calls Try.prog 34 #[.agg #[.int .i64 cable, .slice AX nx cx, .slice AY ny cy, .slice AV nv cv, .int .i64 charge], .agg #[.int .i64 y1, .int .i64 y2], .slice A na ca] w fun e w' => e = .returned (.tuple #[HA (hauR (doB (fun l u => carB X Y V l l y1 y2 u) cable charge) L zeroH 0).1, .int .i64 (0), .int .i64 (0)]) ∧ Below w.heap.size w w' := by
  have HC := Lib.hid (fun (W : World) (hW : Below w.heap.size w W) => checkWinch_any cable charge y1 y2 AX AY AV nx cx ny cy nv cv B X Y V W (h.below hW))
  have HX0 := Lib.hid (show HX (((w.alloc (.cells #[.int .i64 cable, .slice AX nx cx, .slice AY ny cy, .slice AV nv cv, .int .i64 charge] 57)).alloc (.cells #[.int .i64 y1, .int .i64 y2] 27)).alloc (.cells #[.int .i64 0, .int .i64 0, .int .i64 0, .int .i64 0, .bool false] 61)) (w.heap.size + 1 + 1) zeroH by have e : ((w.alloc (.cells #[.int .i64 cable, .slice AX nx cx, .slice AY ny cy, .slice AV nv cv, .int .i64 charge] 57)).alloc (.cells #[.int .i64 y1, .int .i64 y2] 27)).heap.size = w.heap.size + 1 + 1 := (by simp); rw [← e]; exact HX.new _)
  have HB0 := Lib.hid (show Below w.heap.size w (((w.alloc (.cells #[.int .i64 cable, .slice AX nx cx, .slice AY ny cy, .slice AV nv cv, .int .i64 charge] 57)).alloc (.cells #[.int .i64 y1, .int .i64 y2] 27)).alloc (.cells #[.int .i64 0, .int .i64 0, .int .i64 0, .int .i64 0, .bool false] 61)) by go_grown)
  rw [h0] at HC
  have hny := ny_of cable charge y1 y2 AX AY AV nx ny nv B X Y V w h h0
  have hca := (hoB_get (hwE_get h0).1).1
  have HSB := Lib.hid (HB.new (cable := cable) (AX := AX) (nx := nx) (cx := cx) (AY := AY) (ny := ny) (cy := cy) (AV := AV) (nv := nv) (cv := cv) (charge := charge) w 57)
  have HBL := Lib.hid (fun (W : World) (hW : Below w.heap.size w W) (g : Nat) (hq : WN W g cable AX nx cx AY ny cy AV nv cv charge zeroH y1 y2) => have h' := h.below hW; blows_any g cable charge y1 y2 zeroH AX AY AV nx cx ny cy nv cv B Y W h'.hy hny h'.hB h'.tb.y hq)
  have HIX := Lib.hid (fun (W : World) (hW : Below w.heap.size w W) (g q : Nat) (hg : w.heap.size ≤ g) (hqg : q ≠ g) (hw : WN W g cable AX nx cx AY ny cy AV nv cv charge zeroH y1 y2) (hq : W.cell? ⟨q, 0, none⟩ = some (.pointer (some ⟨g, 0, none⟩))) => indexFunc_any g q cable charge y1 y2 AX AY AV nx cx ny cy nv cv B X Y V W A na ca L zeroH hL hn (hr.below (hW.mono h.hB)) (Nat.le_trans h.hB hg) hqg (h.below hW) hw hq (zero_good (by omega)) (by omega) hca.2)
  have HNW := Lib.hid (fun (W : World) => show WN (W.alloc (.cells #[.int .i64 cable, .slice AX nx cx, .slice AY ny cy, .slice AV nv cv, .int .i64 charge, .int .i64 0, .int .i64 0, .int .i64 0, .int .i64 0, .bool false, .int .i64 y1, .int .i64 y2, .bool false] 119)) W.heap.size cable AX nx cx AY ny cy AV nv cv charge zeroH y1 y2 from by show (W.heap.push _)[W.heap.size]? = _; simp [zeroH])
  have hnn : ¬ (100 < (na : Int)) := by omega
  clear h hr h0
  have hb1 : Below (w.alloc (.cells #[.int .i64 cable, .slice AX nx cx, .slice AY ny cy, .slice AV nv cv, .int .i64 charge] 57)).heap.size (w.alloc (.cells #[.int .i64 cable, .slice AX nx cx, .slice AY ny cy, .slice AV nv cv, .int .i64 charge] 57)) (((w.alloc (.cells #[.int .i64 cable, .slice AX nx cx, .slice AY ny cy, .slice AV nv cv, .int .i64 charge] 57)).alloc (.cells #[.int .i64 y1, .int .i64 y2] 27)).alloc (.cells #[.int .i64 0, .int .i64 0, .int .i64 0, .int .i64 0, .bool false] 61)) := ((Below.refl _ _).alloc (Nat.le_refl _) _).alloc (by simp) _
  have hb2 : Below ((w.alloc (.cells #[.int .i64 cable, .slice AX nx cx, .slice AY ny cy, .slice AV nv cv, .int .i64 charge] 57)).alloc (.cells #[.int .i64 y1, .int .i64 y2] 27)).heap.size ((w.alloc (.cells #[.int .i64 cable, .slice AX nx cx, .slice AY ny cy, .slice AV nv cv, .int .i64 charge] 57)).alloc (.cells #[.int .i64 y1, .int .i64 y2] 27)) (((w.alloc (.cells #[.int .i64 cable, .slice AX nx cx, .slice AY ny cy, .slice AV nv cv, .int .i64 charge] 57)).alloc (.cells #[.int .i64 y1, .int .i64 y2] 27)).alloc (.cells #[.int .i64 0, .int .i64 0, .int .i64 0, .int .i64 0, .bool false] 61)) := (Below.refl _ _).alloc (Nat.le_refl _) _
  have HS := Lib.hid (HSB.out.keep hb1)
  have HS0 := Lib.hid (cell_keep hb2 (hoist_cell w cable charge y1 y2 AX AY AV nx cx ny cy nv cv 0 _ 57 rfl))
  have HS1 := Lib.hid (cell_keep hb2 (hoist_cell w cable charge y1 y2 AX AY AV nx cx ny cy nv cv 1 _ 57 rfl))
  clear hb1 hb2
  rw [ho] at HBL
  clear ho
  generalize hauR (doB (fun l u => carB X Y V l l y1 y2 u) cable charge) L zeroH 0 = R at *
  obtain ⟨⟨rl, rw', rs, rc, ru, rt⟩, ri⟩ := R
  simp only at HIX hri
  go_enter Try.func34, Try.ntmps34
  go_upto_region 7 with (go_at_call 76; refine Calls.mono (HC.out _ (by go_grown)) ?_; rintro e w3 ⟨rfl, hb3⟩; have hx3 := HX0.out.stay hb3; have hl3 := hx3.lt; have HX3 := Lib.hid hx3; have HB3 := Lib.hid (HB0.out.trans (hb3.mono (by simp <;> omega))); have r0 := cell_keep hb3 HS0.out; have r1 := cell_keep hb3 HS1.out; obtain ⟨v0, v1, v2, v3, v4⟩ := HS.out.keep hb3; clear hb3)
  clear r0 r1 v0 v1 v2 v3 v4 hx3
  generalize hW5 : World.alloc _ _ = w5
  have hsz5 : w5.heap.size = w3.heap.size + 1 + 1 := by rw [← hW5]; simp
  have HW5 := Lib.hid (show WN w5 w3.heap.size cable AX nx cx AY ny cy AV nv cv charge zeroH y1 y2 by
    rw [← hW5]
    exact (HNW.out w3).stay ((Below.refl _ _).alloc (Nat.le_refl _) _))
  have HQ5 := Lib.hid (show w5.cell? ⟨w3.heap.size + 1, 0, none⟩ = some (.pointer (some ⟨w3.heap.size, 0, none⟩)) by
    rw [← hW5, show w3.heap.size + 1 = (World.alloc w3 (.cells #[.int .i64 cable, .slice AX nx cx, .slice AY ny cy, .slice AV nv cv, .int .i64 charge, .int .i64 0, .int .i64 0, .int .i64 0, .int .i64 0, .bool false, .int .i64 y1, .int .i64 y2, .bool false] 119)).heap.size by simp, cell_newest]
    rfl)
  have HX5 := Lib.hid (show HX w5 (w.heap.size + 1 + 1) zeroH by
    rw [← hW5]
    exact (HX3.out.stay ((Below.refl _ _).alloc (Nat.le_refl _) _)).stay ((Below.refl _ _).alloc (Nat.le_refl _) _))
  have HB5 := Lib.hid (show Below w.heap.size w w5 by
    rw [← hW5]
    exact (HB3.out.alloc HB3.out.size _).alloc (by have := HB3.out.size; simp <;> omega) _)
  clear hW5
  have q5 := HQ5.out
  go_upto_region 12 with (first
    | (go_at_call 77; refine Calls.mono (HBL.out _ HB5.out _ HW5.out) ?_; rintro e w6 ⟨rfl, hb6⟩; have q6 := cell_keep hb6 HQ5.out; have HQ6 := Lib.hid q6; have HX6 := Lib.hid (HX5.out.stay hb6); have HW6 := Lib.hid (HW5.out.stay hb6); have HB6 := Lib.hid (HB5.out.trans (hb6.mono HB5.out.size)); clear hb6)
    | (go_at_call 78; refine Calls.mono (HIX.out _ HB6.out w3.heap.size (w3.heap.size + 1) HB3.out.size (by omega) HW6.out HQ6.out) ?_; rintro e w7 ⟨rfl, hw7, hk7⟩; have HX7 := Lib.hid (HX6.out.keep hk7 (by omega)); have HW7 := Lib.hid hw7; have q7 := hk7.cell HQ6.out (by omega); have HB7 := Lib.hid (HB6.out.trans (hk7.low HB3.out.size)); clear hw7 hk7))
  have hx3 := HX7.out
  have hl7 := hx3.lt
  have c0 := cellOf (o := 0) hx3 rfl
  have f0 := freeOf (o := 0) hx3
  have c1 := cellOf (o := 1) hx3 rfl
  have f1 := freeOf (o := 1) hx3
  have c2 := cellOf (o := 2) hx3 rfl
  have f2 := freeOf (o := 2) hx3
  have c3 := cellOf (o := 3) hx3 rfl
  have f3 := freeOf (o := 3) hx3
  have c4 := cellOf (o := 4) hx3 rfl
  have f4 := freeOf (o := 4) hx3
  have hw7 := HW7.out
  have hlw := hw7.lt
  have g5 := cellOf (o := 5) hw7 rfl
  have g6 := cellOf (o := 6) hw7 rfl
  have g7 := cellOf (o := 7) hw7 rfl
  have g8 := cellOf (o := 8) hw7 rfl
  have g9 := cellOf (o := 9) hw7 rfl
  clear hw7
  go_wp2
  have hp := HX7.out.put (rl) (rw') (rs) (rc) (ru)
  have hq := hx_below HB7.out (by omega : w.heap.size ≤ w.heap.size + 1 + 1) (.int .i64 (rl)) (.int .i64 (rw')) (.int .i64 (rs)) (.int .i64 (rc)) (.bool ru)
  clear g5 g6 g7 g8 g9 q7 c0 c1 c2 c3 c4 f0 f1 f2 f3 f4 hx3
  generalize ((((World.setCell w7 _ _).setCell _ _).setCell _ _).setCell _ _).setCell _ _ = w9 at *
  have d0 := cellOf (o := 0) hp rfl
  have d1 := cellOf (o := 1) hp rfl
  have d2 := cellOf (o := 2) hp rfl
  have d3 := cellOf (o := 3) hp rfl
  have d4 := cellOf (o := 4) hp rfl
  exact bodyPost_ret (v := .tuple #[.agg #[.int .i64 (rl), .int .i64 (rw'), .int .i64 (rs), .int .i64 (rc), .bool (ru)], .int .i64 (0), .int .i64 (0)]) (by simp [results, Try.results34, go_sem, d0, d1, d2, d3, d4]) rfl ⟨rfl, hq⟩

end
end Go.Proofs.Ytnnmmojlgikdgaa

/- Haul. -/
namespace Go.Proofs.Ytnnmmojlgikdgaa
open Go.RowKit

section
variable (cable charge y1 y2 : Int) (AX AY AV A : Option Addr) (nx cx ny cy nv cv B na ca : Nat) (X Y : List Int) (V : List (List Int)) (L : List (Int × Int)) (w : World)

theorem haul_any (h : HT w B AX AY AV nx ny nv X Y V) (hL : L.length = na) (hr : RS w B A L) :
    Calls Try.prog 34 #[.agg #[.int .i64 cable, .slice AX nx cx, .slice AY ny cy, .slice AV nv cv, .int .i64 charge], .agg #[.int .i64 y1, .int .i64 y2], .slice A na ca] w fun e w' => e = .returned (.tuple #[HA (hauN X Y V cable charge y1 y2 L).1, .int .i64 (hauN X Y V cable charge y1 y2 L).2.1, .int .i64 (hauN X Y V cable charge y1 y2 L).2.2]) ∧ Below w.heap.size w w' := by
  unfold hauN
  by_cases h0 : hwE X Y V cable charge y1 y2 = 0
  · rw [if_pos h0]
    by_cases hn : na ≤ 100
    · rw [if_pos (by omega)]
      cases ho : osB Y (y1, y2) with
      | false => exact haul_arg cable charge y1 y2 AX AY AV A nx cx ny cy nv cv B na ca X Y V L w h hL hr h0 hn ho
      | true =>
        by_cases hri : 0 ≤ (hauR (doB (fun l u => carB X Y V l l y1 y2 u) cable charge) L zeroH 0).2
        · rw [if_pos rfl, if_pos hri]
          exact haul_stop cable charge y1 y2 AX AY AV A nx cx ny cy nv cv B na ca X Y V L w h hL hr h0 hn ho hri
        · rw [if_pos rfl, if_neg hri]
          exact haul_run cable charge y1 y2 AX AY AV A nx cx ny cy nv cv B na ca X Y V L w h hL hr h0 hn ho hri
    · rw [if_neg (by omega)]
      exact haul_many cable charge y1 y2 AX AY AV A nx cx ny cy nv cv B na ca X Y V L w h hL hr h0 (by omega)
  · rw [if_neg h0]
    exact haul_bad cable charge y1 y2 AX AY AV A nx cx ny cy nv cv B na ca X Y V L w h hL hr h0
end
end Go.Proofs.Ytnnmmojlgikdgaa

/- The reference's Haul. -/
namespace Go.Proofs.Ytnnmmojlgikdgaa
open Go.RowKit

theorem hwE_val (X Y : List Int) (V : List (List Int)) (cable charge y1 y2 : Int) : hwE X Y V cable charge y1 y2 = 0 ∨ hwE X Y V cable charge y1 y2 = 10 ∨ hwE X Y V cable charge y1 y2 = 71 := by
  unfold hwE
  split
  · split <;> simp
  · simp
section
variable (cable charge y1 y2 : Int) (AX AY AV A : Option Addr) (nx cx ny cy nv cv B na ca : Nat) (X Y : List Int) (V : List (List Int)) (L : List (Int × Int)) (w : World)

set_option maxRecDepth 100000 in
set_option maxHeartbeats 4000000 in
theorem rhaul_early (c r : Int) (h : HT w B AX AY AV nx ny nv X Y V) (hc : cwE X Y V cable charge y1 y2 = c) (hr : (c = 71 ∧ r = 71) ∨ (c = 10 ∧ r = 10) ∨ ((c = 0 ∨ c = 1) ∧ 100 < na ∧ r = 2) ∨ (c = 1 ∧ na ≤ 100 ∧ r = 1)) :
    Calls Try.prog 35 #[.agg #[.int .i64 cable, .slice AX nx cx, .slice AY ny cy, .slice AV nv cv, .int .i64 charge], .agg #[.int .i64 y1, .int .i64 y2], .slice A na ca] w fun e w' => e = .returned (.tuple #[HA zeroH, .int .i64 0, .int .i64 r]) ∧ Below w.heap.size w w' := by
  have HC := Lib.hid (fun (W : World) (hW : Below w.heap.size w W) => checkWinds_any cable charge y1 y2 AX AY AV nx cx ny cy nv cv B X Y V W (h.below hW))
  rw [hc] at HC
  have HX0 := Lib.hid (show HX (((w.alloc (.cells #[.int .i64 cable, .slice AX nx cx, .slice AY ny cy, .slice AV nv cv, .int .i64 charge] 57)).alloc (.cells #[.int .i64 y1, .int .i64 y2] 27)).alloc (.cells #[.int .i64 0, .int .i64 0, .int .i64 0, .int .i64 0, .bool false] 61)) (w.heap.size + 1 + 1) zeroH from blk_new _ _ _ (by simp))
  have HB0 := Lib.hid (show Below w.heap.size w (((w.alloc (.cells #[.int .i64 cable, .slice AX nx cx, .slice AY ny cy, .slice AV nv cv, .int .i64 charge] 57)).alloc (.cells #[.int .i64 y1, .int .i64 y2] 27)).alloc (.cells #[.int .i64 0, .int .i64 0, .int .i64 0, .int .i64 0, .bool false] 61)) by go_grown)
  clear h hc
  rcases hr with ⟨rfl, rfl⟩ | ⟨rfl, rfl⟩ | ⟨rfl | rfl, hn, rfl⟩ | ⟨rfl, hn, rfl⟩
  · go_enter Try.func35, Try.ntmps35
    go_wp2_with (go_at_call 46; refine Calls.mono (HC.out _ (by go_grown)) ?_; rintro e w3 ⟨rfl, hb3⟩; have hx3 := HX0.out.stay hb3; have hl3 := hx3.lt; have HX3 := Lib.hid hx3; have HB3 := Lib.hid (HB0.out.trans (hb3.mono (by simp <;> omega))); clear hb3; have c0 := cellOf (o := 0) hx3 rfl; have f0 := freeOf (o := 0) hx3; have c1 := cellOf (o := 1) hx3 rfl; have f1 := freeOf (o := 1) hx3; have c2 := cellOf (o := 2) hx3 rfl; have f2 := freeOf (o := 2) hx3; have c3 := cellOf (o := 3) hx3 rfl; have f3 := freeOf (o := 3) hx3; have c4 := cellOf (o := 4) hx3 rfl; have f4 := freeOf (o := 4) hx3)
    have hp := HX3.out.put 0 0 0 0 false
    have hq := hx_below (b := w.heap.size + 1 + 1) HB3.out (by omega) (.int .i64 0) (.int .i64 0) (.int .i64 0) (.int .i64 0) (.bool false)
    clear c0 c1 c2 c3 c4 f0 f1 f2 f3 f4 hx3
    generalize ((((World.setCell w3 _ _).setCell _ _).setCell _ _).setCell _ _).setCell _ _ = w9 at *
    have d0 := cellOf (o := 0) hp rfl
    have d1 := cellOf (o := 1) hp rfl
    have d2 := cellOf (o := 2) hp rfl
    have d3 := cellOf (o := 3) hp rfl
    have d4 := cellOf (o := 4) hp rfl
    exact bodyPost_ret (v := .tuple #[.agg #[.int .i64 0, .int .i64 0, .int .i64 0, .int .i64 0, .bool false], .int .i64 0, .int .i64 71]) (by simp [results, Try.results35, go_sem, d0, d1, d2, d3, d4]) rfl ⟨rfl, hq⟩
  · go_enter Try.func35, Try.ntmps35
    go_wp2_with (go_at_call 46; refine Calls.mono (HC.out _ (by go_grown)) ?_; rintro e w3 ⟨rfl, hb3⟩; have hx3 := HX0.out.stay hb3; have hl3 := hx3.lt; have HX3 := Lib.hid hx3; have HB3 := Lib.hid (HB0.out.trans (hb3.mono (by simp <;> omega))); clear hb3; have c0 := cellOf (o := 0) hx3 rfl; have f0 := freeOf (o := 0) hx3; have c1 := cellOf (o := 1) hx3 rfl; have f1 := freeOf (o := 1) hx3; have c2 := cellOf (o := 2) hx3 rfl; have f2 := freeOf (o := 2) hx3; have c3 := cellOf (o := 3) hx3 rfl; have f3 := freeOf (o := 3) hx3; have c4 := cellOf (o := 4) hx3 rfl; have f4 := freeOf (o := 4) hx3)
    have hp := HX3.out.put 0 0 0 0 false
    have hq := hx_below (b := w.heap.size + 1 + 1) HB3.out (by omega) (.int .i64 0) (.int .i64 0) (.int .i64 0) (.int .i64 0) (.bool false)
    clear c0 c1 c2 c3 c4 f0 f1 f2 f3 f4 hx3
    generalize ((((World.setCell w3 _ _).setCell _ _).setCell _ _).setCell _ _).setCell _ _ = w9 at *
    have d0 := cellOf (o := 0) hp rfl
    have d1 := cellOf (o := 1) hp rfl
    have d2 := cellOf (o := 2) hp rfl
    have d3 := cellOf (o := 3) hp rfl
    have d4 := cellOf (o := 4) hp rfl
    exact bodyPost_ret (v := .tuple #[.agg #[.int .i64 0, .int .i64 0, .int .i64 0, .int .i64 0, .bool false], .int .i64 0, .int .i64 10]) (by simp [results, Try.results35, go_sem, d0, d1, d2, d3, d4]) rfl ⟨rfl, hq⟩
  · go_enter Try.func35, Try.ntmps35
    go_wp2_with (go_at_call 46; refine Calls.mono (HC.out _ (by go_grown)) ?_; rintro e w3 ⟨rfl, hb3⟩; have hx3 := HX0.out.stay hb3; have hl3 := hx3.lt; have HX3 := Lib.hid hx3; have HB3 := Lib.hid (HB0.out.trans (hb3.mono (by simp <;> omega))); clear hb3; have c0 := cellOf (o := 0) hx3 rfl; have f0 := freeOf (o := 0) hx3; have c1 := cellOf (o := 1) hx3 rfl; have f1 := freeOf (o := 1) hx3; have c2 := cellOf (o := 2) hx3 rfl; have f2 := freeOf (o := 2) hx3; have c3 := cellOf (o := 3) hx3 rfl; have f3 := freeOf (o := 3) hx3; have c4 := cellOf (o := 4) hx3 rfl; have f4 := freeOf (o := 4) hx3)
    have hp := HX3.out.put 0 0 0 0 false
    have hq := hx_below (b := w.heap.size + 1 + 1) HB3.out (by omega) (.int .i64 0) (.int .i64 0) (.int .i64 0) (.int .i64 0) (.bool false)
    clear c0 c1 c2 c3 c4 f0 f1 f2 f3 f4 hx3
    generalize ((((World.setCell w3 _ _).setCell _ _).setCell _ _).setCell _ _).setCell _ _ = w9 at *
    have d0 := cellOf (o := 0) hp rfl
    have d1 := cellOf (o := 1) hp rfl
    have d2 := cellOf (o := 2) hp rfl
    have d3 := cellOf (o := 3) hp rfl
    have d4 := cellOf (o := 4) hp rfl
    exact bodyPost_ret (v := .tuple #[.agg #[.int .i64 0, .int .i64 0, .int .i64 0, .int .i64 0, .bool false], .int .i64 0, .int .i64 2]) (by simp [results, Try.results35, go_sem, d0, d1, d2, d3, d4]) rfl ⟨rfl, hq⟩
  · go_enter Try.func35, Try.ntmps35
    go_wp2_with (go_at_call 46; refine Calls.mono (HC.out _ (by go_grown)) ?_; rintro e w3 ⟨rfl, hb3⟩; have hx3 := HX0.out.stay hb3; have hl3 := hx3.lt; have HX3 := Lib.hid hx3; have HB3 := Lib.hid (HB0.out.trans (hb3.mono (by simp <;> omega))); clear hb3; have c0 := cellOf (o := 0) hx3 rfl; have f0 := freeOf (o := 0) hx3; have c1 := cellOf (o := 1) hx3 rfl; have f1 := freeOf (o := 1) hx3; have c2 := cellOf (o := 2) hx3 rfl; have f2 := freeOf (o := 2) hx3; have c3 := cellOf (o := 3) hx3 rfl; have f3 := freeOf (o := 3) hx3; have c4 := cellOf (o := 4) hx3 rfl; have f4 := freeOf (o := 4) hx3)
    have hp := HX3.out.put 0 0 0 0 false
    have hq := hx_below (b := w.heap.size + 1 + 1) HB3.out (by omega) (.int .i64 0) (.int .i64 0) (.int .i64 0) (.int .i64 0) (.bool false)
    clear c0 c1 c2 c3 c4 f0 f1 f2 f3 f4 hx3
    generalize ((((World.setCell w3 _ _).setCell _ _).setCell _ _).setCell _ _).setCell _ _ = w9 at *
    have d0 := cellOf (o := 0) hp rfl
    have d1 := cellOf (o := 1) hp rfl
    have d2 := cellOf (o := 2) hp rfl
    have d3 := cellOf (o := 3) hp rfl
    have d4 := cellOf (o := 4) hp rfl
    exact bodyPost_ret (v := .tuple #[.agg #[.int .i64 0, .int .i64 0, .int .i64 0, .int .i64 0, .bool false], .int .i64 0, .int .i64 2]) (by simp [results, Try.results35, go_sem, d0, d1, d2, d3, d4]) rfl ⟨rfl, hq⟩
  · go_enter Try.func35, Try.ntmps35
    go_wp2_with (go_at_call 46; refine Calls.mono (HC.out _ (by go_grown)) ?_; rintro e w3 ⟨rfl, hb3⟩; have hx3 := HX0.out.stay hb3; have hl3 := hx3.lt; have HX3 := Lib.hid hx3; have HB3 := Lib.hid (HB0.out.trans (hb3.mono (by simp <;> omega))); clear hb3; have c0 := cellOf (o := 0) hx3 rfl; have f0 := freeOf (o := 0) hx3; have c1 := cellOf (o := 1) hx3 rfl; have f1 := freeOf (o := 1) hx3; have c2 := cellOf (o := 2) hx3 rfl; have f2 := freeOf (o := 2) hx3; have c3 := cellOf (o := 3) hx3 rfl; have f3 := freeOf (o := 3) hx3; have c4 := cellOf (o := 4) hx3 rfl; have f4 := freeOf (o := 4) hx3)
    have hp := HX3.out.put 0 0 0 0 false
    have hq := hx_below (b := w.heap.size + 1 + 1) HB3.out (by omega) (.int .i64 0) (.int .i64 0) (.int .i64 0) (.int .i64 0) (.bool false)
    clear c0 c1 c2 c3 c4 f0 f1 f2 f3 f4 hx3
    generalize ((((World.setCell w3 _ _).setCell _ _).setCell _ _).setCell _ _).setCell _ _ = w9 at *
    have d0 := cellOf (o := 0) hp rfl
    have d1 := cellOf (o := 1) hp rfl
    have d2 := cellOf (o := 2) hp rfl
    have d3 := cellOf (o := 3) hp rfl
    have d4 := cellOf (o := 4) hp rfl
    exact bodyPost_ret (v := .tuple #[.agg #[.int .i64 0, .int .i64 0, .int .i64 0, .int .i64 0, .bool false], .int .i64 0, .int .i64 1]) (by simp [results, Try.results35, go_sem, d0, d1, d2, d3, d4]) rfl ⟨rfl, hq⟩

theorem rhaul_any (h : HT w B AX AY AV nx ny nv X Y V) (hL : L.length = na) (hr : RS w B A L) :
    Calls Try.prog 35 #[.agg #[.int .i64 cable, .slice AX nx cx, .slice AY ny cy, .slice AV nv cv, .int .i64 charge], .agg #[.int .i64 y1, .int .i64 y2], .slice A na ca] w fun e w' => e = .returned (.tuple #[HA (hauN X Y V cable charge y1 y2 L).1, .int .i64 (hauN X Y V cable charge y1 y2 L).2.1, .int .i64 (hauN X Y V cable charge y1 y2 L).2.2]) ∧ Below w.heap.size w w' := by
  unfold hauN
  by_cases h0 : hwE X Y V cable charge y1 y2 = 0
  · rw [if_pos h0]
    have hcw := cwE_ok h0
    by_cases hn : na ≤ 100
    · rw [if_pos (by omega)]
      cases ho : osB Y (y1, y2) with
      | false =>
        rw [ho] at hcw
        exact rhaul_early cable charge y1 y2 AX AY AV A nx cx ny cy nv cv B na ca X Y V w 1 1 h hcw (Or.inr (Or.inr (Or.inr ⟨rfl, hn, rfl⟩)))
      | true =>
        rw [ho] at hcw
        rw [if_pos rfl]
        exact rhaul_run cable charge y1 y2 AX AY AV A nx cx ny cy nv cv B na ca X Y V L w h hL hr hcw hn _ rfl _ rfl
    · rw [if_neg (by omega)]
      exact rhaul_early cable charge y1 y2 AX AY AV A nx cx ny cy nv cv B na ca X Y V w (cwE X Y V cable charge y1 y2) 2 h rfl (Or.inr (Or.inr (Or.inl ⟨by rw [hcw]; split <;> simp, by omega, rfl⟩)))
  · rw [if_neg h0]
    have hcw := cwE_hw h0
    refine rhaul_early cable charge y1 y2 AX AY AV A nx cx ny cy nv cv B na ca X Y V w (hwE X Y V cable charge y1 y2) (hwE X Y V cable charge y1 y2) h hcw ?_
    rcases hwE_val X Y V cable charge y1 y2 with e | e | e
    · exact absurd e h0
    · exact Or.inr (Or.inl ⟨e, e⟩)
    · exact Or.inl ⟨e, e⟩
end
end Go.Proofs.Ytnnmmojlgikdgaa

/- A slice of steps, opened. -/
namespace Go.Proofs.Ytnnmmojlgikdgaa
open Go.RowKit Go.WideShapes Go.ChangeShapes Go.ChangeAt Go.Joins Go.Deep

section
variable {H : Type} {enc : TypeId × Value → H}


set_option maxRecDepth 100000 in
theorem hauls_of {w : World} {base : Nat} {spare : Nat → Bool} {held : Bool} {t : TypeId} {fuel : Nat} {cs : List Value} {x : DataW H × List MemPlace} (ht : Try.prog.underlying t = some (.slice 82)) (h : DataW.trod enc Try.prog w base spare held fuel t cs = some x) :
    ∃ A n c l, cs = [.slice A n c] ∧ l.length = n ∧ n ≤ maxLen ∧ RS w w.heap.size A l := by
  rcases open_slice_pairs ht Try.underlying82 (by kernel_rfl) rfl rfl (by kernel_rfl) (by kernel_rfl) h with ⟨rfl, _⟩ | ⟨a, len, cap, m, n, V0, V1, D0, D1, P0, P1, rfl, _, hl, hm, hmm, _, hr⟩
  · exact ⟨none, 0, 0, [], rfl, rfl, by unfold maxLen; omega, fun h => absurd h (by simp)⟩
  · have hlm : len ≤ m := by rw [hmm]; split <;> omega
    have each : ∀ i, ∃ q : Int × Int, i < len → w.cell? (a.add (i * 2)) = some (.int .i64 q.1) ∧ w.cell? (a.add (i * 2 + 1)) = some (.int .i64 q.2) := fun i => by
      by_cases hi : i < len
      · obtain ⟨h0, h1, t0, t1⟩ := hr i (by omega)
        obtain ⟨u, e0, _, _⟩ := DataW.trod_int Try.underlying3 t0
        obtain ⟨v, e1, _, _⟩ := DataW.trod_int Try.underlying3 t1
        simp at e0 e1
        exact ⟨(u, v), fun _ => ⟨by rw [h0, e0], by rw [h1, e1]⟩⟩
      · exact ⟨(0, 0), fun h => absurd h hi⟩
    obtain ⟨f, hf⟩ : ∃ f : Nat → Int × Int, ∀ i, i < len → w.cell? (a.add (i * 2)) = some (.int .i64 (f i).1) ∧ w.cell? (a.add (i * 2 + 1)) = some (.int .i64 (f i).2) := ⟨fun i => (each i).choose, fun i => (each i).choose_spec⟩
    clear each hr
    refine ⟨some a, len, cap, (List.range len).map f, rfl, by simp, by omega, fun hp => ?_⟩
    have hn : 0 < len := by simpa using hp
    have hc0 := (hf 0 hn).1
    obtain ⟨b, off, rfl⟩ := cell_plain hc0 ⟨_, by simpa using hc0⟩
    have hb := World.block_lt_of_cell? w _ hc0
    simp only [add_plain] at hb
    refine ⟨b, off, rfl, hb, fun j p hj => ?_⟩
    simp only [List.getElem?_map, Option.map_eq_some_iff] at hj
    obtain ⟨k, hk, rfl⟩ := hj
    obtain ⟨hk1, hk2⟩ := List.getElem?_eq_some_iff.1 hk
    simp at hk1 hk2
    subst hk2
    obtain ⟨h1, h2⟩ := hf j hk1
    rw [add_plain] at h1 h2
    exact ⟨h1, h2⟩

set_option maxRecDepth 100000 in
theorem hauls_open {w : World} {base : Nat} {r : Reach} {b0 : Nat} {v : Value} {d : DataW H} {p : List MemPlace}
    (hv : Value.okWide Try.prog w r b0 58 v) (h : DataW.Trod enc Try.prog w base (fun _ => true) true 58 v d p) :
    ∃ A n c l, v = .slice A n c ∧ l.length = n ∧ n ≤ maxLen ∧ RS w w.heap.size A l := by
  obtain ⟨a0, len, cap, rfl⟩ := okWide_slice Try.underlying58 hv
  obtain ⟨fuel, hf⟩ := h
  obtain ⟨A, n, c, l, e, h1, h2, h3⟩ := hauls_of Try.underlying58 hf
  simp [Value.cells] at e
  obtain ⟨rfl, rfl, rfl⟩ := e
  exact ⟨_, _, _, l, rfl, h1, h2, h3⟩
end
end Go.Proofs.Ytnnmmojlgikdgaa

/- The law of Haul. -/
namespace Go.Proofs.Ytnnmmojlgikdgaa
open Go.RowKit

set_option maxRecDepth 100000 in
set_option maxHeartbeats 4000000 in
theorem law_hoists (wk : WK7) (w : World) (cable : Int) (AX : Option Addr) (nx cx : Nat) (AY : Option Addr) (ny cy : Nat) (AV : Option Addr) (nv cv : Nat) (charge : Int) (X Y : List Int) (V : List (List Int)) (h : HT w w.heap.size AX AY AV nx ny nv X Y V) (y1 y2 : Int) (A : Option Addr) (na ca : Nat) (LL : List (Int × Int)) (hl : LL.length = na) (_ : na ≤ maxLen) (hr : RS w w.heap.size A LL) :
    Calls Try.prog 6 #[.agg #[.int .i64 cable, .slice AX nx cx, .slice AY ny cy, .slice AV nv cv, .int .i64 charge], .agg #[.int .i64 y1, .int .i64 y2], .slice A na ca] w fun e w' => e = .returned (.bool true) ∧ Below w.heap.size w w' := by
  have HWK := Lib.hid wk
  have H1 := Lib.hid (fun (W : World) (hW : Below w.heap.size w W) => haul_any cable charge y1 y2 AX AY AV A nx cx ny cy nv cv w.heap.size na ca X Y V LL W (h.below hW) hl (hr.below hW))
  have H2 := Lib.hid (fun (W : World) (hW : Below w.heap.size w W) => rhaul_any cable charge y1 y2 AX AY AV A nx cx ny cy nv cv w.heap.size na ca X Y V LL W (h.below hW) hl (hr.below hW))
  have H3 := Lib.hid (fun (W : World) (hW : Below w.heap.size w W) => checkHoist_any cable charge AX AY AV nx cx ny cy nv cv w.heap.size X Y V W (h.below hW))
  have H4 := Lib.hid (fun (W : World) (hW : Below w.heap.size w W) => rcheckHoist_any cable charge AX AY AV nx cx ny cy nv cv w.heap.size X Y V W (h.below hW))
  generalize hauN X Y V cable charge y1 y2 LL = r at *
  generalize hoE X Y V cable charge = c at *
  obtain ⟨⟨rl, rw', rs, rc, ru, rt⟩, ri, re⟩ := r
  simp only [HA] at H1 H2
  have HS0 := Lib.hid (AH.start (cable := cable) (AX := AX) (nx := nx) (cx := cx) (AY := AY) (ny := ny) (cy := cy) (AV := AV) (nv := nv) (cv := cv) (charge := charge) (y1 := y1) (y2 := y2) w)
  clear wk h hr
  go_enter Try.func6, Try.ntmps6
  go_upto_region 1 with (fail)
  generalize World.alloc _ _ = w1 at *
  have S0 := HS0.out
  have z0 := S0.hb.h0
  have z1 := S0.hb.h1
  have z2 := S0.hb.h2
  have z3 := S0.hb.h3
  have z4 := S0.hb.h4
  have l1 := S0.l1
  clear S0
  obtain ⟨Q, hQ⟩ : ∃ q9 : Nat → Value → World → Prop, q9 = QG [some (.agg #[.int .i64 cable, .slice AX nx cx, .slice AY ny cy, .slice AV nv cv, .int .i64 charge]), some (.int .i64 c), some (.agg #[.int .i64 cable, .slice AX nx cx, .slice AY ny cy, .slice AV nv cv, .int .i64 charge]), some (.int .i64 c), some (.bool false)] (fun _ _ _ => True) := ⟨_, rfl⟩
  have hst : Stays Q := by rw [hQ]; exact QG.stays (fun _ _ _ _ _ _ => trivial)
  have HQ := Lib.hid hQ
  clear hQ
  refine wpIn_wide.1 (region_inv2 (n := 9) (by kernel_rfl) (RQ Q w1) (by kernel_rfl) rfl (RQ.start _ _ _) ?hstep ?hend)
  case hstep =>
    intro i' o ho val L b' x hF hR hpre hl
    match i', ho with
    | 0, ho =>
      simp at ho; subst ho; refine step_plain rfl ?_; have e3 := hF.was 3 (by kernel_rfl) rfl; have hgoal := hR.go hst HQ 0 rfl; have q0 := cell_keep hR.1 z0; have q1 := cell_keep hR.1 z1; have q2 := cell_keep hR.1 z2; have q3 := cell_keep hR.1 z3; have q4 := cell_keep hR.1 z4; clear hF hpre hl hR; go_simp; exact ⟨_, rfl, hgoal _ _ (Below.refl _ _) rfl⟩
    | 1, ho =>
      simp at ho; subst ho; refine step_plain rfl ?_; have e13 := hF.gv hR.2 HQ 0 rfl (hpre ⟨0, .data⟩ (by simp) rfl) rfl; have hgoal := hR.go hst HQ 1 rfl
      have hM := Lib.hid hR.1
      clear hF hpre hl hR; go_simp
      refine ⟨trivial, ?_⟩
      refine CallsIn.mono (callsIn_wide.2 (H3.out _ (HS0.out.b.trans (hM.out.mono HS0.out.b.size)))) ?_
      rintro e w9 ⟨rfl, hb9⟩
      exact ⟨_, rfl, hgoal _ _ hb9 rfl⟩
    | 2, ho =>
      simp at ho; subst ho; refine step_plain rfl ?_; have e3 := hF.was 3 (by kernel_rfl) rfl; have hgoal := hR.go hst HQ 2 rfl; have q0 := cell_keep hR.1 z0; have q1 := cell_keep hR.1 z1; have q2 := cell_keep hR.1 z2; have q3 := cell_keep hR.1 z3; have q4 := cell_keep hR.1 z4; clear hF hpre hl hR; go_simp; exact ⟨_, rfl, hgoal _ _ (Below.refl _ _) rfl⟩
    | 3, ho =>
      simp at ho; subst ho; refine step_plain rfl ?_; have e15 := hF.gv hR.2 HQ 2 rfl (hpre ⟨2, .data⟩ (by simp) rfl) rfl; have hgoal := hR.go hst HQ 3 rfl
      have hM := Lib.hid hR.1
      clear hF hpre hl hR; go_simp
      refine ⟨trivial, ?_⟩
      refine CallsIn.mono (callsIn_wide.2 (H4.out _ (HS0.out.b.trans (hM.out.mono HS0.out.b.size)))) ?_
      rintro e w9 ⟨rfl, hb9⟩
      exact ⟨_, rfl, hgoal _ _ hb9 rfl⟩
    | 4, ho =>
      simp at ho; subst ho; refine step_plain rfl ?_; have e14 := hF.gv hR.2 HQ 1 rfl (hpre ⟨1, .data⟩ (by simp) rfl) rfl; have e16 := hF.gv hR.2 HQ 3 rfl (hpre ⟨3, .data⟩ (by simp) rfl) rfl; have hgoal := hR.go hst HQ 4 rfl; clear hF hpre hl hR; go_simp; exact ⟨_, rfl, hgoal _ _ (Below.refl _ _) rfl⟩
    | i + 5, ho => simp at ho
  case hend =>
    intro val L b' x hF hall hR
    have e := hF.all (by kernel_rfl) hall
    have k4 := QG.val HQ rfl (hR.2 4 (hall 4 (by decide)))
    have hB := Lib.hid hR.1
    clear hF hall hR hst HQ 
    subst e
    simp [final, dstOf, List.range, List.range.loop]
    rw [k4]
    have S2 := HS0.out.next hB.out
    have HS2 := Lib.hid S2
    clear z0 z1 z2 z3 z4 l1
    have l2 := S2.l1
    obtain ⟨⟨a0, a1, a2, a3, a4⟩, a5, a6, _⟩ := S2
    go_upto_region 4 with (go_at_call 34; refine Calls.mono (H1.out _ HS2.out.b) ?_; rintro e w4 ⟨rfl, hb4⟩; have HS3 := Lib.hid (HS2.out.next hb4); clear hb4)
    have HS4 := Lib.hid (HS3.out.next ((Below.refl w4.heap.size w4).alloc (Nat.le_refl _) (.cells #[.int .i64 rl, .int .i64 rw', .int .i64 rs, .int .i64 rc, .bool ru] 61)))
    have HX4 := Lib.hid (show HX (w4.alloc (.cells #[.int .i64 rl, .int .i64 rw', .int .i64 rs, .int .i64 rc, .bool ru] 61)) w4.heap.size ⟨rl, rw', rs, rc, ru, rt⟩ from blk_new _ _ _ rfl)
    clear a0 a1 a2 a3 a4 a5 a6 l2
    generalize World.alloc w4 _ = w5 at *
    have S4 := HS4.out
    have l4 := S4.l1
    have l5 := HX4.out.lt
    obtain ⟨⟨b0, b1, b2, b3, b4⟩, b5, b6, _⟩ := S4
    go_upto_region 5 with (go_at_call 35; refine Calls.mono (H2.out _ HS4.out.b) ?_; rintro e w6 ⟨rfl, hb6⟩; have HX6 := Lib.hid (HX4.out.stay hb6); have HB6 := Lib.hid (HS4.out.b.trans (hb6.mono HS4.out.b.size)); clear hb6)
    have HX7 := Lib.hid (show HX (w6.alloc (.cells #[.int .i64 rl, .int .i64 rw', .int .i64 rs, .int .i64 rc, .bool ru] 61)) w6.heap.size ⟨rl, rw', rs, rc, ru, rt⟩ from blk_new _ _ _ rfl)
    have HX8 := Lib.hid (show HX (w6.alloc (.cells #[.int .i64 rl, .int .i64 rw', .int .i64 rs, .int .i64 rc, .bool ru] 61)) w4.heap.size ⟨rl, rw', rs, rc, ru, rt⟩ from blk_old _ HX6.out)
    have HB7 := Lib.hid (HB6.out.alloc HB6.out.size (.cells #[.int .i64 rl, .int .i64 rw', .int .i64 rs, .int .i64 rc, .bool ru] 61))
    clear b0 b1 b2 b3 b4 b5 b6 l4 l5
    generalize World.alloc w6 _ = w7 at *
    have d0 := cellOf (o := 0) HX7.out rfl
    have g0 := cellOf (o := 0) HX8.out rfl
    have d1 := cellOf (o := 1) HX7.out rfl
    have g1 := cellOf (o := 1) HX8.out rfl
    have d2 := cellOf (o := 2) HX7.out rfl
    have g2 := cellOf (o := 2) HX8.out rfl
    have d3 := cellOf (o := 3) HX7.out rfl
    have g3 := cellOf (o := 3) HX8.out rfl
    have d4 := cellOf (o := 4) HX7.out rfl
    have g4 := cellOf (o := 4) HX8.out rfl
    have l7 := HX7.out.lt
    have l8 := HX8.out.lt
    go_wp2_with (go_at_call 22; refine Calls.mono (HWK.out _) ?_; rintro e w9 ⟨rfl, hb9⟩; have HX9 := Lib.hid (HB7.out.trans (hb9.mono HB7.out.size)); clear hb9)
    go_ret
    exact ⟨rfl, HX9.out⟩
end Go.Proofs.Ytnnmmojlgikdgaa

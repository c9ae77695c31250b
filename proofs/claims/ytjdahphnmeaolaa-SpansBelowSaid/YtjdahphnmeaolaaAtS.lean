/- At of both sides. -/
import Derived.Test.YtjdahphnmeaolaaRval
import Derived.Test.YtjdahphnmeaolaaRct
import Derived.Test.YtjdahphnmeaolaaAt
import Derived.Test.YtjdahphnmeaolaaInv
namespace Go.Proofs.Ytjdahphnmeaolaa
open Go.RowKit

def atS (X Y : List Int) (V : List (List Int)) (x y : Int) : (Int × Int) × Int :=
  if ctB X Y V then (if onB X [x] && onB Y [y] then ((fl (atN X Y V x y) (atD X Y x y), cl (atN X Y V x y) (atD X Y x y)), 0) else ((0, 0), 1)) else ((0, 0), 11)
theorem onB_on {X : List Int} {x : Int} : onB X [x] = true ↔ On X x := by
  unfold onB On wB gz
  simp
theorem btB_on (X : List Int) (x : Int) : btB X x x = onB X [x] := by
  unfold onB btB wB gz
  simp

/-- The table's box and the result's. -/
structure Two (w W : World) (AX : Option Addr) (nx cx : Nat) (AY : Option Addr) (ny cy : Nat) (AV : Option Addr) (nv cv : Nat) : Prop where
  k0 : W.cell? ⟨w.heap.size, 0, none⟩ = some (.slice AX nx cx)
  k1 : W.cell? ⟨w.heap.size, 1, none⟩ = some (.slice AY ny cy)
  k2 : W.cell? ⟨w.heap.size, 2, none⟩ = some (.slice AV nv cv)
  k3 : W.cell? ⟨w.heap.size + 1, 0, none⟩ = some (.int .i64 0)
  k4 : W.cell? ⟨w.heap.size + 1, 1, none⟩ = some (.int .i64 0)
  k5 : W.frozen? ⟨w.heap.size + 1, 0, none⟩ = false
  k6 : W.frozen? ⟨w.heap.size + 1, 1, none⟩ = false
  l : w.heap.size + 1 < W.heap.size
  b : Below w.heap.size w W
theorem Two.next {w W W' : World} {AX AY AV : Option Addr} {nx cx ny cy nv cv : Nat} (h : Two w W AX nx cx AY ny cy AV nv cv) (hb : Below W.heap.size W W') : Two w W' AX nx cx AY ny cy AV nv cv :=
  ⟨cell_keep hb h.k0, cell_keep hb h.k1, cell_keep hb h.k2, cell_keep hb h.k3, cell_keep hb h.k4, (hb.frozen (p := ⟨w.heap.size + 1, 0, none⟩) h.l).trans h.k5, (hb.frozen (p := ⟨w.heap.size + 1, 1, none⟩) h.l).trans h.k6,
    Nat.lt_of_lt_of_le h.l hb.size, h.b.trans (hb.mono h.b.size)⟩
theorem Two.start (w : World) (AX AY AV : Option Addr) (nx cx ny cy nv cv : Nat) (T T' : TypeId) : Two w ((w.alloc (.cells #[.slice AX nx cx, .slice AY ny cy, .slice AV nv cv] T)).alloc (.cells #[.int .i64 0, .int .i64 0] T')) AX nx cx AY ny cy AV nv cv :=
  ⟨by go_simp, by go_simp, by go_simp, by go_simp, by go_simp, by go_simp, by go_simp, by simp, by go_grown⟩
/-- The result's box, written. -/
theorem Two.res {w W : World} {AX AY AV : Option Addr} {nx cx ny cy nv cv : Nat} (h : Two w W AX nx cx AY ny cy AV nv cv) :
    (∀ v, (W.setCell ⟨w.heap.size + 1, 0, none⟩ v).cell? ⟨w.heap.size + 1, 0, none⟩ = some v) ∧ (∀ v u, ((W.setCell ⟨w.heap.size + 1, 0, none⟩ v).setCell ⟨w.heap.size + 1, 1, none⟩ u).cell? ⟨w.heap.size + 1, 1, none⟩ = some u) ∧
    ∀ v u, Below w.heap.size w ((W.setCell ⟨w.heap.size + 1, 0, none⟩ v).setCell ⟨w.heap.size + 1, 1, none⟩ u) :=
  ⟨fun v => World.cell?_setCell_same' _ _ _ (by rw [h.k3]; rfl), fun v u => World.cell?_setCell_same' _ _ _ (by rw [World.cell?_setCell_other _ _ _ _ (by simp), h.k4]; rfl),
    fun v u => (h.b.setCell (by simp) _).setCell (by simp) _⟩

theorem Two.next2 {w W W' : World} {AX AY AV : Option Addr} {nx cx ny cy nv cv : Nat} {o : Obj} (h : Two w W AX nx cx AY ny cy AV nv cv) (hb : Below (W.alloc o).heap.size (W.alloc o) W') : Two w W' AX nx cx AY ny cy AV nv cv :=
  (h.next ((Below.refl _ _).alloc (Nat.le_refl _) o)).next hb

theorem rfloor_wide (a b : Int) (w : World) (h1 : 1 ≤ b) (h2 : b ≤ 1000000000) (h3 : -1000000000000000 ≤ a) (h4 : a ≤ 1000000000000000) :
    Calls Try.prog 76 #[.int .i64 a, .int .i64 b] w fun e w' => e = .returned (.int .i64 (fl a b)) ∧ w = w' := by
  have hd := tdiv_bd (b := b) (a := a) (M := 1000000000000000) h3 h4
  have hd2 := tdiv_bd (b := b) (a := -a + b - 1) (M := 2000000000000000) (by omega) (by omega)
  by_cases h : 0 ≤ a
  · go_enter Try.func76, Try.ntmps76
    go_wp2
    go_ret
    exact ⟨ret_int (by unfold fl; exact Int.tdiv_eq_ediv_of_nonneg h), rfl⟩
  · go_enter Try.func76, Try.ntmps76
    go_wp2
    go_ret
    exact ⟨ret_int (rfl_neg h1 (by omega)), rfl⟩

theorem rceil_wide (a b : Int) (w : World) (h1 : 1 ≤ b) (h2 : b ≤ 1000000000) (h3 : -1000000000000000 ≤ a) (h4 : a ≤ 1000000000000000) :
    Calls Try.prog 77 #[.int .i64 a, .int .i64 b] w fun e w' => e = .returned (.int .i64 (cl a b)) ∧ w = w' := by
  have hd := fl_bd (a := -a) h1 (M := 1000000000000000) (by omega) (by omega)
  go_enter Try.func77, Try.ntmps77
  go_wp2_with (go_at_call 76; refine (rfloor_wide _ _ _ h1 h2 (by omega) (by omega)).mono ?_; rintro e w' ⟨rfl, rfl⟩)
  go_ret
  exact ⟨rfl, rfl⟩

set_option maxRecDepth 100000 in
set_option maxHeartbeats 4000000 in
theorem at_s (AX AY AV : Option Addr) (nx cx ny cy nv cv B : Nat) (X Y : List Int) (V : List (List Int)) (x y : Int) (w : World) (hx : X.length = nx) (hy : Y.length = ny) (hv : V.length = nv) (hnx : nx ≤ maxLen) (hny : ny ≤ maxLen) (hnv : nv ≤ maxLen) (hnr : ∀ r ∈ V, r.length ≤ maxLen)
    (hB : B ≤ w.heap.size) (h : TB w B AX AY AV X Y V) :
    Calls Try.prog 45 #[.agg #[.slice AX nx cx, .slice AY ny cy, .slice AV nv cv], .int .i64 x, .int .i64 y] w fun e w' =>
      e = .returned (.tuple #[.agg #[.int .i64 (atS X Y V x y).1.1, .int .i64 (atS X Y V x y).1.2], .int .i64 (atS X Y V x y).2]) ∧ Below w.heap.size w w' := by
  subst hx hy hv
  have HT := Lib.hid h
  have HCT := Lib.hid (fun (W : World) (hW : Below w.heap.size w W) => checkTable_any AX AY AV _ cx _ cy _ cv B X Y V W rfl rfl rfl hnx hny hnv hnr (by have := hW.size; omega) (h.below (hW.mono hB)))
  have S0 := Two.start w AX AY AV X.length cx Y.length cy V.length cv 27 37
  have HS0 := Lib.hid S0
  clear h S0
  cases hct : ctB X Y V with
  | false =>
    rw [show atS X Y V x y = ((0, 0), 11) by unfold atS; rw [hct]; rfl]
    have HE := Lib.hid (ctE_no hct)
    clear hct
    go_enter Try.func45, Try.ntmps45
    go_wp2_with (go_at_call 22; refine Calls.mono (HCT.out _ (by go_grown)) ?_; rintro e w1 ⟨rfl, hb1⟩; rw [HE.out]; have S1 := HS0.out.next hb1; obtain ⟨k0, k1, k2, k3, k4, k5, k6, l1, _⟩ := S1; have S1 := HS0.out.next hb1; have HS1 := Lib.hid S1; clear S1 hb1)
    obtain ⟨z1, z2, z3⟩ := HS1.out.res
    refine bodyPost_ret (v := .tuple #[.agg #[.int .i64 0, .int .i64 0], .int .i64 11]) (by simp [results, Try.results45, go_sem, z1, z2]) rfl ?_
    exact ⟨rfl, z3 _ _⟩
  | true =>
  obtain ⟨ha, hb, hlv, hrw⟩ := ctB_get hct
  obtain ⟨q1, q2, _, _⟩ := axB_get ha
  obtain ⟨p1, p2, _, _⟩ := axB_get hb
  have HE := Lib.hid (ctE_yes hct)
  have HOX := Lib.hid (fun (W : World) (hW : Below w.heap.size w W) (g : Nat) (T : TypeId) (hg : g = W.heap.size) => hg ▸ (onAxis_any AX (some ⟨W.heap.size, 0, none⟩) _ cx 1 1 B _ X [x] (W.alloc (.cells #[.int .i64 x] T)) rfl hnx q1 rfl (le_maxLen (by omega)) ((HT.out.x.below (hW.mono hB)).below ((Below.refl _ _).alloc (by have := hW.size; omega) _)) (RI.new1 rfl)))
  have HOY := Lib.hid (fun (W : World) (hW : Below w.heap.size w W) (g : Nat) (T : TypeId) (hg : g = W.heap.size) => hg ▸ (onAxis_any AY (some ⟨W.heap.size, 0, none⟩) _ cy 1 1 B _ Y [y] (W.alloc (.cells #[.int .i64 y] T)) rfl hny p1 rfl (le_maxLen (by omega)) ((HT.out.y.below (hW.mono hB)).below ((Below.refl _ _).alloc (by have := hW.size; omega) _)) (RI.new1 rfl)))
  cases hX : onB X [x] with
  | false =>
    rw [show atS X Y V x y = ((0, 0), 1) by unfold atS; rw [hct, hX]; rfl]
    have HX := Lib.hid hX
    clear hct hX ha hb hlv hrw q1 q2 p1 p2
    go_enter Try.func45, Try.ntmps45
    go_wp2_with (first
      | (go_at_call 22; refine Calls.mono (HCT.out _ (by go_grown)) ?_; rintro e w1 ⟨rfl, hb1⟩; rw [HE.out]; have S1 := HS0.out.next hb1; obtain ⟨k0, k1, k2, k3, k4, k5, k6, l1, _⟩ := S1; have S1 := HS0.out.next hb1; have HS1 := Lib.hid S1; clear S1 hb1)
      | (go_at_call_of 89 (Value.slice AX X.length cx); refine Calls.mono (HOX.out _ HS1.out.b _ _ rfl) ?_; rintro e w2 ⟨rfl, hb2⟩; rw [HX.out]; have S2 := HS1.out.next2 hb2; obtain ⟨m0, m1, m2, m3, m4, m5, m6, l2, _⟩ := S2; have S2 := HS1.out.next2 hb2; have HS2 := Lib.hid S2; clear S2 hb2))
    obtain ⟨z1, z2, z3⟩ := HS2.out.res
    refine bodyPost_ret (v := .tuple #[.agg #[.int .i64 0, .int .i64 0], .int .i64 1]) (by simp [results, Try.results45, go_sem, z1, z2]) rfl ?_
    exact ⟨rfl, z3 _ _⟩
  | true =>
  cases hY : onB Y [y] with
  | false =>
    rw [show atS X Y V x y = ((0, 0), 1) by unfold atS; rw [hct, hX, hY]; rfl]
    have HX := Lib.hid hX
    have HY := Lib.hid hY
    clear hct hX hY ha hb hlv hrw q1 q2 p1 p2
    go_enter Try.func45, Try.ntmps45
    go_wp2_with (first
      | (go_at_call 22; refine Calls.mono (HCT.out _ (by go_grown)) ?_; rintro e w1 ⟨rfl, hb1⟩; rw [HE.out]; have S1 := HS0.out.next hb1; obtain ⟨k0, k1, k2, k3, k4, k5, k6, l1, _⟩ := S1; have S1 := HS0.out.next hb1; have HS1 := Lib.hid S1; clear S1 hb1)
      | (go_at_call_of 89 (Value.slice AX X.length cx); refine Calls.mono (HOX.out _ HS1.out.b _ _ rfl) ?_; rintro e w2 ⟨rfl, hb2⟩; rw [HX.out]; have S2 := HS1.out.next2 hb2; obtain ⟨m0, m1, m2, m3, m4, m5, m6, l2, _⟩ := S2; have S2 := HS1.out.next2 hb2; have HS2 := Lib.hid S2; clear S2 hb2)
      | (go_at_call_of 89 (Value.slice AY Y.length cy); refine Calls.mono (HOY.out _ HS2.out.b _ _ rfl) ?_; rintro e w3 ⟨rfl, hb3⟩; rw [HY.out]; have S3 := HS2.out.next2 hb3; obtain ⟨n0, n1, n2, n3, n4, n5, n6, l3, _⟩ := S3; have S3 := HS2.out.next2 hb3; have HS3 := Lib.hid S3; clear S3 hb3))
    obtain ⟨z1, z2, z3⟩ := HS3.out.res
    refine bodyPost_ret (v := .tuple #[.agg #[.int .i64 0, .int .i64 0], .int .i64 1]) (by simp [results, Try.results45, go_sem, z1, z2]) rfl ?_
    exact ⟨rfl, z3 _ _⟩
  | true =>
    rw [show atS X Y V x y = ((fl (atN X Y V x y) (atD X Y x y), cl (atN X Y V x y) (atD X Y x y)), 0) by unfold atS; rw [hct, hX, hY]; rfl]
    have HX := Lib.hid hX
    have HY := Lib.hid hY
    have hoX := onB_on.1 hX
    have hoY := onB_on.1 hY
    obtain ⟨d1, d2⟩ := atD_bd ha hb hoX hoY
    obtain ⟨e1, e2⟩ := atN_bd hct hoX hoY
    have HA := Lib.hid (fun (W : World) (hW : Below w.heap.size w W) => at_any AX AY AV _ cx _ cy _ cv B X Y V x y W rfl rfl rfl (by have := hW.size; omega) (HT.out.below (hW.mono hB)) hct hoX hoY)
    clear hct hX hY ha hb hlv hrw q1 q2 p1 p2 hoX hoY
    generalize atN X Y V x y = N at *
    generalize atD X Y x y = D at *
    have e3 : -100000000000000 ≤ N := by omega
    have e4 : N ≤ 100000000000000 := by omega
    clear e1 e2
    go_enter Try.func45, Try.ntmps45
    go_upto_region 7 with (first
      | (go_at_call 22; refine Calls.mono (HCT.out _ (by go_grown)) ?_; rintro e w1 ⟨rfl, hb1⟩; rw [HE.out]; have S1 := HS0.out.next hb1; obtain ⟨k0, k1, k2, k3, k4, k5, k6, l1, _⟩ := S1; have S1 := HS0.out.next hb1; have HS1 := Lib.hid S1; clear S1 hb1)
      | (go_at_call_of 89 (Value.slice AX X.length cx); refine Calls.mono (HOX.out _ HS1.out.b _ _ rfl) ?_; rintro e w2 ⟨rfl, hb2⟩; rw [HX.out]; have S2 := HS1.out.next2 hb2; obtain ⟨m0, m1, m2, m3, m4, m5, m6, l2, _⟩ := S2; have S2 := HS1.out.next2 hb2; have HS2 := Lib.hid S2; clear S2 hb2)
      | (go_at_call_of 89 (Value.slice AY Y.length cy); refine Calls.mono (HOY.out _ HS2.out.b _ _ rfl) ?_; rintro e w3 ⟨rfl, hb3⟩; rw [HY.out]; have S3 := HS2.out.next2 hb3; obtain ⟨n0, n1, n2, n3, n4, n5, n6, l3, _⟩ := S3; have S3 := HS2.out.next2 hb3; have HS3 := Lib.hid S3; clear S3 hb3)
      | (go_at_call 90; refine Calls.mono (HA.out _ HS3.out.b) ?_; rintro e w4 ⟨rfl, hb4⟩; have S4 := HS3.out.next hb4; have HS4 := Lib.hid S4; clear S4 hb4))
    have S5 := HS4.out.next ((Below.refl _ _).alloc (Nat.le_refl _) (.cells #[.int .i64 N, .int .i64 D] 108))
    have c0 : (w4.alloc (.cells #[.int .i64 N, .int .i64 D] 108)).cell? ⟨w4.heap.size, 0, none⟩ = some (.int .i64 N) := by go_simp
    have c1 : (w4.alloc (.cells #[.int .i64 N, .int .i64 D] 108)).cell? ⟨w4.heap.size, 1, none⟩ = some (.int .i64 D) := by go_simp
    generalize hW5 : w4.alloc (.cells #[.int .i64 N, .int .i64 D] 108) = w5 at *
    obtain ⟨t0, t1, t2, t3, t4, t5, t6, l5, _⟩ := S5
    have S5 := hW5 ▸ HS4.out.next ((Below.refl _ _).alloc (Nat.le_refl _) (.cells #[.int .i64 N, .int .i64 D] 108))
    have HS5 := Lib.hid S5
    clear S5 hW5
    refine wpIn_wide.1 (region_inv (n := 9) (by kernel_rfl) (fun i => match i with
        | 0 => .agg #[.int .i64 N, .int .i64 D] | 1 => .int .i64 (fl N D) | 2 => .agg #[.int .i64 N, .int .i64 D] | 3 => .int .i64 (cl N D) | 4 => .agg #[.int .i64 (fl N D), .int .i64 (cl N D)] | 6 => .int .i64 0 | _ => undef)
      (fun L x => (L.getD 5 false = false → Below w5.heap.size w5 x) ∧ (L.getD 5 false = true → ∃ y, Below w5.heap.size w5 y ∧ x = (y.setCell ⟨w.heap.size + 1, 0, none⟩ (.int .i64 (fl N D))).setCell ⟨w.heap.size + 1, 1, none⟩ (.int .i64 (cl N D))))
      (by kernel_rfl) rfl ⟨fun _ => (Below.refl _ _).drew, fun h => by simp at h⟩ ?hstep ?hend)
    case hstep =>
      intro i' o ho L b' x' hF hR hpre hl
      match i', ho with
      | 0, ho =>
        simp at ho
        subst ho
        refine step_plain rfl ?_
        have e9 := hF.was 9 (by kernel_rfl) rfl
        have hN := hF.later hl 5 rfl (e := ⟨0, .phase⟩) (by simp) rfl rfl
        have hM := hR.1 hN
        rw [Array.getD_eq_getD_getElem?] at hN
        clear hF hpre hl hR
        have q0 := cell_keep hM c0
        have q1 := cell_keep hM c1
        first | (go_simp; done) | (go_simp; exact hM)
      | 1, ho =>
        simp at ho
        subst ho
        refine step_plain rfl ?_
        have e35 := hF.gave 0 rfl (hpre ⟨0, .data⟩ (by simp) rfl) rfl
        have hN := hF.later hl 5 rfl (e := ⟨1, .phase⟩) (by simp) rfl rfl
        have hM := hR.1 hN
        rw [Array.getD_eq_getD_getElem?] at hN
        clear hF hpre hl hR
        have q0 := cell_keep hM c0
        have q1 := cell_keep hM c1
        go_simp
        refine ⟨trivial, ?_⟩
        refine CallsIn.mono (callsIn_wide.2 (vfloor_any N D _ (by omega) (by omega) (by omega) (by omega))) ?_
        rintro e y' ⟨rfl, hy⟩
        have hs := hM.size
        exact ⟨rfl, hM.trans (hy.mono hs)⟩
      | 2, ho =>
        simp at ho
        subst ho
        refine step_plain rfl ?_
        have e9 := hF.was 9 (by kernel_rfl) rfl
        have hN := hF.later hl 5 rfl (e := ⟨2, .phase⟩) (by simp) rfl rfl
        have hM := hR.1 hN
        rw [Array.getD_eq_getD_getElem?] at hN
        clear hF hpre hl hR
        have q0 := cell_keep hM c0
        have q1 := cell_keep hM c1
        first | (go_simp; done) | (go_simp; exact hM)
      | 3, ho =>
        simp at ho
        subst ho
        refine step_plain rfl ?_
        have e37 := hF.gave 2 rfl (hpre ⟨2, .data⟩ (by simp) rfl) rfl
        have hN := hF.later hl 5 rfl (e := ⟨3, .phase⟩) (by simp) rfl rfl
        have hM := hR.1 hN
        rw [Array.getD_eq_getD_getElem?] at hN
        clear hF hpre hl hR
        have q0 := cell_keep hM c0
        have q1 := cell_keep hM c1
        go_simp
        refine ⟨trivial, ?_⟩
        refine CallsIn.mono (callsIn_wide.2 (vceil_any N D _ (by omega) (by omega) (by omega) (by omega))) ?_
        rintro e y' ⟨rfl, hy⟩
        have hs := hM.size
        exact ⟨rfl, hM.trans (hy.mono hs)⟩
      | 4, ho =>
        simp at ho
        subst ho
        refine step_plain rfl ?_
        have e36 := hF.gave 1 rfl (hpre ⟨1, .data⟩ (by simp) rfl) rfl
        have e38 := hF.gave 3 rfl (hpre ⟨3, .data⟩ (by simp) rfl) rfl
        have hN := hF.later hl 5 rfl (e := ⟨4, .phase⟩) (by simp) rfl rfl
        have hM := hR.1 hN
        rw [Array.getD_eq_getD_getElem?] at hN
        clear hF hpre hl hR
        have q0 := cell_keep hM c0
        have q1 := cell_keep hM c1
        go_simp
        refine ⟨trivial, ?_⟩
        refine CallsIn.mono (callsIn_wide.2 (span_any _ _ _)) ?_
        rintro e y' ⟨rfl, hy⟩
        have hs := hM.size
        exact ⟨rfl, hM.trans (hy.mono hs)⟩
      | 5, ho =>
        simp at ho
        subst ho
        refine step_plain rfl ?_
        have e6 := hF.was 6 (by kernel_rfl) rfl
        have e39 := hF.gave 4 rfl (hpre ⟨4, .data⟩ (by simp) rfl) rfl
        have hls := hF.lsize
        have hls' : 5 < L.size := by rw [hls]; decide
        have hM := hR.1 (by rw [← getD_same hls']; exact hl)
        clear hF hpre hl hR hls
        have q0 := cell_keep hM t3
        have q1 := cell_keep hM t4
        have q4 := (hM.frozen (p := ⟨w.heap.size + 1, 0, none⟩) l5).trans t5
        have q5 := (hM.frozen (p := ⟨w.heap.size + 1, 1, none⟩) l5).trans t6
        go_simp
        exact ⟨x', hM, rfl⟩
      | 6, ho =>
        simp at ho
        subst ho
        refine step_plain rfl ?_
        have hT : L.getD 5 false = true := hpre ⟨5, .phase⟩ (by simp) rfl
        obtain ⟨y', hy, rfl⟩ := hR.2 hT
        rw [Array.getD_eq_getD_getElem?] at hT
        clear hF hpre hl hR
        go_simp
        exact ⟨y', hy, rfl⟩
      | i + 7, ho => simp at ho
    case hend =>
      intro L b' x' hF hall hR
      have e := hF.all (by kernel_rfl) hall
      obtain ⟨y', hy, rfl⟩ := hR.2 (hall 5 (by decide))
      have HS6 := Lib.hid (HS5.out.next hy)
      obtain ⟨z1, z2, z3⟩ := HS6.out.res
      clear hF hall hR
      subst e
      simp [final, dstOf, List.range, List.range.loop]
      go_wp2
      refine bodyPost_ret (v := .tuple #[.agg #[.int .i64 (fl N D), .int .i64 (cl N D)], .int .i64 0]) (by simp [results, Try.results45, go_sem, z1, z2]) rfl ?_
      exact ⟨rfl, z3 _ _⟩

set_option maxRecDepth 100000 in
set_option maxHeartbeats 4000000 in
theorem rat_s (AX AY AV : Option Addr) (nx cx ny cy nv cv B : Nat) (X Y : List Int) (V : List (List Int)) (x y : Int) (w : World) (hx : X.length = nx) (hy : Y.length = ny) (hv : V.length = nv) (hnx : nx ≤ maxLen) (hny : ny ≤ maxLen) (hnv : nv ≤ maxLen) (hnr : ∀ r ∈ V, r.length ≤ maxLen)
    (hB : B ≤ w.heap.size) (h : TB w B AX AY AV X Y V) :
    Calls Try.prog 46 #[.agg #[.slice AX nx cx, .slice AY ny cy, .slice AV nv cv], .int .i64 x, .int .i64 y] w fun e w' =>
      e = .returned (.tuple #[.agg #[.int .i64 (atS X Y V x y).1.1, .int .i64 (atS X Y V x y).1.2], .int .i64 (atS X Y V x y).2]) ∧ Below w.heap.size w w' := by
  subst hx hy hv
  have HT := Lib.hid h
  have HCT := Lib.hid (fun (W : World) (hW : Below w.heap.size w W) => rct_any AX AY AV _ cx _ cy _ cv B X Y V W rfl rfl rfl hnx hny hnv hnr (by have := hW.size; omega) (h.below (hW.mono hB)))
  have S0 := Two.start w AX AY AV X.length cx Y.length cy V.length cv 27 37
  have HS0 := Lib.hid S0
  clear h S0
  cases hct : ctB X Y V with
  | false =>
    rw [show atS X Y V x y = ((0, 0), 11) by unfold atS; rw [hct]; rfl]
    have HE := Lib.hid (ctE_no hct)
    clear hct
    go_enter Try.func46, Try.ntmps46
    go_wp2_with (go_at_call 24; refine Calls.mono (HCT.out _ (by go_grown)) ?_; rintro e w1 ⟨rfl, hb1⟩; rw [HE.out]; have S1 := HS0.out.next hb1; obtain ⟨k0, k1, k2, k3, k4, k5, k6, l1, _⟩ := S1; have S1 := HS0.out.next hb1; have HS1 := Lib.hid S1; clear S1 hb1)
    obtain ⟨z1, z2, z3⟩ := HS1.out.res
    refine bodyPost_ret (v := .tuple #[.agg #[.int .i64 0, .int .i64 0], .int .i64 11]) (by simp [results, Try.results46, go_sem, z1, z2]) rfl ?_
    exact ⟨rfl, z3 _ _⟩
  | true =>
  obtain ⟨ha, hb, hlv, hrw⟩ := ctB_get hct
  obtain ⟨q1, q2, _, _⟩ := axB_get ha
  obtain ⟨p1, p2, _, _⟩ := axB_get hb
  have HE := Lib.hid (ctE_yes hct)
  have HOX := Lib.hid (fun (W : World) (hW : Below w.heap.size w W) => between_any AX _ cx B X x x W rfl (by omega) (by omega) (by have := hW.size; omega) (HT.out.x.below (hW.mono hB)))
  have HOY := Lib.hid (fun (W : World) (hW : Below w.heap.size w W) => between_any AY _ cy B Y y y W rfl (by omega) (by omega) (by have := hW.size; omega) (HT.out.y.below (hW.mono hB)))
  cases hX : onB X [x] with
  | false =>
    rw [show atS X Y V x y = ((0, 0), 1) by unfold atS; rw [hct, hX]; rfl]
    have HX := Lib.hid hX
    clear hct hX ha hb hlv hrw q1 q2 p1 p2
    go_enter Try.func46, Try.ntmps46
    go_wp2_with (first
      | (go_at_call 24; refine Calls.mono (HCT.out _ (by go_grown)) ?_; rintro e w1 ⟨rfl, hb1⟩; rw [HE.out]; have S1 := HS0.out.next hb1; obtain ⟨k0, k1, k2, k3, k4, k5, k6, l1, _⟩ := S1; have S1 := HS0.out.next hb1; have HS1 := Lib.hid S1; clear S1 hb1)
      | (go_at_call_of 93 (Value.slice AX X.length cx); refine Calls.mono (HOX.out _ HS1.out.b) ?_; rintro e w2 ⟨rfl, hb2⟩; rw [btB_on, HX.out]; have S2 := HS1.out.next hb2; obtain ⟨m0, m1, m2, m3, m4, m5, m6, l2, _⟩ := S2; have S2 := HS1.out.next hb2; have HS2 := Lib.hid S2; clear S2 hb2))
    obtain ⟨z1, z2, z3⟩ := HS2.out.res
    refine bodyPost_ret (v := .tuple #[.agg #[.int .i64 0, .int .i64 0], .int .i64 1]) (by simp [results, Try.results46, go_sem, z1, z2]) rfl ?_
    exact ⟨rfl, z3 _ _⟩
  | true =>
  cases hY : onB Y [y] with
  | false =>
    rw [show atS X Y V x y = ((0, 0), 1) by unfold atS; rw [hct, hX, hY]; rfl]
    have HX := Lib.hid hX
    have HY := Lib.hid hY
    clear hct hX hY ha hb hlv hrw q1 q2 p1 p2
    go_enter Try.func46, Try.ntmps46
    go_wp2_with (first
      | (go_at_call 24; refine Calls.mono (HCT.out _ (by go_grown)) ?_; rintro e w1 ⟨rfl, hb1⟩; rw [HE.out]; have S1 := HS0.out.next hb1; obtain ⟨k0, k1, k2, k3, k4, k5, k6, l1, _⟩ := S1; have S1 := HS0.out.next hb1; have HS1 := Lib.hid S1; clear S1 hb1)
      | (go_at_call_of 93 (Value.slice AX X.length cx); refine Calls.mono (HOX.out _ HS1.out.b) ?_; rintro e w2 ⟨rfl, hb2⟩; rw [btB_on, HX.out]; have S2 := HS1.out.next hb2; obtain ⟨m0, m1, m2, m3, m4, m5, m6, l2, _⟩ := S2; have S2 := HS1.out.next hb2; have HS2 := Lib.hid S2; clear S2 hb2)
      | (go_at_call_of 93 (Value.slice AY Y.length cy); refine Calls.mono (HOY.out _ HS2.out.b) ?_; rintro e w3 ⟨rfl, hb3⟩; rw [btB_on, HY.out]; have S3 := HS2.out.next hb3; obtain ⟨n0, n1, n2, n3, n4, n5, n6, l3, _⟩ := S3; have S3 := HS2.out.next hb3; have HS3 := Lib.hid S3; clear S3 hb3))
    obtain ⟨z1, z2, z3⟩ := HS3.out.res
    refine bodyPost_ret (v := .tuple #[.agg #[.int .i64 0, .int .i64 0], .int .i64 1]) (by simp [results, Try.results46, go_sem, z1, z2]) rfl ?_
    exact ⟨rfl, z3 _ _⟩
  | true =>
    rw [show atS X Y V x y = ((fl (atN X Y V x y) (atD X Y x y), cl (atN X Y V x y) (atD X Y x y)), 0) by unfold atS; rw [hct, hX, hY]; rfl]
    have HX := Lib.hid hX
    have HY := Lib.hid hY
    have hoX := onB_on.1 hX
    have hoY := onB_on.1 hY
    obtain ⟨d1, d2⟩ := atD_bd ha hb hoX hoY
    obtain ⟨e1, e2⟩ := atN_bd hct hoX hoY
    have HA := Lib.hid (fun (W : World) (hW : Below w.heap.size w W) => rvalue_any AX AY AV _ cx _ cy _ cv B X Y V x y W rfl rfl rfl (by have := hW.size; omega) (HT.out.below (hW.mono hB)) hct hoX hoY)
    clear hct hX hY ha hb hlv hrw q1 q2 p1 p2 hoX hoY
    generalize atN X Y V x y = N at *
    generalize atD X Y x y = D at *
    have e3 : -100000000000000 ≤ N := by omega
    have e4 : N ≤ 100000000000000 := by omega
    clear e1 e2
    go_enter Try.func46, Try.ntmps46
    go_wp2_with (first
      | (go_at_call 24; refine Calls.mono (HCT.out _ (by go_grown)) ?_; rintro e w1 ⟨rfl, hb1⟩; rw [HE.out]; have S1 := HS0.out.next hb1; obtain ⟨k0, k1, k2, k3, k4, k5, k6, l1, _⟩ := S1; have S1 := HS0.out.next hb1; have HS1 := Lib.hid S1; clear S1 hb1)
      | (go_at_call_of 93 (Value.slice AX X.length cx); refine Calls.mono (HOX.out _ HS1.out.b) ?_; rintro e w2 ⟨rfl, hb2⟩; rw [btB_on, HX.out]; have S2 := HS1.out.next hb2; obtain ⟨m0, m1, m2, m3, m4, m5, m6, l2, _⟩ := S2; have S2 := HS1.out.next hb2; have HS2 := Lib.hid S2; clear S2 hb2)
      | (go_at_call_of 93 (Value.slice AY Y.length cy); refine Calls.mono (HOY.out _ HS2.out.b) ?_; rintro e w3 ⟨rfl, hb3⟩; rw [btB_on, HY.out]; have S3 := HS2.out.next hb3; obtain ⟨n0, n1, n2, n3, n4, n5, n6, l3, _⟩ := S3; have S3 := HS2.out.next hb3; have HS3 := Lib.hid S3; clear S3 hb3)
      | (go_at_call 94; refine Calls.mono (HA.out _ HS3.out.b) ?_; rintro e w4 ⟨rfl, hb4⟩; have S4 := HS3.out.next hb4; obtain ⟨t0, t1, t2, t3, t4, t5, t6, l5, _⟩ := S4; have S4 := HS3.out.next hb4; have HS4 := Lib.hid S4; clear S4 hb4)
      | (go_at_call 76; refine Calls.mono (rfloor_wide N D _ (by omega) (by omega) (by omega) (by omega)) ?_; rintro e w9 ⟨rfl, rfl⟩)
      | (go_at_call 77; refine Calls.mono (rceil_wide N D _ (by omega) (by omega) (by omega) (by omega)) ?_; rintro e w9 ⟨rfl, rfl⟩))
    obtain ⟨z1, z2, z3⟩ := HS4.out.res
    refine bodyPost_ret (v := .tuple #[.agg #[.int .i64 (fl N D), .int .i64 (cl N D)], .int .i64 0]) (by simp [results, Try.results46, go_sem, z1, z2]) rfl ?_
    exact ⟨rfl, z3 _ _⟩

end Go.Proofs.Ytjdahphnmeaolaa

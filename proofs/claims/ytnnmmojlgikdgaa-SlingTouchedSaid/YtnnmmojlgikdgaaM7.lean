/- Contracts of the functions that the statement reaches: JHaulM, JPos1, JPos2, JPos3. -/
import Derived.Test.YtnnmmojlgikdgaaM6
import Derived.Test.YtnnmmojlgikdgaaM5

/- Plain mathematics: a hoist's steps. -/
namespace Go.Proofs.Ytnnmmojlgikdgaa

/-- Is a step possible? -/
def posB (car : Int → Int → Bool) (cable charge : Int) (s : HG) (k n : Int) : Bool :=
  if k = 1 then decide (1 ≤ n ∧ n ≤ cable - s.len) && car (s.len + n) s.wt
  else if k = 2 then decide (1 ≤ n ∧ n ≤ s.len) && car (s.len - n) s.wt
  else if k = 3 then decide (n = 0) && decide (0 < s.len)
  else if k = 4 then (((decide (1 ≤ n ∧ n ≤ 100000) && decide (s.wt = 0)) && decide (0 < s.len)) && (s.touched && decide (s.since < charge))) && car s.len n
  else if k = 5 then decide (n = 0) && decide (0 < s.wt)
  else if k = 6 then decide (n = 0)
  else false
/-- What it makes of the hoist. -/
def plS (s : HG) (k n : Int) : HG :=
  if k = 1 then ⟨s.len + n, s.wt, s.since + 1, s.cyc, s.cut, s.touched⟩
  else if k = 2 then ⟨s.len - n, s.wt, s.since + 1, s.cyc, s.cut, s.touched⟩
  else if k = 3 then ⟨s.len, s.wt, 0, s.cyc, s.cut, true⟩
  else if k = 4 then ⟨s.len, n, s.since + 1, s.cyc, s.cut, s.touched⟩
  else if k = 5 then ⟨s.len, 0, s.since + 1, s.cyc + 1, s.cut, s.touched⟩
  else if k = 6 then ⟨0, 0, s.since + 1, s.cyc, true, s.touched⟩
  else s
def doB (car : Int → Int → Bool) (cable charge : Int) (s : HG) (k n : Int) : Bool := !s.cut && posB car cable charge s k n
/-- The hoist behind steps, and the first step that is not possible, or -1. -/
def hauR (p : HG → Int → Int → Bool) : List (Int × Int) → HG → Int → HG × Int
  | [], s, _ => (s, -1)
  | (k, n) :: t, s, i => if p s k n then hauR p t (plS s k n) (i + 1) else (s, i)
/-- A hoist that stands right behind at most m steps. -/
structure GD (cable : Int) (m : Nat) (s : HG) : Prop where
  l0 : 0 ≤ s.len
  l1 : s.len ≤ cable
  w0 : 0 ≤ s.wt
  w1 : s.wt ≤ 100000
  s0 : 0 ≤ s.since
  s1 : s.since ≤ m
  c0 : 0 ≤ s.cyc
  c1 : s.cyc ≤ m
theorem GD.play {car : Int → Int → Bool} {cable charge : Int} {m : Nat} {s : HG} {k n : Int} (h : GD cable m s) (hc : 0 ≤ cable) (hp : posB car cable charge s k n = true) : GD cable (m + 1) (plS s k n) := by
  obtain ⟨a1, a2, a3, a4, a5, a6, a7, a8⟩ := h
  unfold posB at hp
  unfold plS
  split at hp
  · rename_i e
    simp only [Bool.and_eq_true, decide_eq_true_eq] at hp
    rw [if_pos e]
    constructor <;> simp only <;> omega
  · rename_i e1
    rw [if_neg e1]
    split at hp
    · rename_i e
      simp only [Bool.and_eq_true, decide_eq_true_eq] at hp
      rw [if_pos e]
      constructor <;> simp only <;> omega
    · rename_i e2
      rw [if_neg e2]
      split at hp
      · rename_i e
        simp only [Bool.and_eq_true, decide_eq_true_eq] at hp
        rw [if_pos e]
        constructor <;> simp only <;> omega
      · rename_i e3
        rw [if_neg e3]
        split at hp
        · rename_i e
          simp only [Bool.and_eq_true, decide_eq_true_eq] at hp
          rw [if_pos e]
          constructor <;> simp only <;> omega
        · rename_i e4
          rw [if_neg e4]
          split at hp
          · rename_i e
            simp only [Bool.and_eq_true, decide_eq_true_eq] at hp
            rw [if_pos e]
            constructor <;> simp only <;> omega
          · rename_i e5
            rw [if_neg e5]
            split at hp
            · rename_i e
              rw [if_pos e]
              constructor <;> simp only <;> omega
            · cases hp
end Go.Proofs.Ytnnmmojlgikdgaa

/- The winch: what is possible. -/
namespace Go.Proofs.Ytnnmmojlgikdgaa
open Go.RowKit

section
variable (g : Nat) (cable charge y1 y2 len wt since cyc : Int) (cut tch : Bool) (k n : Int) (AX AY AV : Option Addr) (nx cx ny cy nv cv B : Nat) (X Y : List Int) (V : List (List Int)) (w : World)

set_option maxRecDepth 100000 in
set_option maxHeartbeats 8000000 in
theorem possible1 (ht : HT w B AX AY AV nx ny nv X Y V) (h : WN w g cable AX nx cx AY ny cy AV nv cv charge ⟨len, wt, since, cyc, cut, tch⟩ y1 y2) (z0 : 0 ≤ len) (z1 : len ≤ cable) (z2 : cable ≤ 100) :
    Calls Try.prog 110 #[.pointer (some ⟨g, 0, none⟩), .agg #[.int .i64 1, .int .i64 n]] w fun e w' => e = .returned (.bool (posB (fun l u => carB X Y V l l y1 y2 u) cable charge ⟨len, wt, since, cyc, cut, tch⟩ 1 n)) ∧ Below w.heap.size w w' := by
  have HAL := Lib.hid alone_any
  have HCA := Lib.hid (fun (W : World) (hW : Below w.heap.size w W) (a : Int) (u : Int) => carries_any g cable charge y1 y2 a a u ⟨len, wt, since, cyc, cut, tch⟩ AX AY AV nx cx ny cy nv cv B X Y V W (ht.below hW) (h.stay hW))
  have i1 : IntKind.i64.wrap (cable - len) = cable - len := IntWalk.i64_in _ (by omega)
  by_cases g1 : 1 ≤ n ∧ n ≤ cable - len
  · have G1 := Lib.hid (show wB 1 (cable - len) [n] = true by rw [wB_one]; simp [g1])
    rw [show posB (fun l u => carB X Y V l l y1 y2 u) cable charge ⟨len, wt, since, cyc, cut, tch⟩ 1 n = carB X Y V (len + n) (len + n) y1 y2 wt by unfold posB; simp [g1]]
    replace HCA := Lib.hid (fun W hW => HCA.out W hW (len + n) wt)
    generalize carB X Y V (len + n) (len + n) y1 y2 wt = cb at *
    have i2 : IntKind.i64.wrap (len + n) = len + n := IntWalk.i64_in _ (by omega)
    have hW1 : WN (w.alloc (.cells #[.int .i64 1, .int .i64 n] 82)) g cable AX nx cx AY ny cy AV nv cv charge ⟨len, wt, since, cyc, cut, tch⟩ y1 y2 := h.stay ((Below.refl _ _).alloc (Nat.le_refl _) _)
    have hB1 : Below w.heap.size w (w.alloc (.cells #[.int .i64 1, .int .i64 n] 82)) := (Below.refl _ _).alloc (Nat.le_refl _) _
    have l0 : (w.alloc (.cells #[.int .i64 1, .int .i64 n] 82)).cell? ⟨w.heap.size, 0, none⟩ = some (.int .i64 1) := by rw [cell_newest]; rfl
    have l1 : (w.alloc (.cells #[.int .i64 1, .int .i64 n] 82)).cell? ⟨w.heap.size, 1, none⟩ = some (.int .i64 n) := by rw [cell_newest]; rfl
    have c0 := cellOf (o := 0) hW1 rfl
    have c4 := cellOf (o := 4) hW1 rfl
    have c5 := cellOf (o := 5) hW1 rfl
    have c6 := cellOf (o := 6) hW1 rfl
    have c7 := cellOf (o := 7) hW1 rfl
    have c12 := cellOf (o := 12) hW1 rfl
    have hg := hW1.lt
    have HB1 := Lib.hid hB1
    clear hW1 hB1 h ht
    go_enter Try.func110, Try.ntmps110
    go_upto_region 3 with (fail)
    generalize w.alloc _ = w1 at *
    obtain ⟨Q1, hQ1⟩ : ∃ q9 : Nat → Value → World → Prop, q9 = QG [some (.pointer (some ⟨g, 0, none⟩)), some (.pointer (some ⟨g, 0, none⟩)), some (.pointer (some ⟨g, 0, none⟩)), some (.pointer (some ⟨g, 0, none⟩)), some (.int .i64 cable), some (.pointer (some ⟨g, 0, none⟩)), some (.pointer (some ⟨g, 0, none⟩)), some (.pointer (some ⟨g, 5, none⟩)), some (.pointer (some ⟨g, 5, none⟩)), some (.int .i64 len), some (.int .i64 (cable - len)), some (.pointer (some ⟨w.heap.size, 1, none⟩)), some (.int .i64 n), none, some (.bool true), some (.bool true), some (.pointer (some ⟨g, 0, none⟩)), some (.pointer (some ⟨g, 0, none⟩)), some (.pointer (some ⟨g, 0, none⟩)), some (.pointer (some ⟨g, 5, none⟩)), some (.pointer (some ⟨g, 5, none⟩)), some (.int .i64 len), some (.pointer (some ⟨w.heap.size, 1, none⟩)), some (.int .i64 n), some (.int .i64 (len + n)), some (.agg #[.int .i64 (len + n), .int .i64 (len + n)]), some (.pointer (some ⟨g, 0, none⟩)), some (.pointer (some ⟨g, 0, none⟩)), some (.pointer (some ⟨g, 5, none⟩)), some (.pointer (some ⟨g, 6, none⟩)), some (.int .i64 wt), some (.bool cb), some (.bool cb), some (.bool cb)] (fun j0' v0' w0' => (j0' = 13 → QI [n] v0' w0')) := ⟨_, rfl⟩
    have hst : Stays Q1 := by rw [hQ1]; exact QG.stays (fun j v W W' h hb => fun e => (h e).stay hb)
    have U113 := Lib.hid (show ∀ v0' w0', Q1 13 v0' w0' ↔ QI [n] v0' w0' from fun v0' w0' => by rw [hQ1]; exact ⟨fun h => h rfl, fun h => fun _ => h⟩)
    have HQ1 := Lib.hid hQ1
    clear hQ1
    refine wpIn_wide.1 (region_inv2 (n := 9) (by kernel_rfl) (RQ Q1 w1) (by kernel_rfl) rfl (RQ.start _ _ _) ?hstep1 ?hend1)
    case hstep1 =>
      intro i' o ho val L b' x hF hR hpre hl
      match i', ho with
      | 0, ho =>
        simp at ho; subst ho; refine step_plain rfl ?_; have e0 := hF.was 0 (by kernel_rfl) rfl; have hgoal := hR.go hst HQ1 0 rfl; clear hF hpre hl hR; go_simp; exact ⟨_, rfl, hgoal _ _ (Below.refl _ _) rfl⟩
      | 1, ho =>
        simp at ho; subst ho; refine step_plain rfl ?_; have e10 := hF.gv hR.2 HQ1 0 rfl (hpre ⟨0, .data⟩ (by simp) rfl) rfl; have hgoal := hR.go hst HQ1 1 rfl; clear hF hpre hl hR; go_simp; exact ⟨_, rfl, hgoal _ _ (Below.refl _ _) rfl⟩
      | 2, ho =>
        simp at ho; subst ho; refine step_plain rfl ?_; have e11 := hF.gv hR.2 HQ1 1 rfl (hpre ⟨1, .data⟩ (by simp) rfl) rfl; have hgoal := hR.go hst HQ1 2 rfl; clear hF hpre hl hR; go_simp; exact ⟨_, rfl, hgoal _ _ (Below.refl _ _) rfl⟩
      | 3, ho =>
        simp at ho; subst ho; refine step_plain rfl ?_; have e12 := hF.gv hR.2 HQ1 2 rfl (hpre ⟨2, .data⟩ (by simp) rfl) rfl; have hgoal := hR.go hst HQ1 3 rfl; clear hF hpre hl hR; go_simp; exact ⟨_, rfl, hgoal _ _ (Below.refl _ _) rfl⟩
      | 4, ho =>
        simp at ho; subst ho; refine step_plain rfl ?_; have e13 := hF.gv hR.2 HQ1 3 rfl (hpre ⟨3, .data⟩ (by simp) rfl) rfl; have hgoal := hR.go hst HQ1 4 rfl; have q0 := cell_keep hR.1 c0; clear hF hpre hl hR; go_simp; exact ⟨_, rfl, hgoal _ _ (Below.refl _ _) rfl⟩
      | 5, ho =>
        simp at ho; subst ho; refine step_plain rfl ?_; have e0 := hF.was 0 (by kernel_rfl) rfl; have hgoal := hR.go hst HQ1 5 rfl; clear hF hpre hl hR; go_simp; exact ⟨_, rfl, hgoal _ _ (Below.refl _ _) rfl⟩
      | 6, ho =>
        simp at ho; subst ho; refine step_plain rfl ?_; have e15 := hF.gv hR.2 HQ1 5 rfl (hpre ⟨5, .data⟩ (by simp) rfl) rfl; have hgoal := hR.go hst HQ1 6 rfl; clear hF hpre hl hR; go_simp; exact ⟨_, rfl, hgoal _ _ (Below.refl _ _) rfl⟩
      | 7, ho =>
        simp at ho; subst ho; refine step_plain rfl ?_; have e16 := hF.gv hR.2 HQ1 6 rfl (hpre ⟨6, .data⟩ (by simp) rfl) rfl; have hgoal := hR.go hst HQ1 7 rfl; clear hF hpre hl hR; go_simp; exact ⟨_, rfl, hgoal _ _ (Below.refl _ _) rfl⟩
      | 8, ho =>
        simp at ho; subst ho; refine step_plain rfl ?_; have e17 := hF.gv hR.2 HQ1 7 rfl (hpre ⟨7, .data⟩ (by simp) rfl) rfl; have hgoal := hR.go hst HQ1 8 rfl; clear hF hpre hl hR; go_simp; exact ⟨_, rfl, hgoal _ _ (Below.refl _ _) rfl⟩
      | 9, ho =>
        simp at ho; subst ho; refine step_plain rfl ?_; have e18 := hF.gv hR.2 HQ1 8 rfl (hpre ⟨8, .data⟩ (by simp) rfl) rfl; have hgoal := hR.go hst HQ1 9 rfl; have q0 := cell_keep hR.1 c5; clear hF hpre hl hR; go_simp; exact ⟨_, rfl, hgoal _ _ (Below.refl _ _) rfl⟩
      | 10, ho =>
        simp at ho; subst ho; refine step_plain rfl ?_; have e14 := hF.gv hR.2 HQ1 4 rfl (hpre ⟨4, .data⟩ (by simp) rfl) rfl; have e19 := hF.gv hR.2 HQ1 9 rfl (hpre ⟨9, .data⟩ (by simp) rfl) rfl; have hgoal := hR.go hst HQ1 10 rfl; clear hF hpre hl hR; go_simp; exact ⟨_, rfl, hgoal _ _ (Below.refl _ _) rfl⟩
      | 11, ho =>
        simp at ho; subst ho; refine step_plain rfl ?_; have e3 := hF.was 3 (by kernel_rfl) rfl; have hgoal := hR.go hst HQ1 11 rfl; clear hF hpre hl hR; go_simp; exact ⟨_, rfl, hgoal _ _ (Below.refl _ _) rfl⟩
      | 12, ho =>
        simp at ho; subst ho; refine step_plain rfl ?_; have e21 := hF.gv hR.2 HQ1 11 rfl (hpre ⟨11, .data⟩ (by simp) rfl) rfl; have hgoal := hR.go hst HQ1 12 rfl; have q0 := cell_keep hR.1 l1; clear hF hpre hl hR; go_simp; exact ⟨_, rfl, hgoal _ _ (Below.refl _ _) rfl⟩
      | 13, ho =>
        simp at ho; subst ho; refine step_plain rfl ?_; have e22 := hF.gv hR.2 HQ1 12 rfl (hpre ⟨12, .data⟩ (by simp) rfl) rfl
        have hgoal : ∀ v0' w0', Below x.heap.size x w0' → QI [n] v0' w0' → RQ Q1 w1 (upd val 13 v0') (L.setIfInBounds 13 true) w0' := fun v0' w0' hb hq => hR.step hst hb ((U113.out _ _).2 hq)
        have hM := Lib.hid hR.1
        clear hF hpre hl hR; go_simp; exact ⟨_, rfl, hgoal _ _ ((Below.refl _ _).alloc (Nat.le_refl _) _) ⟨_, _, rfl, Nat.le_refl _, (RI.new1 rfl).more (by simp)⟩⟩
      | 14, ho =>
        simp at ho; subst ho; refine step_plain rfl ?_; have e20 := hF.gv hR.2 HQ1 10 rfl (hpre ⟨10, .data⟩ (by simp) rfl) rfl; have e23 := hF.gave 13 rfl (hpre ⟨13, .data⟩ (by simp) rfl) rfl
        have v13 := (U113.out _ _).1 (hR.2 13 (hpre ⟨13, .data⟩ (by simp) rfl))
        have hgoal := hR.go hst HQ1 14 rfl
        have hM := Lib.hid hR.1
        clear hF hpre hl hR
        obtain ⟨A9, c9, h9, _, hr9⟩ := v13
        rw [h9] at e23
        go_simp
        refine ⟨trivial, ?_⟩
        refine CallsIn.mono (callsIn_wide.2 (within_any 1 (cable - len) _ 1 _ _ [n] _ rfl (le_maxLen (by omega)) hr9)) ?_
        rintro e w9 ⟨rfl, rfl⟩
        exact ⟨_, rfl, hgoal _ _ (Below.refl _ _) (by rw [G1.out])⟩
      | 15, ho =>
        simp at ho; subst ho; refine step_plain rfl ?_; have e24 := hF.gv hR.2 HQ1 14 rfl (hpre ⟨14, .data⟩ (by simp) rfl) rfl; have hgoal := hR.go hst HQ1 15 rfl; clear hF hpre hl hR; go_simp; exact ⟨_, rfl, hgoal _ _ (Below.refl _ _) rfl⟩
      | 16, ho =>
        simp at ho; subst ho; refine step_gd hF hR.2 HQ1 (j := 15) (b := true) rfl rfl (by kernel_rfl) (hpre ⟨15, .guard⟩ (by simp) rfl) rfl ?_; have e0 := hF.was 0 (by kernel_rfl) rfl; have hgoal := hR.go hst HQ1 16 rfl; clear hF hpre hl hR; go_simp; exact ⟨_, rfl, hgoal _ _ (Below.refl _ _) rfl⟩
      | 17, ho =>
        simp at ho; subst ho; refine step_gd hF hR.2 HQ1 (j := 15) (b := true) rfl rfl (by kernel_rfl) (hpre ⟨15, .guard⟩ (by simp) rfl) rfl ?_; have e0 := hF.was 0 (by kernel_rfl) rfl; have hgoal := hR.go hst HQ1 17 rfl; clear hF hpre hl hR; go_simp; exact ⟨_, rfl, hgoal _ _ (Below.refl _ _) rfl⟩
      | 18, ho =>
        simp at ho; subst ho; refine step_gd hF hR.2 HQ1 (j := 15) (b := true) rfl rfl (by kernel_rfl) (hpre ⟨15, .guard⟩ (by simp) rfl) rfl ?_; have e27 := hF.gv hR.2 HQ1 17 rfl (hpre ⟨17, .data⟩ (by simp) rfl) rfl; have hgoal := hR.go hst HQ1 18 rfl; clear hF hpre hl hR; go_simp; exact ⟨_, rfl, hgoal _ _ (Below.refl _ _) rfl⟩
      | 19, ho =>
        simp at ho; subst ho; refine step_gd hF hR.2 HQ1 (j := 15) (b := true) rfl rfl (by kernel_rfl) (hpre ⟨15, .guard⟩ (by simp) rfl) rfl ?_; have e28 := hF.gv hR.2 HQ1 18 rfl (hpre ⟨18, .data⟩ (by simp) rfl) rfl; have hgoal := hR.go hst HQ1 19 rfl; clear hF hpre hl hR; go_simp; exact ⟨_, rfl, hgoal _ _ (Below.refl _ _) rfl⟩
      | 20, ho =>
        simp at ho; subst ho; refine step_gd hF hR.2 HQ1 (j := 15) (b := true) rfl rfl (by kernel_rfl) (hpre ⟨15, .guard⟩ (by simp) rfl) rfl ?_; have e29 := hF.gv hR.2 HQ1 19 rfl (hpre ⟨19, .data⟩ (by simp) rfl) rfl; have hgoal := hR.go hst HQ1 20 rfl; clear hF hpre hl hR; go_simp; exact ⟨_, rfl, hgoal _ _ (Below.refl _ _) rfl⟩
      | 21, ho =>
        simp at ho; subst ho; refine step_gd hF hR.2 HQ1 (j := 15) (b := true) rfl rfl (by kernel_rfl) (hpre ⟨15, .guard⟩ (by simp) rfl) rfl ?_; have e30 := hF.gv hR.2 HQ1 20 rfl (hpre ⟨20, .data⟩ (by simp) rfl) rfl; have hgoal := hR.go hst HQ1 21 rfl; have q0 := cell_keep hR.1 c5; clear hF hpre hl hR; go_simp; exact ⟨_, rfl, hgoal _ _ (Below.refl _ _) rfl⟩
      | 22, ho =>
        simp at ho; subst ho; refine step_gd hF hR.2 HQ1 (j := 15) (b := true) rfl rfl (by kernel_rfl) (hpre ⟨15, .guard⟩ (by simp) rfl) rfl ?_; have e3 := hF.was 3 (by kernel_rfl) rfl; have hgoal := hR.go hst HQ1 22 rfl; clear hF hpre hl hR; go_simp; exact ⟨_, rfl, hgoal _ _ (Below.refl _ _) rfl⟩
      | 23, ho =>
        simp at ho; subst ho; refine step_gd hF hR.2 HQ1 (j := 15) (b := true) rfl rfl (by kernel_rfl) (hpre ⟨15, .guard⟩ (by simp) rfl) rfl ?_; have e32 := hF.gv hR.2 HQ1 22 rfl (hpre ⟨22, .data⟩ (by simp) rfl) rfl; have hgoal := hR.go hst HQ1 23 rfl; have q0 := cell_keep hR.1 l1; clear hF hpre hl hR; go_simp; exact ⟨_, rfl, hgoal _ _ (Below.refl _ _) rfl⟩
      | 24, ho =>
        simp at ho; subst ho; refine step_gd hF hR.2 HQ1 (j := 15) (b := true) rfl rfl (by kernel_rfl) (hpre ⟨15, .guard⟩ (by simp) rfl) rfl ?_; have e31 := hF.gv hR.2 HQ1 21 rfl (hpre ⟨21, .data⟩ (by simp) rfl) rfl; have e33 := hF.gv hR.2 HQ1 23 rfl (hpre ⟨23, .data⟩ (by simp) rfl) rfl; have hgoal := hR.go hst HQ1 24 rfl; clear hF hpre hl hR; go_simp; exact ⟨_, rfl, hgoal _ _ (Below.refl _ _) rfl⟩
      | 25, ho =>
        simp at ho; subst ho; refine step_gd hF hR.2 HQ1 (j := 15) (b := true) rfl rfl (by kernel_rfl) (hpre ⟨15, .guard⟩ (by simp) rfl) rfl ?_; have e34 := hF.gv hR.2 HQ1 24 rfl (hpre ⟨24, .data⟩ (by simp) rfl) rfl; have hgoal := hR.go hst HQ1 25 rfl
        have hM := Lib.hid hR.1
        clear hF hpre hl hR; go_simp
        refine ⟨trivial, ?_⟩
        refine CallsIn.mono (callsIn_wide.2 (HAL.out _ _)) ?_
        rintro e w9 ⟨rfl, hb9⟩
        exact ⟨_, rfl, hgoal _ _ hb9 rfl⟩
      | 26, ho =>
        simp at ho; subst ho; refine step_gd hF hR.2 HQ1 (j := 15) (b := true) rfl rfl (by kernel_rfl) (hpre ⟨15, .guard⟩ (by simp) rfl) rfl ?_; have e0 := hF.was 0 (by kernel_rfl) rfl; have hgoal := hR.go hst HQ1 26 rfl; clear hF hpre hl hR; go_simp; exact ⟨_, rfl, hgoal _ _ (Below.refl _ _) rfl⟩
      | 27, ho =>
        simp at ho; subst ho; refine step_gd hF hR.2 HQ1 (j := 15) (b := true) rfl rfl (by kernel_rfl) (hpre ⟨15, .guard⟩ (by simp) rfl) rfl ?_; have e36 := hF.gv hR.2 HQ1 26 rfl (hpre ⟨26, .data⟩ (by simp) rfl) rfl; have hgoal := hR.go hst HQ1 27 rfl; clear hF hpre hl hR; go_simp; exact ⟨_, rfl, hgoal _ _ (Below.refl _ _) rfl⟩
      | 28, ho =>
        simp at ho; subst ho; refine step_gd hF hR.2 HQ1 (j := 15) (b := true) rfl rfl (by kernel_rfl) (hpre ⟨15, .guard⟩ (by simp) rfl) rfl ?_; have e37 := hF.gv hR.2 HQ1 27 rfl (hpre ⟨27, .data⟩ (by simp) rfl) rfl; have hgoal := hR.go hst HQ1 28 rfl; clear hF hpre hl hR; go_simp; exact ⟨_, rfl, hgoal _ _ (Below.refl _ _) rfl⟩
      | 29, ho =>
        simp at ho; subst ho; refine step_gd hF hR.2 HQ1 (j := 15) (b := true) rfl rfl (by kernel_rfl) (hpre ⟨15, .guard⟩ (by simp) rfl) rfl ?_; have e38 := hF.gv hR.2 HQ1 28 rfl (hpre ⟨28, .data⟩ (by simp) rfl) rfl; have hgoal := hR.go hst HQ1 29 rfl; clear hF hpre hl hR; go_simp; exact ⟨_, rfl, hgoal _ _ (Below.refl _ _) rfl⟩
      | 30, ho =>
        simp at ho; subst ho; refine step_gd hF hR.2 HQ1 (j := 15) (b := true) rfl rfl (by kernel_rfl) (hpre ⟨15, .guard⟩ (by simp) rfl) rfl ?_; have e39 := hF.gv hR.2 HQ1 29 rfl (hpre ⟨29, .data⟩ (by simp) rfl) rfl; have hgoal := hR.go hst HQ1 30 rfl; have q0 := cell_keep hR.1 c6; clear hF hpre hl hR; go_simp; exact ⟨_, rfl, hgoal _ _ (Below.refl _ _) rfl⟩
      | 31, ho =>
        simp at ho; subst ho; refine step_gd hF hR.2 HQ1 (j := 15) (b := true) rfl rfl (by kernel_rfl) (hpre ⟨15, .guard⟩ (by simp) rfl) rfl ?_; have e26 := hF.gv hR.2 HQ1 16 rfl (hpre ⟨16, .data⟩ (by simp) rfl) rfl; have e35 := hF.gv hR.2 HQ1 25 rfl (hpre ⟨25, .data⟩ (by simp) rfl) rfl; have e40 := hF.gv hR.2 HQ1 30 rfl (hpre ⟨30, .data⟩ (by simp) rfl) rfl; have hgoal := hR.go hst HQ1 31 rfl
        have hM := Lib.hid hR.1
        clear hF hpre hl hR; go_simp
        refine ⟨trivial, ?_⟩
        refine CallsIn.mono (callsIn_wide.2 (HCA.out _ (HB1.out.trans (hM.out.mono HB1.out.size)))) ?_
        rintro e w9 ⟨rfl, hb9⟩
        exact ⟨_, rfl, hgoal _ _ hb9 rfl⟩
      | 32, ho =>
        simp at ho; subst ho; refine step_plain rfl ?_; have e25 := hF.gv hR.2 HQ1 15 rfl (hpre ⟨15, .data⟩ (by simp) rfl) rfl; have e41 := hF.gv hR.2 HQ1 31 rfl (hpre ⟨31, .data⟩ (by simp) rfl) rfl; have hgoal := hR.go hst HQ1 32 rfl; clear hF hpre hl hR; go_simp; exact ⟨_, rfl, hgoal _ _ (Below.refl _ _) rfl⟩
      | 33, ho =>
        simp at ho; subst ho; refine step_plain rfl ?_; have e42 := hF.gv hR.2 HQ1 32 rfl (hpre ⟨32, .data⟩ (by simp) rfl) rfl; have hgoal := hR.go hst HQ1 33 rfl; clear hF hpre hl hR; go_simp; exact ⟨_, rfl, hgoal _ _ (Below.refl _ _) rfl⟩
      | i + 34, ho => simp at ho
    case hend1 =>
      intro val L b' x hF hall hR
      have e := hF.all (by kernel_rfl) hall
      have k133 := QG.val HQ1 rfl (hR.2 33 (hall 33 (by decide)))
      have hB1 := Lib.hid hR.1
      clear hF hall hR hst HQ1 U113
      subst e
      simp [final, dstOf, List.range, List.range.loop]
      rw [k133]
      go_wp2
      go_ret
      exact ⟨rfl, HB1.out.trans (hB1.out.mono HB1.out.size)⟩
  · have G1 := Lib.hid (show wB 1 (cable - len) [n] = false by rw [wB_one]; simpa using g1)
    rw [show posB (fun l u => carB X Y V l l y1 y2 u) cable charge ⟨len, wt, since, cyc, cut, tch⟩ 1 n = false by unfold posB; simp; intro a b; omega]
    clear g1
    have hW1 : WN (w.alloc (.cells #[.int .i64 1, .int .i64 n] 82)) g cable AX nx cx AY ny cy AV nv cv charge ⟨len, wt, since, cyc, cut, tch⟩ y1 y2 := h.stay ((Below.refl _ _).alloc (Nat.le_refl _) _)
    have hB1 : Below w.heap.size w (w.alloc (.cells #[.int .i64 1, .int .i64 n] 82)) := (Below.refl _ _).alloc (Nat.le_refl _) _
    have l0 : (w.alloc (.cells #[.int .i64 1, .int .i64 n] 82)).cell? ⟨w.heap.size, 0, none⟩ = some (.int .i64 1) := by rw [cell_newest]; rfl
    have l1 : (w.alloc (.cells #[.int .i64 1, .int .i64 n] 82)).cell? ⟨w.heap.size, 1, none⟩ = some (.int .i64 n) := by rw [cell_newest]; rfl
    have c0 := cellOf (o := 0) hW1 rfl
    have c4 := cellOf (o := 4) hW1 rfl
    have c5 := cellOf (o := 5) hW1 rfl
    have c6 := cellOf (o := 6) hW1 rfl
    have c7 := cellOf (o := 7) hW1 rfl
    have c12 := cellOf (o := 12) hW1 rfl
    have hg := hW1.lt
    have HB1 := Lib.hid hB1
    clear hW1 hB1 h ht
    go_enter Try.func110, Try.ntmps110
    go_upto_region 3 with (fail)
    generalize w.alloc _ = w1 at *
    obtain ⟨Q2, hQ2⟩ : ∃ q9 : Nat → Value → World → Prop, q9 = QG [some (.pointer (some ⟨g, 0, none⟩)), some (.pointer (some ⟨g, 0, none⟩)), some (.pointer (some ⟨g, 0, none⟩)), some (.pointer (some ⟨g, 0, none⟩)), some (.int .i64 cable), some (.pointer (some ⟨g, 0, none⟩)), some (.pointer (some ⟨g, 0, none⟩)), some (.pointer (some ⟨g, 5, none⟩)), some (.pointer (some ⟨g, 5, none⟩)), some (.int .i64 len), some (.int .i64 (cable - len)), some (.pointer (some ⟨w.heap.size, 1, none⟩)), some (.int .i64 n), none, some (.bool false), some (.bool false), some (undef), some (undef), some (undef), some (undef), some (undef), some (undef), some (undef), some (undef), some (undef), some (undef), some (undef), some (undef), some (undef), some (undef), some (undef), some (undef), some (.bool false), some (.bool false)] (fun j0' v0' w0' => (j0' = 13 → QI [n] v0' w0')) := ⟨_, rfl⟩
    have hst : Stays Q2 := by rw [hQ2]; exact QG.stays (fun j v W W' h hb => fun e => (h e).stay hb)
    have U213 := Lib.hid (show ∀ v0' w0', Q2 13 v0' w0' ↔ QI [n] v0' w0' from fun v0' w0' => by rw [hQ2]; exact ⟨fun h => h rfl, fun h => fun _ => h⟩)
    have HQ2 := Lib.hid hQ2
    clear hQ2
    refine wpIn_wide.1 (region_inv2 (n := 9) (by kernel_rfl) (RQ Q2 w1) (by kernel_rfl) rfl (RQ.start _ _ _) ?hstep2 ?hend2)
    case hstep2 =>
      intro i' o ho val L b' x hF hR hpre hl
      match i', ho with
      | 0, ho =>
        simp at ho; subst ho; refine step_plain rfl ?_; have e0 := hF.was 0 (by kernel_rfl) rfl; have hgoal := hR.go hst HQ2 0 rfl; clear hF hpre hl hR; go_simp; exact ⟨_, rfl, hgoal _ _ (Below.refl _ _) rfl⟩
      | 1, ho =>
        simp at ho; subst ho; refine step_plain rfl ?_; have e10 := hF.gv hR.2 HQ2 0 rfl (hpre ⟨0, .data⟩ (by simp) rfl) rfl; have hgoal := hR.go hst HQ2 1 rfl; clear hF hpre hl hR; go_simp; exact ⟨_, rfl, hgoal _ _ (Below.refl _ _) rfl⟩
      | 2, ho =>
        simp at ho; subst ho; refine step_plain rfl ?_; have e11 := hF.gv hR.2 HQ2 1 rfl (hpre ⟨1, .data⟩ (by simp) rfl) rfl; have hgoal := hR.go hst HQ2 2 rfl; clear hF hpre hl hR; go_simp; exact ⟨_, rfl, hgoal _ _ (Below.refl _ _) rfl⟩
      | 3, ho =>
        simp at ho; subst ho; refine step_plain rfl ?_; have e12 := hF.gv hR.2 HQ2 2 rfl (hpre ⟨2, .data⟩ (by simp) rfl) rfl; have hgoal := hR.go hst HQ2 3 rfl; clear hF hpre hl hR; go_simp; exact ⟨_, rfl, hgoal _ _ (Below.refl _ _) rfl⟩
      | 4, ho =>
        simp at ho; subst ho; refine step_plain rfl ?_; have e13 := hF.gv hR.2 HQ2 3 rfl (hpre ⟨3, .data⟩ (by simp) rfl) rfl; have hgoal := hR.go hst HQ2 4 rfl; have q0 := cell_keep hR.1 c0; clear hF hpre hl hR; go_simp; exact ⟨_, rfl, hgoal _ _ (Below.refl _ _) rfl⟩
      | 5, ho =>
        simp at ho; subst ho; refine step_plain rfl ?_; have e0 := hF.was 0 (by kernel_rfl) rfl; have hgoal := hR.go hst HQ2 5 rfl; clear hF hpre hl hR; go_simp; exact ⟨_, rfl, hgoal _ _ (Below.refl _ _) rfl⟩
      | 6, ho =>
        simp at ho; subst ho; refine step_plain rfl ?_; have e15 := hF.gv hR.2 HQ2 5 rfl (hpre ⟨5, .data⟩ (by simp) rfl) rfl; have hgoal := hR.go hst HQ2 6 rfl; clear hF hpre hl hR; go_simp; exact ⟨_, rfl, hgoal _ _ (Below.refl _ _) rfl⟩
      | 7, ho =>
        simp at ho; subst ho; refine step_plain rfl ?_; have e16 := hF.gv hR.2 HQ2 6 rfl (hpre ⟨6, .data⟩ (by simp) rfl) rfl; have hgoal := hR.go hst HQ2 7 rfl; clear hF hpre hl hR; go_simp; exact ⟨_, rfl, hgoal _ _ (Below.refl _ _) rfl⟩
      | 8, ho =>
        simp at ho; subst ho; refine step_plain rfl ?_; have e17 := hF.gv hR.2 HQ2 7 rfl (hpre ⟨7, .data⟩ (by simp) rfl) rfl; have hgoal := hR.go hst HQ2 8 rfl; clear hF hpre hl hR; go_simp; exact ⟨_, rfl, hgoal _ _ (Below.refl _ _) rfl⟩
      | 9, ho =>
        simp at ho; subst ho; refine step_plain rfl ?_; have e18 := hF.gv hR.2 HQ2 8 rfl (hpre ⟨8, .data⟩ (by simp) rfl) rfl; have hgoal := hR.go hst HQ2 9 rfl; have q0 := cell_keep hR.1 c5; clear hF hpre hl hR; go_simp; exact ⟨_, rfl, hgoal _ _ (Below.refl _ _) rfl⟩
      | 10, ho =>
        simp at ho; subst ho; refine step_plain rfl ?_; have e14 := hF.gv hR.2 HQ2 4 rfl (hpre ⟨4, .data⟩ (by simp) rfl) rfl; have e19 := hF.gv hR.2 HQ2 9 rfl (hpre ⟨9, .data⟩ (by simp) rfl) rfl; have hgoal := hR.go hst HQ2 10 rfl; clear hF hpre hl hR; go_simp; exact ⟨_, rfl, hgoal _ _ (Below.refl _ _) rfl⟩
      | 11, ho =>
        simp at ho; subst ho; refine step_plain rfl ?_; have e3 := hF.was 3 (by kernel_rfl) rfl; have hgoal := hR.go hst HQ2 11 rfl; clear hF hpre hl hR; go_simp; exact ⟨_, rfl, hgoal _ _ (Below.refl _ _) rfl⟩
      | 12, ho =>
        simp at ho; subst ho; refine step_plain rfl ?_; have e21 := hF.gv hR.2 HQ2 11 rfl (hpre ⟨11, .data⟩ (by simp) rfl) rfl; have hgoal := hR.go hst HQ2 12 rfl; have q0 := cell_keep hR.1 l1; clear hF hpre hl hR; go_simp; exact ⟨_, rfl, hgoal _ _ (Below.refl _ _) rfl⟩
      | 13, ho =>
        simp at ho; subst ho; refine step_plain rfl ?_; have e22 := hF.gv hR.2 HQ2 12 rfl (hpre ⟨12, .data⟩ (by simp) rfl) rfl
        have hgoal : ∀ v0' w0', Below x.heap.size x w0' → QI [n] v0' w0' → RQ Q2 w1 (upd val 13 v0') (L.setIfInBounds 13 true) w0' := fun v0' w0' hb hq => hR.step hst hb ((U213.out _ _).2 hq)
        have hM := Lib.hid hR.1
        clear hF hpre hl hR; go_simp; exact ⟨_, rfl, hgoal _ _ ((Below.refl _ _).alloc (Nat.le_refl _) _) ⟨_, _, rfl, Nat.le_refl _, (RI.new1 rfl).more (by simp)⟩⟩
      | 14, ho =>
        simp at ho; subst ho; refine step_plain rfl ?_; have e20 := hF.gv hR.2 HQ2 10 rfl (hpre ⟨10, .data⟩ (by simp) rfl) rfl; have e23 := hF.gave 13 rfl (hpre ⟨13, .data⟩ (by simp) rfl) rfl
        have v13 := (U213.out _ _).1 (hR.2 13 (hpre ⟨13, .data⟩ (by simp) rfl))
        have hgoal := hR.go hst HQ2 14 rfl
        have hM := Lib.hid hR.1
        clear hF hpre hl hR
        obtain ⟨A9, c9, h9, _, hr9⟩ := v13
        rw [h9] at e23
        go_simp
        refine ⟨trivial, ?_⟩
        refine CallsIn.mono (callsIn_wide.2 (within_any 1 (cable - len) _ 1 _ _ [n] _ rfl (le_maxLen (by omega)) hr9)) ?_
        rintro e w9 ⟨rfl, rfl⟩
        exact ⟨_, rfl, hgoal _ _ (Below.refl _ _) (by rw [G1.out])⟩
      | 15, ho =>
        simp at ho; subst ho; refine step_plain rfl ?_; have e24 := hF.gv hR.2 HQ2 14 rfl (hpre ⟨14, .data⟩ (by simp) rfl) rfl; have hgoal := hR.go hst HQ2 15 rfl; clear hF hpre hl hR; go_simp; exact ⟨_, rfl, hgoal _ _ (Below.refl _ _) rfl⟩
      | 16, ho =>
        simp at ho; subst ho; refine step_sk hF hR.2 HQ2 (j := 15) (b := true) rfl rfl (by kernel_rfl) (hpre ⟨15, .guard⟩ (by simp) rfl) rfl (by simp) ?_
        exact ⟨fun _ _ => trivial, hR.go hst HQ2 16 rfl _ _ (Below.refl _ _) rfl⟩
      | 17, ho =>
        simp at ho; subst ho; refine step_sk hF hR.2 HQ2 (j := 15) (b := true) rfl rfl (by kernel_rfl) (hpre ⟨15, .guard⟩ (by simp) rfl) rfl (by simp) ?_
        exact ⟨fun _ _ => trivial, hR.go hst HQ2 17 rfl _ _ (Below.refl _ _) rfl⟩
      | 18, ho =>
        simp at ho; subst ho; refine step_sk hF hR.2 HQ2 (j := 15) (b := true) rfl rfl (by kernel_rfl) (hpre ⟨15, .guard⟩ (by simp) rfl) rfl (by simp) ?_
        exact ⟨fun _ _ => trivial, hR.go hst HQ2 18 rfl _ _ (Below.refl _ _) rfl⟩
      | 19, ho =>
        simp at ho; subst ho; refine step_sk hF hR.2 HQ2 (j := 15) (b := true) rfl rfl (by kernel_rfl) (hpre ⟨15, .guard⟩ (by simp) rfl) rfl (by simp) ?_
        exact ⟨fun _ _ => trivial, hR.go hst HQ2 19 rfl _ _ (Below.refl _ _) rfl⟩
      | 20, ho =>
        simp at ho; subst ho; refine step_sk hF hR.2 HQ2 (j := 15) (b := true) rfl rfl (by kernel_rfl) (hpre ⟨15, .guard⟩ (by simp) rfl) rfl (by simp) ?_
        exact ⟨fun _ _ => trivial, hR.go hst HQ2 20 rfl _ _ (Below.refl _ _) rfl⟩
      | 21, ho =>
        simp at ho; subst ho; refine step_sk hF hR.2 HQ2 (j := 15) (b := true) rfl rfl (by kernel_rfl) (hpre ⟨15, .guard⟩ (by simp) rfl) rfl (by simp) ?_
        exact ⟨fun _ _ => trivial, hR.go hst HQ2 21 rfl _ _ (Below.refl _ _) rfl⟩
      | 22, ho =>
        simp at ho; subst ho; refine step_sk hF hR.2 HQ2 (j := 15) (b := true) rfl rfl (by kernel_rfl) (hpre ⟨15, .guard⟩ (by simp) rfl) rfl (by simp) ?_
        exact ⟨fun _ _ => trivial, hR.go hst HQ2 22 rfl _ _ (Below.refl _ _) rfl⟩
      | 23, ho =>
        simp at ho; subst ho; refine step_sk hF hR.2 HQ2 (j := 15) (b := true) rfl rfl (by kernel_rfl) (hpre ⟨15, .guard⟩ (by simp) rfl) rfl (by simp) ?_
        exact ⟨fun _ _ => trivial, hR.go hst HQ2 23 rfl _ _ (Below.refl _ _) rfl⟩
      | 24, ho =>
        simp at ho; subst ho; refine step_sk hF hR.2 HQ2 (j := 15) (b := true) rfl rfl (by kernel_rfl) (hpre ⟨15, .guard⟩ (by simp) rfl) rfl (by simp) ?_
        exact ⟨fun _ _ => trivial, hR.go hst HQ2 24 rfl _ _ (Below.refl _ _) rfl⟩
      | 25, ho =>
        simp at ho; subst ho; refine step_sk hF hR.2 HQ2 (j := 15) (b := true) rfl rfl (by kernel_rfl) (hpre ⟨15, .guard⟩ (by simp) rfl) rfl (by simp) ?_
        exact ⟨fun _ _ => trivial, hR.go hst HQ2 25 rfl _ _ (Below.refl _ _) rfl⟩
      | 26, ho =>
        simp at ho; subst ho; refine step_sk hF hR.2 HQ2 (j := 15) (b := true) rfl rfl (by kernel_rfl) (hpre ⟨15, .guard⟩ (by simp) rfl) rfl (by simp) ?_
        exact ⟨fun _ _ => trivial, hR.go hst HQ2 26 rfl _ _ (Below.refl _ _) rfl⟩
      | 27, ho =>
        simp at ho; subst ho; refine step_sk hF hR.2 HQ2 (j := 15) (b := true) rfl rfl (by kernel_rfl) (hpre ⟨15, .guard⟩ (by simp) rfl) rfl (by simp) ?_
        exact ⟨fun _ _ => trivial, hR.go hst HQ2 27 rfl _ _ (Below.refl _ _) rfl⟩
      | 28, ho =>
        simp at ho; subst ho; refine step_sk hF hR.2 HQ2 (j := 15) (b := true) rfl rfl (by kernel_rfl) (hpre ⟨15, .guard⟩ (by simp) rfl) rfl (by simp) ?_
        exact ⟨fun _ _ => trivial, hR.go hst HQ2 28 rfl _ _ (Below.refl _ _) rfl⟩
      | 29, ho =>
        simp at ho; subst ho; refine step_sk hF hR.2 HQ2 (j := 15) (b := true) rfl rfl (by kernel_rfl) (hpre ⟨15, .guard⟩ (by simp) rfl) rfl (by simp) ?_
        exact ⟨fun _ _ => trivial, hR.go hst HQ2 29 rfl _ _ (Below.refl _ _) rfl⟩
      | 30, ho =>
        simp at ho; subst ho; refine step_sk hF hR.2 HQ2 (j := 15) (b := true) rfl rfl (by kernel_rfl) (hpre ⟨15, .guard⟩ (by simp) rfl) rfl (by simp) ?_
        exact ⟨fun _ _ => trivial, hR.go hst HQ2 30 rfl _ _ (Below.refl _ _) rfl⟩
      | 31, ho =>
        simp at ho; subst ho; refine step_sk hF hR.2 HQ2 (j := 15) (b := true) rfl rfl (by kernel_rfl) (hpre ⟨15, .guard⟩ (by simp) rfl) rfl (by simp) ?_
        exact ⟨fun _ _ => trivial, hR.go hst HQ2 31 rfl _ _ (Below.refl _ _) rfl⟩
      | 32, ho =>
        simp at ho; subst ho; refine step_plain rfl ?_; have e25 := hF.gv hR.2 HQ2 15 rfl (hpre ⟨15, .data⟩ (by simp) rfl) rfl; have e41 := hF.gv hR.2 HQ2 31 rfl (hpre ⟨31, .data⟩ (by simp) rfl) rfl; have hgoal := hR.go hst HQ2 32 rfl; clear hF hpre hl hR; go_simp; exact ⟨_, rfl, hgoal _ _ (Below.refl _ _) rfl⟩
      | 33, ho =>
        simp at ho; subst ho; refine step_plain rfl ?_; have e42 := hF.gv hR.2 HQ2 32 rfl (hpre ⟨32, .data⟩ (by simp) rfl) rfl; have hgoal := hR.go hst HQ2 33 rfl; clear hF hpre hl hR; go_simp; exact ⟨_, rfl, hgoal _ _ (Below.refl _ _) rfl⟩
      | i + 34, ho => simp at ho
    case hend2 =>
      intro val L b' x hF hall hR
      have e := hF.all (by kernel_rfl) hall
      have k233 := QG.val HQ2 rfl (hR.2 33 (hall 33 (by decide)))
      have hB2 := Lib.hid hR.1
      clear hF hall hR hst HQ2 U213
      subst e
      simp [final, dstOf, List.range, List.range.loop]
      rw [k233]
      go_wp2
      go_ret
      exact ⟨rfl, HB1.out.trans (hB2.out.mono HB1.out.size)⟩

end
end Go.Proofs.Ytnnmmojlgikdgaa

/- The winch: what is possible. -/
namespace Go.Proofs.Ytnnmmojlgikdgaa
open Go.RowKit

section
variable (g : Nat) (cable charge y1 y2 len wt since cyc : Int) (cut tch : Bool) (k n : Int) (AX AY AV : Option Addr) (nx cx ny cy nv cv B : Nat) (X Y : List Int) (V : List (List Int)) (w : World)

set_option maxRecDepth 100000 in
set_option maxHeartbeats 8000000 in
theorem possible2 (ht : HT w B AX AY AV nx ny nv X Y V) (h : WN w g cable AX nx cx AY ny cy AV nv cv charge ⟨len, wt, since, cyc, cut, tch⟩ y1 y2) (_z0 : 0 ≤ len) (z1 : len ≤ cable) (z2 : cable ≤ 100) :
    Calls Try.prog 110 #[.pointer (some ⟨g, 0, none⟩), .agg #[.int .i64 2, .int .i64 n]] w fun e w' => e = .returned (.bool (posB (fun l u => carB X Y V l l y1 y2 u) cable charge ⟨len, wt, since, cyc, cut, tch⟩ 2 n)) ∧ Below w.heap.size w w' := by
  have HAL := Lib.hid alone_any
  have HCA := Lib.hid (fun (W : World) (hW : Below w.heap.size w W) (a : Int) (u : Int) => carries_any g cable charge y1 y2 a a u ⟨len, wt, since, cyc, cut, tch⟩ AX AY AV nx cx ny cy nv cv B X Y V W (ht.below hW) (h.stay hW))
  by_cases g1 : 1 ≤ n ∧ n ≤ len
  · have G1 := Lib.hid (show wB 1 (len) [n] = true by rw [wB_one]; simp [g1])
    rw [show posB (fun l u => carB X Y V l l y1 y2 u) cable charge ⟨len, wt, since, cyc, cut, tch⟩ 2 n = carB X Y V (len - n) (len - n) y1 y2 wt by unfold posB; simp [g1]]
    replace HCA := Lib.hid (fun W hW => HCA.out W hW (len - n) wt)
    generalize carB X Y V (len - n) (len - n) y1 y2 wt = cb at *
    have i2 : IntKind.i64.wrap (len - n) = len - n := IntWalk.i64_in _ (by omega)
    have hW1 : WN (w.alloc (.cells #[.int .i64 2, .int .i64 n] 82)) g cable AX nx cx AY ny cy AV nv cv charge ⟨len, wt, since, cyc, cut, tch⟩ y1 y2 := h.stay ((Below.refl _ _).alloc (Nat.le_refl _) _)
    have hB1 : Below w.heap.size w (w.alloc (.cells #[.int .i64 2, .int .i64 n] 82)) := (Below.refl _ _).alloc (Nat.le_refl _) _
    have l0 : (w.alloc (.cells #[.int .i64 2, .int .i64 n] 82)).cell? ⟨w.heap.size, 0, none⟩ = some (.int .i64 2) := by rw [cell_newest]; rfl
    have l1 : (w.alloc (.cells #[.int .i64 2, .int .i64 n] 82)).cell? ⟨w.heap.size, 1, none⟩ = some (.int .i64 n) := by rw [cell_newest]; rfl
    have c0 := cellOf (o := 0) hW1 rfl
    have c4 := cellOf (o := 4) hW1 rfl
    have c5 := cellOf (o := 5) hW1 rfl
    have c6 := cellOf (o := 6) hW1 rfl
    have c7 := cellOf (o := 7) hW1 rfl
    have c12 := cellOf (o := 12) hW1 rfl
    have hg := hW1.lt
    have HB1 := Lib.hid hB1
    clear hW1 hB1 h ht
    go_enter Try.func110, Try.ntmps110
    go_upto_region 5 with (fail)
    generalize w.alloc _ = w1 at *
    obtain ⟨Q3, hQ3⟩ : ∃ q9 : Nat → Value → World → Prop, q9 = QG [some (.pointer (some ⟨g, 0, none⟩)), some (.pointer (some ⟨g, 0, none⟩)), some (.pointer (some ⟨g, 5, none⟩)), some (.pointer (some ⟨g, 5, none⟩)), some (.int .i64 len), some (.pointer (some ⟨w.heap.size, 1, none⟩)), some (.int .i64 n), none, some (.bool true), some (.bool true), some (.pointer (some ⟨g, 0, none⟩)), some (.pointer (some ⟨g, 0, none⟩)), some (.pointer (some ⟨g, 0, none⟩)), some (.pointer (some ⟨g, 5, none⟩)), some (.pointer (some ⟨g, 5, none⟩)), some (.int .i64 len), some (.pointer (some ⟨w.heap.size, 1, none⟩)), some (.int .i64 n), some (.int .i64 (len - n)), some (.agg #[.int .i64 (len - n), .int .i64 (len - n)]), some (.pointer (some ⟨g, 0, none⟩)), some (.pointer (some ⟨g, 0, none⟩)), some (.pointer (some ⟨g, 5, none⟩)), some (.pointer (some ⟨g, 6, none⟩)), some (.int .i64 wt), some (.bool cb), some (.bool cb), some (.bool cb)] (fun j0' v0' w0' => (j0' = 7 → QI [n] v0' w0')) := ⟨_, rfl⟩
    have hst : Stays Q3 := by rw [hQ3]; exact QG.stays (fun j v W W' h hb => fun e => (h e).stay hb)
    have U37 := Lib.hid (show ∀ v0' w0', Q3 7 v0' w0' ↔ QI [n] v0' w0' from fun v0' w0' => by rw [hQ3]; exact ⟨fun h => h rfl, fun h => fun _ => h⟩)
    have HQ3 := Lib.hid hQ3
    clear hQ3
    refine wpIn_wide.1 (region_inv2 (n := 9) (by kernel_rfl) (RQ Q3 w1) (by kernel_rfl) rfl (RQ.start _ _ _) ?hstep3 ?hend3)
    case hstep3 =>
      intro i' o ho val L b' x hF hR hpre hl
      match i', ho with
      | 0, ho =>
        simp at ho; subst ho; refine step_plain rfl ?_; have e0 := hF.was 0 (by kernel_rfl) rfl; have hgoal := hR.go hst HQ3 0 rfl; clear hF hpre hl hR; go_simp; exact ⟨_, rfl, hgoal _ _ (Below.refl _ _) rfl⟩
      | 1, ho =>
        simp at ho; subst ho; refine step_plain rfl ?_; have e45 := hF.gv hR.2 HQ3 0 rfl (hpre ⟨0, .data⟩ (by simp) rfl) rfl; have hgoal := hR.go hst HQ3 1 rfl; clear hF hpre hl hR; go_simp; exact ⟨_, rfl, hgoal _ _ (Below.refl _ _) rfl⟩
      | 2, ho =>
        simp at ho; subst ho; refine step_plain rfl ?_; have e46 := hF.gv hR.2 HQ3 1 rfl (hpre ⟨1, .data⟩ (by simp) rfl) rfl; have hgoal := hR.go hst HQ3 2 rfl; clear hF hpre hl hR; go_simp; exact ⟨_, rfl, hgoal _ _ (Below.refl _ _) rfl⟩
      | 3, ho =>
        simp at ho; subst ho; refine step_plain rfl ?_; have e47 := hF.gv hR.2 HQ3 2 rfl (hpre ⟨2, .data⟩ (by simp) rfl) rfl; have hgoal := hR.go hst HQ3 3 rfl; clear hF hpre hl hR; go_simp; exact ⟨_, rfl, hgoal _ _ (Below.refl _ _) rfl⟩
      | 4, ho =>
        simp at ho; subst ho; refine step_plain rfl ?_; have e48 := hF.gv hR.2 HQ3 3 rfl (hpre ⟨3, .data⟩ (by simp) rfl) rfl; have hgoal := hR.go hst HQ3 4 rfl; have q0 := cell_keep hR.1 c5; clear hF hpre hl hR; go_simp; exact ⟨_, rfl, hgoal _ _ (Below.refl _ _) rfl⟩
      | 5, ho =>
        simp at ho; subst ho; refine step_plain rfl ?_; have e3 := hF.was 3 (by kernel_rfl) rfl; have hgoal := hR.go hst HQ3 5 rfl; clear hF hpre hl hR; go_simp; exact ⟨_, rfl, hgoal _ _ (Below.refl _ _) rfl⟩
      | 6, ho =>
        simp at ho; subst ho; refine step_plain rfl ?_; have e50 := hF.gv hR.2 HQ3 5 rfl (hpre ⟨5, .data⟩ (by simp) rfl) rfl; have hgoal := hR.go hst HQ3 6 rfl; have q0 := cell_keep hR.1 l1; clear hF hpre hl hR; go_simp; exact ⟨_, rfl, hgoal _ _ (Below.refl _ _) rfl⟩
      | 7, ho =>
        simp at ho; subst ho; refine step_plain rfl ?_; have e51 := hF.gv hR.2 HQ3 6 rfl (hpre ⟨6, .data⟩ (by simp) rfl) rfl
        have hgoal : ∀ v0' w0', Below x.heap.size x w0' → QI [n] v0' w0' → RQ Q3 w1 (upd val 7 v0') (L.setIfInBounds 7 true) w0' := fun v0' w0' hb hq => hR.step hst hb ((U37.out _ _).2 hq)
        have hM := Lib.hid hR.1
        clear hF hpre hl hR; go_simp; exact ⟨_, rfl, hgoal _ _ ((Below.refl _ _).alloc (Nat.le_refl _) _) ⟨_, _, rfl, Nat.le_refl _, (RI.new1 rfl).more (by simp)⟩⟩
      | 8, ho =>
        simp at ho; subst ho; refine step_plain rfl ?_; have e49 := hF.gv hR.2 HQ3 4 rfl (hpre ⟨4, .data⟩ (by simp) rfl) rfl; have e52 := hF.gave 7 rfl (hpre ⟨7, .data⟩ (by simp) rfl) rfl
        have v7 := (U37.out _ _).1 (hR.2 7 (hpre ⟨7, .data⟩ (by simp) rfl))
        have hgoal := hR.go hst HQ3 8 rfl
        have hM := Lib.hid hR.1
        clear hF hpre hl hR
        obtain ⟨A9, c9, h9, _, hr9⟩ := v7
        rw [h9] at e52
        go_simp
        refine ⟨trivial, ?_⟩
        refine CallsIn.mono (callsIn_wide.2 (within_any 1 (len) _ 1 _ _ [n] _ rfl (le_maxLen (by omega)) hr9)) ?_
        rintro e w9 ⟨rfl, rfl⟩
        exact ⟨_, rfl, hgoal _ _ (Below.refl _ _) (by rw [G1.out])⟩
      | 9, ho =>
        simp at ho; subst ho; refine step_plain rfl ?_; have e53 := hF.gv hR.2 HQ3 8 rfl (hpre ⟨8, .data⟩ (by simp) rfl) rfl; have hgoal := hR.go hst HQ3 9 rfl; clear hF hpre hl hR; go_simp; exact ⟨_, rfl, hgoal _ _ (Below.refl _ _) rfl⟩
      | 10, ho =>
        simp at ho; subst ho; refine step_gd hF hR.2 HQ3 (j := 9) (b := true) rfl rfl (by kernel_rfl) (hpre ⟨9, .guard⟩ (by simp) rfl) rfl ?_; have e0 := hF.was 0 (by kernel_rfl) rfl; have hgoal := hR.go hst HQ3 10 rfl; clear hF hpre hl hR; go_simp; exact ⟨_, rfl, hgoal _ _ (Below.refl _ _) rfl⟩
      | 11, ho =>
        simp at ho; subst ho; refine step_gd hF hR.2 HQ3 (j := 9) (b := true) rfl rfl (by kernel_rfl) (hpre ⟨9, .guard⟩ (by simp) rfl) rfl ?_; have e0 := hF.was 0 (by kernel_rfl) rfl; have hgoal := hR.go hst HQ3 11 rfl; clear hF hpre hl hR; go_simp; exact ⟨_, rfl, hgoal _ _ (Below.refl _ _) rfl⟩
      | 12, ho =>
        simp at ho; subst ho; refine step_gd hF hR.2 HQ3 (j := 9) (b := true) rfl rfl (by kernel_rfl) (hpre ⟨9, .guard⟩ (by simp) rfl) rfl ?_; have e56 := hF.gv hR.2 HQ3 11 rfl (hpre ⟨11, .data⟩ (by simp) rfl) rfl; have hgoal := hR.go hst HQ3 12 rfl; clear hF hpre hl hR; go_simp; exact ⟨_, rfl, hgoal _ _ (Below.refl _ _) rfl⟩
      | 13, ho =>
        simp at ho; subst ho; refine step_gd hF hR.2 HQ3 (j := 9) (b := true) rfl rfl (by kernel_rfl) (hpre ⟨9, .guard⟩ (by simp) rfl) rfl ?_; have e57 := hF.gv hR.2 HQ3 12 rfl (hpre ⟨12, .data⟩ (by simp) rfl) rfl; have hgoal := hR.go hst HQ3 13 rfl; clear hF hpre hl hR; go_simp; exact ⟨_, rfl, hgoal _ _ (Below.refl _ _) rfl⟩
      | 14, ho =>
        simp at ho; subst ho; refine step_gd hF hR.2 HQ3 (j := 9) (b := true) rfl rfl (by kernel_rfl) (hpre ⟨9, .guard⟩ (by simp) rfl) rfl ?_; have e58 := hF.gv hR.2 HQ3 13 rfl (hpre ⟨13, .data⟩ (by simp) rfl) rfl; have hgoal := hR.go hst HQ3 14 rfl; clear hF hpre hl hR; go_simp; exact ⟨_, rfl, hgoal _ _ (Below.refl _ _) rfl⟩
      | 15, ho =>
        simp at ho; subst ho; refine step_gd hF hR.2 HQ3 (j := 9) (b := true) rfl rfl (by kernel_rfl) (hpre ⟨9, .guard⟩ (by simp) rfl) rfl ?_; have e59 := hF.gv hR.2 HQ3 14 rfl (hpre ⟨14, .data⟩ (by simp) rfl) rfl; have hgoal := hR.go hst HQ3 15 rfl; have q0 := cell_keep hR.1 c5; clear hF hpre hl hR; go_simp; exact ⟨_, rfl, hgoal _ _ (Below.refl _ _) rfl⟩
      | 16, ho =>
        simp at ho; subst ho; refine step_gd hF hR.2 HQ3 (j := 9) (b := true) rfl rfl (by kernel_rfl) (hpre ⟨9, .guard⟩ (by simp) rfl) rfl ?_; have e3 := hF.was 3 (by kernel_rfl) rfl; have hgoal := hR.go hst HQ3 16 rfl; clear hF hpre hl hR; go_simp; exact ⟨_, rfl, hgoal _ _ (Below.refl _ _) rfl⟩
      | 17, ho =>
        simp at ho; subst ho; refine step_gd hF hR.2 HQ3 (j := 9) (b := true) rfl rfl (by kernel_rfl) (hpre ⟨9, .guard⟩ (by simp) rfl) rfl ?_; have e61 := hF.gv hR.2 HQ3 16 rfl (hpre ⟨16, .data⟩ (by simp) rfl) rfl; have hgoal := hR.go hst HQ3 17 rfl; have q0 := cell_keep hR.1 l1; clear hF hpre hl hR; go_simp; exact ⟨_, rfl, hgoal _ _ (Below.refl _ _) rfl⟩
      | 18, ho =>
        simp at ho; subst ho; refine step_gd hF hR.2 HQ3 (j := 9) (b := true) rfl rfl (by kernel_rfl) (hpre ⟨9, .guard⟩ (by simp) rfl) rfl ?_; have e60 := hF.gv hR.2 HQ3 15 rfl (hpre ⟨15, .data⟩ (by simp) rfl) rfl; have e62 := hF.gv hR.2 HQ3 17 rfl (hpre ⟨17, .data⟩ (by simp) rfl) rfl; have hgoal := hR.go hst HQ3 18 rfl; clear hF hpre hl hR; go_simp; exact ⟨_, rfl, hgoal _ _ (Below.refl _ _) rfl⟩
      | 19, ho =>
        simp at ho; subst ho; refine step_gd hF hR.2 HQ3 (j := 9) (b := true) rfl rfl (by kernel_rfl) (hpre ⟨9, .guard⟩ (by simp) rfl) rfl ?_; have e63 := hF.gv hR.2 HQ3 18 rfl (hpre ⟨18, .data⟩ (by simp) rfl) rfl; have hgoal := hR.go hst HQ3 19 rfl
        have hM := Lib.hid hR.1
        clear hF hpre hl hR; go_simp
        refine ⟨trivial, ?_⟩
        refine CallsIn.mono (callsIn_wide.2 (HAL.out _ _)) ?_
        rintro e w9 ⟨rfl, hb9⟩
        exact ⟨_, rfl, hgoal _ _ hb9 rfl⟩
      | 20, ho =>
        simp at ho; subst ho; refine step_gd hF hR.2 HQ3 (j := 9) (b := true) rfl rfl (by kernel_rfl) (hpre ⟨9, .guard⟩ (by simp) rfl) rfl ?_; have e0 := hF.was 0 (by kernel_rfl) rfl; have hgoal := hR.go hst HQ3 20 rfl; clear hF hpre hl hR; go_simp; exact ⟨_, rfl, hgoal _ _ (Below.refl _ _) rfl⟩
      | 21, ho =>
        simp at ho; subst ho; refine step_gd hF hR.2 HQ3 (j := 9) (b := true) rfl rfl (by kernel_rfl) (hpre ⟨9, .guard⟩ (by simp) rfl) rfl ?_; have e65 := hF.gv hR.2 HQ3 20 rfl (hpre ⟨20, .data⟩ (by simp) rfl) rfl; have hgoal := hR.go hst HQ3 21 rfl; clear hF hpre hl hR; go_simp; exact ⟨_, rfl, hgoal _ _ (Below.refl _ _) rfl⟩
      | 22, ho =>
        simp at ho; subst ho; refine step_gd hF hR.2 HQ3 (j := 9) (b := true) rfl rfl (by kernel_rfl) (hpre ⟨9, .guard⟩ (by simp) rfl) rfl ?_; have e66 := hF.gv hR.2 HQ3 21 rfl (hpre ⟨21, .data⟩ (by simp) rfl) rfl; have hgoal := hR.go hst HQ3 22 rfl; clear hF hpre hl hR; go_simp; exact ⟨_, rfl, hgoal _ _ (Below.refl _ _) rfl⟩
      | 23, ho =>
        simp at ho; subst ho; refine step_gd hF hR.2 HQ3 (j := 9) (b := true) rfl rfl (by kernel_rfl) (hpre ⟨9, .guard⟩ (by simp) rfl) rfl ?_; have e67 := hF.gv hR.2 HQ3 22 rfl (hpre ⟨22, .data⟩ (by simp) rfl) rfl; have hgoal := hR.go hst HQ3 23 rfl; clear hF hpre hl hR; go_simp; exact ⟨_, rfl, hgoal _ _ (Below.refl _ _) rfl⟩
      | 24, ho =>
        simp at ho; subst ho; refine step_gd hF hR.2 HQ3 (j := 9) (b := true) rfl rfl (by kernel_rfl) (hpre ⟨9, .guard⟩ (by simp) rfl) rfl ?_; have e68 := hF.gv hR.2 HQ3 23 rfl (hpre ⟨23, .data⟩ (by simp) rfl) rfl; have hgoal := hR.go hst HQ3 24 rfl; have q0 := cell_keep hR.1 c6; clear hF hpre hl hR; go_simp; exact ⟨_, rfl, hgoal _ _ (Below.refl _ _) rfl⟩
      | 25, ho =>
        simp at ho; subst ho; refine step_gd hF hR.2 HQ3 (j := 9) (b := true) rfl rfl (by kernel_rfl) (hpre ⟨9, .guard⟩ (by simp) rfl) rfl ?_; have e55 := hF.gv hR.2 HQ3 10 rfl (hpre ⟨10, .data⟩ (by simp) rfl) rfl; have e64 := hF.gv hR.2 HQ3 19 rfl (hpre ⟨19, .data⟩ (by simp) rfl) rfl; have e69 := hF.gv hR.2 HQ3 24 rfl (hpre ⟨24, .data⟩ (by simp) rfl) rfl; have hgoal := hR.go hst HQ3 25 rfl
        have hM := Lib.hid hR.1
        clear hF hpre hl hR; go_simp
        refine ⟨trivial, ?_⟩
        refine CallsIn.mono (callsIn_wide.2 (HCA.out _ (HB1.out.trans (hM.out.mono HB1.out.size)))) ?_
        rintro e w9 ⟨rfl, hb9⟩
        exact ⟨_, rfl, hgoal _ _ hb9 rfl⟩
      | 26, ho =>
        simp at ho; subst ho; refine step_plain rfl ?_; have e54 := hF.gv hR.2 HQ3 9 rfl (hpre ⟨9, .data⟩ (by simp) rfl) rfl; have e70 := hF.gv hR.2 HQ3 25 rfl (hpre ⟨25, .data⟩ (by simp) rfl) rfl; have hgoal := hR.go hst HQ3 26 rfl; clear hF hpre hl hR; go_simp; exact ⟨_, rfl, hgoal _ _ (Below.refl _ _) rfl⟩
      | 27, ho =>
        simp at ho; subst ho; refine step_plain rfl ?_; have e71 := hF.gv hR.2 HQ3 26 rfl (hpre ⟨26, .data⟩ (by simp) rfl) rfl; have hgoal := hR.go hst HQ3 27 rfl; clear hF hpre hl hR; go_simp; exact ⟨_, rfl, hgoal _ _ (Below.refl _ _) rfl⟩
      | i + 28, ho => simp at ho
    case hend3 =>
      intro val L b' x hF hall hR
      have e := hF.all (by kernel_rfl) hall
      have k327 := QG.val HQ3 rfl (hR.2 27 (hall 27 (by decide)))
      have hB3 := Lib.hid hR.1
      clear hF hall hR hst HQ3 U37
      subst e
      simp [final, dstOf, List.range, List.range.loop]
      rw [k327]
      go_wp2
      go_ret
      exact ⟨rfl, HB1.out.trans (hB3.out.mono HB1.out.size)⟩
  · have G1 := Lib.hid (show wB 1 (len) [n] = false by rw [wB_one]; simpa using g1)
    rw [show posB (fun l u => carB X Y V l l y1 y2 u) cable charge ⟨len, wt, since, cyc, cut, tch⟩ 2 n = false by unfold posB; simp; intro a b; omega]
    clear g1
    have hW1 : WN (w.alloc (.cells #[.int .i64 2, .int .i64 n] 82)) g cable AX nx cx AY ny cy AV nv cv charge ⟨len, wt, since, cyc, cut, tch⟩ y1 y2 := h.stay ((Below.refl _ _).alloc (Nat.le_refl _) _)
    have hB1 : Below w.heap.size w (w.alloc (.cells #[.int .i64 2, .int .i64 n] 82)) := (Below.refl _ _).alloc (Nat.le_refl _) _
    have l0 : (w.alloc (.cells #[.int .i64 2, .int .i64 n] 82)).cell? ⟨w.heap.size, 0, none⟩ = some (.int .i64 2) := by rw [cell_newest]; rfl
    have l1 : (w.alloc (.cells #[.int .i64 2, .int .i64 n] 82)).cell? ⟨w.heap.size, 1, none⟩ = some (.int .i64 n) := by rw [cell_newest]; rfl
    have c0 := cellOf (o := 0) hW1 rfl
    have c4 := cellOf (o := 4) hW1 rfl
    have c5 := cellOf (o := 5) hW1 rfl
    have c6 := cellOf (o := 6) hW1 rfl
    have c7 := cellOf (o := 7) hW1 rfl
    have c12 := cellOf (o := 12) hW1 rfl
    have hg := hW1.lt
    have HB1 := Lib.hid hB1
    clear hW1 hB1 h ht
    go_enter Try.func110, Try.ntmps110
    go_upto_region 5 with (fail)
    generalize w.alloc _ = w1 at *
    obtain ⟨Q4, hQ4⟩ : ∃ q9 : Nat → Value → World → Prop, q9 = QG [some (.pointer (some ⟨g, 0, none⟩)), some (.pointer (some ⟨g, 0, none⟩)), some (.pointer (some ⟨g, 5, none⟩)), some (.pointer (some ⟨g, 5, none⟩)), some (.int .i64 len), some (.pointer (some ⟨w.heap.size, 1, none⟩)), some (.int .i64 n), none, some (.bool false), some (.bool false), some (undef), some (undef), some (undef), some (undef), some (undef), some (undef), some (undef), some (undef), some (undef), some (undef), some (undef), some (undef), some (undef), some (undef), some (undef), some (undef), some (.bool false), some (.bool false)] (fun j0' v0' w0' => (j0' = 7 → QI [n] v0' w0')) := ⟨_, rfl⟩
    have hst : Stays Q4 := by rw [hQ4]; exact QG.stays (fun j v W W' h hb => fun e => (h e).stay hb)
    have U47 := Lib.hid (show ∀ v0' w0', Q4 7 v0' w0' ↔ QI [n] v0' w0' from fun v0' w0' => by rw [hQ4]; exact ⟨fun h => h rfl, fun h => fun _ => h⟩)
    have HQ4 := Lib.hid hQ4
    clear hQ4
    refine wpIn_wide.1 (region_inv2 (n := 9) (by kernel_rfl) (RQ Q4 w1) (by kernel_rfl) rfl (RQ.start _ _ _) ?hstep4 ?hend4)
    case hstep4 =>
      intro i' o ho val L b' x hF hR hpre hl
      match i', ho with
      | 0, ho =>
        simp at ho; subst ho; refine step_plain rfl ?_; have e0 := hF.was 0 (by kernel_rfl) rfl; have hgoal := hR.go hst HQ4 0 rfl; clear hF hpre hl hR; go_simp; exact ⟨_, rfl, hgoal _ _ (Below.refl _ _) rfl⟩
      | 1, ho =>
        simp at ho; subst ho; refine step_plain rfl ?_; have e45 := hF.gv hR.2 HQ4 0 rfl (hpre ⟨0, .data⟩ (by simp) rfl) rfl; have hgoal := hR.go hst HQ4 1 rfl; clear hF hpre hl hR; go_simp; exact ⟨_, rfl, hgoal _ _ (Below.refl _ _) rfl⟩
      | 2, ho =>
        simp at ho; subst ho; refine step_plain rfl ?_; have e46 := hF.gv hR.2 HQ4 1 rfl (hpre ⟨1, .data⟩ (by simp) rfl) rfl; have hgoal := hR.go hst HQ4 2 rfl; clear hF hpre hl hR; go_simp; exact ⟨_, rfl, hgoal _ _ (Below.refl _ _) rfl⟩
      | 3, ho =>
        simp at ho; subst ho; refine step_plain rfl ?_; have e47 := hF.gv hR.2 HQ4 2 rfl (hpre ⟨2, .data⟩ (by simp) rfl) rfl; have hgoal := hR.go hst HQ4 3 rfl; clear hF hpre hl hR; go_simp; exact ⟨_, rfl, hgoal _ _ (Below.refl _ _) rfl⟩
      | 4, ho =>
        simp at ho; subst ho; refine step_plain rfl ?_; have e48 := hF.gv hR.2 HQ4 3 rfl (hpre ⟨3, .data⟩ (by simp) rfl) rfl; have hgoal := hR.go hst HQ4 4 rfl; have q0 := cell_keep hR.1 c5; clear hF hpre hl hR; go_simp; exact ⟨_, rfl, hgoal _ _ (Below.refl _ _) rfl⟩
      | 5, ho =>
        simp at ho; subst ho; refine step_plain rfl ?_; have e3 := hF.was 3 (by kernel_rfl) rfl; have hgoal := hR.go hst HQ4 5 rfl; clear hF hpre hl hR; go_simp; exact ⟨_, rfl, hgoal _ _ (Below.refl _ _) rfl⟩
      | 6, ho =>
        simp at ho; subst ho; refine step_plain rfl ?_; have e50 := hF.gv hR.2 HQ4 5 rfl (hpre ⟨5, .data⟩ (by simp) rfl) rfl; have hgoal := hR.go hst HQ4 6 rfl; have q0 := cell_keep hR.1 l1; clear hF hpre hl hR; go_simp; exact ⟨_, rfl, hgoal _ _ (Below.refl _ _) rfl⟩
      | 7, ho =>
        simp at ho; subst ho; refine step_plain rfl ?_; have e51 := hF.gv hR.2 HQ4 6 rfl (hpre ⟨6, .data⟩ (by simp) rfl) rfl
        have hgoal : ∀ v0' w0', Below x.heap.size x w0' → QI [n] v0' w0' → RQ Q4 w1 (upd val 7 v0') (L.setIfInBounds 7 true) w0' := fun v0' w0' hb hq => hR.step hst hb ((U47.out _ _).2 hq)
        have hM := Lib.hid hR.1
        clear hF hpre hl hR; go_simp; exact ⟨_, rfl, hgoal _ _ ((Below.refl _ _).alloc (Nat.le_refl _) _) ⟨_, _, rfl, Nat.le_refl _, (RI.new1 rfl).more (by simp)⟩⟩
      | 8, ho =>
        simp at ho; subst ho; refine step_plain rfl ?_; have e49 := hF.gv hR.2 HQ4 4 rfl (hpre ⟨4, .data⟩ (by simp) rfl) rfl; have e52 := hF.gave 7 rfl (hpre ⟨7, .data⟩ (by simp) rfl) rfl
        have v7 := (U47.out _ _).1 (hR.2 7 (hpre ⟨7, .data⟩ (by simp) rfl))
        have hgoal := hR.go hst HQ4 8 rfl
        have hM := Lib.hid hR.1
        clear hF hpre hl hR
        obtain ⟨A9, c9, h9, _, hr9⟩ := v7
        rw [h9] at e52
        go_simp
        refine ⟨trivial, ?_⟩
        refine CallsIn.mono (callsIn_wide.2 (within_any 1 (len) _ 1 _ _ [n] _ rfl (le_maxLen (by omega)) hr9)) ?_
        rintro e w9 ⟨rfl, rfl⟩
        exact ⟨_, rfl, hgoal _ _ (Below.refl _ _) (by rw [G1.out])⟩
      | 9, ho =>
        simp at ho; subst ho; refine step_plain rfl ?_; have e53 := hF.gv hR.2 HQ4 8 rfl (hpre ⟨8, .data⟩ (by simp) rfl) rfl; have hgoal := hR.go hst HQ4 9 rfl; clear hF hpre hl hR; go_simp; exact ⟨_, rfl, hgoal _ _ (Below.refl _ _) rfl⟩
      | 10, ho =>
        simp at ho; subst ho; refine step_sk hF hR.2 HQ4 (j := 9) (b := true) rfl rfl (by kernel_rfl) (hpre ⟨9, .guard⟩ (by simp) rfl) rfl (by simp) ?_
        exact ⟨fun _ _ => trivial, hR.go hst HQ4 10 rfl _ _ (Below.refl _ _) rfl⟩
      | 11, ho =>
        simp at ho; subst ho; refine step_sk hF hR.2 HQ4 (j := 9) (b := true) rfl rfl (by kernel_rfl) (hpre ⟨9, .guard⟩ (by simp) rfl) rfl (by simp) ?_
        exact ⟨fun _ _ => trivial, hR.go hst HQ4 11 rfl _ _ (Below.refl _ _) rfl⟩
      | 12, ho =>
        simp at ho; subst ho; refine step_sk hF hR.2 HQ4 (j := 9) (b := true) rfl rfl (by kernel_rfl) (hpre ⟨9, .guard⟩ (by simp) rfl) rfl (by simp) ?_
        exact ⟨fun _ _ => trivial, hR.go hst HQ4 12 rfl _ _ (Below.refl _ _) rfl⟩
      | 13, ho =>
        simp at ho; subst ho; refine step_sk hF hR.2 HQ4 (j := 9) (b := true) rfl rfl (by kernel_rfl) (hpre ⟨9, .guard⟩ (by simp) rfl) rfl (by simp) ?_
        exact ⟨fun _ _ => trivial, hR.go hst HQ4 13 rfl _ _ (Below.refl _ _) rfl⟩
      | 14, ho =>
        simp at ho; subst ho; refine step_sk hF hR.2 HQ4 (j := 9) (b := true) rfl rfl (by kernel_rfl) (hpre ⟨9, .guard⟩ (by simp) rfl) rfl (by simp) ?_
        exact ⟨fun _ _ => trivial, hR.go hst HQ4 14 rfl _ _ (Below.refl _ _) rfl⟩
      | 15, ho =>
        simp at ho; subst ho; refine step_sk hF hR.2 HQ4 (j := 9) (b := true) rfl rfl (by kernel_rfl) (hpre ⟨9, .guard⟩ (by simp) rfl) rfl (by simp) ?_
        exact ⟨fun _ _ => trivial, hR.go hst HQ4 15 rfl _ _ (Below.refl _ _) rfl⟩
      | 16, ho =>
        simp at ho; subst ho; refine step_sk hF hR.2 HQ4 (j := 9) (b := true) rfl rfl (by kernel_rfl) (hpre ⟨9, .guard⟩ (by simp) rfl) rfl (by simp) ?_
        exact ⟨fun _ _ => trivial, hR.go hst HQ4 16 rfl _ _ (Below.refl _ _) rfl⟩
      | 17, ho =>
        simp at ho; subst ho; refine step_sk hF hR.2 HQ4 (j := 9) (b := true) rfl rfl (by kernel_rfl) (hpre ⟨9, .guard⟩ (by simp) rfl) rfl (by simp) ?_
        exact ⟨fun _ _ => trivial, hR.go hst HQ4 17 rfl _ _ (Below.refl _ _) rfl⟩
      | 18, ho =>
        simp at ho; subst ho; refine step_sk hF hR.2 HQ4 (j := 9) (b := true) rfl rfl (by kernel_rfl) (hpre ⟨9, .guard⟩ (by simp) rfl) rfl (by simp) ?_
        exact ⟨fun _ _ => trivial, hR.go hst HQ4 18 rfl _ _ (Below.refl _ _) rfl⟩
      | 19, ho =>
        simp at ho; subst ho; refine step_sk hF hR.2 HQ4 (j := 9) (b := true) rfl rfl (by kernel_rfl) (hpre ⟨9, .guard⟩ (by simp) rfl) rfl (by simp) ?_
        exact ⟨fun _ _ => trivial, hR.go hst HQ4 19 rfl _ _ (Below.refl _ _) rfl⟩
      | 20, ho =>
        simp at ho; subst ho; refine step_sk hF hR.2 HQ4 (j := 9) (b := true) rfl rfl (by kernel_rfl) (hpre ⟨9, .guard⟩ (by simp) rfl) rfl (by simp) ?_
        exact ⟨fun _ _ => trivial, hR.go hst HQ4 20 rfl _ _ (Below.refl _ _) rfl⟩
      | 21, ho =>
        simp at ho; subst ho; refine step_sk hF hR.2 HQ4 (j := 9) (b := true) rfl rfl (by kernel_rfl) (hpre ⟨9, .guard⟩ (by simp) rfl) rfl (by simp) ?_
        exact ⟨fun _ _ => trivial, hR.go hst HQ4 21 rfl _ _ (Below.refl _ _) rfl⟩
      | 22, ho =>
        simp at ho; subst ho; refine step_sk hF hR.2 HQ4 (j := 9) (b := true) rfl rfl (by kernel_rfl) (hpre ⟨9, .guard⟩ (by simp) rfl) rfl (by simp) ?_
        exact ⟨fun _ _ => trivial, hR.go hst HQ4 22 rfl _ _ (Below.refl _ _) rfl⟩
      | 23, ho =>
        simp at ho; subst ho; refine step_sk hF hR.2 HQ4 (j := 9) (b := true) rfl rfl (by kernel_rfl) (hpre ⟨9, .guard⟩ (by simp) rfl) rfl (by simp) ?_
        exact ⟨fun _ _ => trivial, hR.go hst HQ4 23 rfl _ _ (Below.refl _ _) rfl⟩
      | 24, ho =>
        simp at ho; subst ho; refine step_sk hF hR.2 HQ4 (j := 9) (b := true) rfl rfl (by kernel_rfl) (hpre ⟨9, .guard⟩ (by simp) rfl) rfl (by simp) ?_
        exact ⟨fun _ _ => trivial, hR.go hst HQ4 24 rfl _ _ (Below.refl _ _) rfl⟩
      | 25, ho =>
        simp at ho; subst ho; refine step_sk hF hR.2 HQ4 (j := 9) (b := true) rfl rfl (by kernel_rfl) (hpre ⟨9, .guard⟩ (by simp) rfl) rfl (by simp) ?_
        exact ⟨fun _ _ => trivial, hR.go hst HQ4 25 rfl _ _ (Below.refl _ _) rfl⟩
      | 26, ho =>
        simp at ho; subst ho; refine step_plain rfl ?_; have e54 := hF.gv hR.2 HQ4 9 rfl (hpre ⟨9, .data⟩ (by simp) rfl) rfl; have e70 := hF.gv hR.2 HQ4 25 rfl (hpre ⟨25, .data⟩ (by simp) rfl) rfl; have hgoal := hR.go hst HQ4 26 rfl; clear hF hpre hl hR; go_simp; exact ⟨_, rfl, hgoal _ _ (Below.refl _ _) rfl⟩
      | 27, ho =>
        simp at ho; subst ho; refine step_plain rfl ?_; have e71 := hF.gv hR.2 HQ4 26 rfl (hpre ⟨26, .data⟩ (by simp) rfl) rfl; have hgoal := hR.go hst HQ4 27 rfl; clear hF hpre hl hR; go_simp; exact ⟨_, rfl, hgoal _ _ (Below.refl _ _) rfl⟩
      | i + 28, ho => simp at ho
    case hend4 =>
      intro val L b' x hF hall hR
      have e := hF.all (by kernel_rfl) hall
      have k427 := QG.val HQ4 rfl (hR.2 27 (hall 27 (by decide)))
      have hB4 := Lib.hid hR.1
      clear hF hall hR hst HQ4 U47
      subst e
      simp [final, dstOf, List.range, List.range.loop]
      rw [k427]
      go_wp2
      go_ret
      exact ⟨rfl, HB1.out.trans (hB4.out.mono HB1.out.size)⟩

end
end Go.Proofs.Ytnnmmojlgikdgaa

/- The winch: what is possible. -/
namespace Go.Proofs.Ytnnmmojlgikdgaa
open Go.RowKit

section
variable (g : Nat) (cable charge y1 y2 len wt since cyc : Int) (cut tch : Bool) (k n : Int) (AX AY AV : Option Addr) (nx cx ny cy nv cv B : Nat) (X Y : List Int) (V : List (List Int)) (w : World)

set_option maxRecDepth 100000 in
set_option maxHeartbeats 8000000 in
theorem possible3 (ht : HT w B AX AY AV nx ny nv X Y V) (h : WN w g cable AX nx cx AY ny cy AV nv cv charge ⟨len, wt, since, cyc, cut, tch⟩ y1 y2) (_z0 : 0 ≤ len) (_z1 : len ≤ cable) (_z2 : cable ≤ 100) :
    Calls Try.prog 110 #[.pointer (some ⟨g, 0, none⟩), .agg #[.int .i64 3, .int .i64 n]] w fun e w' => e = .returned (.bool (posB (fun l u => carB X Y V l l y1 y2 u) cable charge ⟨len, wt, since, cyc, cut, tch⟩ 3 n)) ∧ Below w.heap.size w w' := by
  have HAL := Lib.hid alone_any
  have HCA := Lib.hid (fun (W : World) (hW : Below w.heap.size w W) (a : Int) (u : Int) => carries_any g cable charge y1 y2 a a u ⟨len, wt, since, cyc, cut, tch⟩ AX AY AV nx cx ny cy nv cv B X Y V W (ht.below hW) (h.stay hW))
  rw [show posB (fun l u => carB X Y V l l y1 y2 u) cable charge ⟨len, wt, since, cyc, cut, tch⟩ 3 n = (decide (n = 0) && decide (0 < len)) by unfold posB; simp]
  clear HCA HAL
  have c5 := cellOf (o := 5) h rfl
  have c6 := cellOf (o := 6) h rfl
  have hg := h.lt
  clear h ht
  by_cases e0 : n = 0
  · subst e0
    go_enter Try.func110, Try.ntmps110
    go_wp2
    go_ret
    exact ⟨ret_bool (by simp), by go_grown⟩
  · have e1 : (n == 0) = false := by simpa using e0
    go_enter Try.func110, Try.ntmps110
    go_wp2
    go_ret
    exact ⟨ret_bool (by simp []), by go_grown⟩

set_option maxRecDepth 100000 in
set_option maxHeartbeats 8000000 in
theorem possible5 (ht : HT w B AX AY AV nx ny nv X Y V) (h : WN w g cable AX nx cx AY ny cy AV nv cv charge ⟨len, wt, since, cyc, cut, tch⟩ y1 y2) (_z0 : 0 ≤ len) (_z1 : len ≤ cable) (_z2 : cable ≤ 100) :
    Calls Try.prog 110 #[.pointer (some ⟨g, 0, none⟩), .agg #[.int .i64 5, .int .i64 n]] w fun e w' => e = .returned (.bool (posB (fun l u => carB X Y V l l y1 y2 u) cable charge ⟨len, wt, since, cyc, cut, tch⟩ 5 n)) ∧ Below w.heap.size w w' := by
  have HAL := Lib.hid alone_any
  have HCA := Lib.hid (fun (W : World) (hW : Below w.heap.size w W) (a : Int) (u : Int) => carries_any g cable charge y1 y2 a a u ⟨len, wt, since, cyc, cut, tch⟩ AX AY AV nx cx ny cy nv cv B X Y V W (ht.below hW) (h.stay hW))
  rw [show posB (fun l u => carB X Y V l l y1 y2 u) cable charge ⟨len, wt, since, cyc, cut, tch⟩ 5 n = (decide (n = 0) && decide (0 < wt)) by unfold posB; simp]
  clear HCA HAL
  have c5 := cellOf (o := 5) h rfl
  have c6 := cellOf (o := 6) h rfl
  have hg := h.lt
  clear h ht
  by_cases e0 : n = 0
  · subst e0
    go_enter Try.func110, Try.ntmps110
    go_wp2
    go_ret
    exact ⟨ret_bool (by simp), by go_grown⟩
  · have e1 : (n == 0) = false := by simpa using e0
    go_enter Try.func110, Try.ntmps110
    go_wp2
    go_ret
    exact ⟨ret_bool (by simp []), by go_grown⟩

set_option maxRecDepth 100000 in
set_option maxHeartbeats 8000000 in
theorem possible6 (ht : HT w B AX AY AV nx ny nv X Y V) (h : WN w g cable AX nx cx AY ny cy AV nv cv charge ⟨len, wt, since, cyc, cut, tch⟩ y1 y2) (_z0 : 0 ≤ len) (_z1 : len ≤ cable) (_z2 : cable ≤ 100) :
    Calls Try.prog 110 #[.pointer (some ⟨g, 0, none⟩), .agg #[.int .i64 6, .int .i64 n]] w fun e w' => e = .returned (.bool (posB (fun l u => carB X Y V l l y1 y2 u) cable charge ⟨len, wt, since, cyc, cut, tch⟩ 6 n)) ∧ Below w.heap.size w w' := by
  have HAL := Lib.hid alone_any
  have HCA := Lib.hid (fun (W : World) (hW : Below w.heap.size w W) (a : Int) (u : Int) => carries_any g cable charge y1 y2 a a u ⟨len, wt, since, cyc, cut, tch⟩ AX AY AV nx cx ny cy nv cv B X Y V W (ht.below hW) (h.stay hW))
  rw [show posB (fun l u => carB X Y V l l y1 y2 u) cable charge ⟨len, wt, since, cyc, cut, tch⟩ 6 n = decide (n = 0) by unfold posB; simp]
  clear HCA HAL
  have c5 := cellOf (o := 5) h rfl
  have c6 := cellOf (o := 6) h rfl
  have hg := h.lt
  clear h ht
  by_cases e0 : n = 0
  · subst e0
    go_enter Try.func110, Try.ntmps110
    go_wp2
    go_ret
    exact ⟨ret_bool (by simp), by go_grown⟩
  · have e1 : (n == 0) = false := by simpa using e0
    go_enter Try.func110, Try.ntmps110
    go_wp2
    go_ret
    exact ⟨ret_bool (by simp []), by go_grown⟩

set_option maxRecDepth 100000 in
set_option maxHeartbeats 8000000 in
theorem possible0 (ht : HT w B AX AY AV nx ny nv X Y V) (h : WN w g cable AX nx cx AY ny cy AV nv cv charge ⟨len, wt, since, cyc, cut, tch⟩ y1 y2) (_z0 : 0 ≤ len) (_z1 : len ≤ cable) (_z2 : cable ≤ 100) (k1 : k ≠ 1) (k2 : k ≠ 2) (k3 : k ≠ 3) (k4 : k ≠ 4) (k5 : k ≠ 5) (k6 : k ≠ 6) :
    Calls Try.prog 110 #[.pointer (some ⟨g, 0, none⟩), .agg #[.int .i64 k, .int .i64 n]] w fun e w' => e = .returned (.bool (posB (fun l u => carB X Y V l l y1 y2 u) cable charge ⟨len, wt, since, cyc, cut, tch⟩ k n)) ∧ Below w.heap.size w w' := by
  have HAL := Lib.hid alone_any
  have HCA := Lib.hid (fun (W : World) (hW : Below w.heap.size w W) (a : Int) (u : Int) => carries_any g cable charge y1 y2 a a u ⟨len, wt, since, cyc, cut, tch⟩ AX AY AV nx cx ny cy nv cv B X Y V W (ht.below hW) (h.stay hW))
  rw [show posB (fun l u => carB X Y V l l y1 y2 u) cable charge ⟨len, wt, since, cyc, cut, tch⟩ k n = false by unfold posB; simp [k1, k2, k3, k4, k5, k6]]
  have e1 : (k == 1) = false := by simpa using k1
  have e2 : (k == 2) = false := by simpa using k2
  have e3 : (k == 3) = false := by simpa using k3
  have e4 : (k == 4) = false := by simpa using k4
  have e5 : (k == 5) = false := by simpa using k5
  have e6 : (k == 6) = false := by simpa using k6
  clear HCA HAL h ht k1 k2 k3 k4 k5 k6
  go_enter Try.func110, Try.ntmps110
  go_wp2
  go_ret
  exact ⟨rfl, by go_grown⟩

end
end Go.Proofs.Ytnnmmojlgikdgaa

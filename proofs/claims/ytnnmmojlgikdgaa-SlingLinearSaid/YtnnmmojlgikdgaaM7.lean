/- Contracts of the functions that the statement reaches: JLess, JKept, Rk, JBlk, JLess2, R2, JLast, JEff, JEff2, JLinL, Ra, Rs, Rbb, JLinK, JLinT. -/
import Derived.Test.YtnnmmojlgikdgaaM1
import Derived.Test.YtnnmmojlgikdgaaM4
import Derived.BigQuiet
import Derived.Test.YtnnmmojlgikdgaaM5
import Derived.Test.YtnnmmojlgikdgaaM6
import Derived.Maps.AppendAt

/- Fractions of the law: floor, rest, less. -/
namespace Go.Proofs.Ytnnmmojlgikdgaa
open Go.RowKit

theorem rest_ne {a b c d : Int} (ha : 0 < a) (hc : 0 < c) (h : d / c ≠ b / a) : d / c < b / a ↔ a * d < c * b := by
  have p1 := Int.mul_ediv_self_le (x := d) (k := c) (by omega)
  have p2 := Int.lt_mul_ediv_self_add (x := d) (k := c) hc
  have q1 := Int.mul_ediv_self_le (x := b) (k := a) (by omega)
  have q2 := Int.lt_mul_ediv_self_add (x := b) (k := a) ha
  generalize d / c = p at *
  generalize b / a = q at *
  constructor
  · intro hpq
    have h1 : c * (p + 1) ≤ c * q := Int.mul_le_mul_of_nonneg_left (by omega) (by omega)
    have h2 : d < c * q := by rw [Int.mul_add, Int.mul_one] at h1; omega
    have h3 := Int.mul_lt_mul_of_pos_left h2 ha
    have h4 := Int.mul_le_mul_of_nonneg_left q1 (Int.le_of_lt hc)
    rw [show a * (c * q) = c * (a * q) by rw [Int.mul_left_comm]] at h3
    omega
  · intro hlt
    by_cases hpq : p < q
    · exact hpq
    · exfalso
      have h1 : a * (q + 1) ≤ a * p := Int.mul_le_mul_of_nonneg_left (by omega) (by omega)
      have h2 : b < a * p := by rw [Int.mul_add, Int.mul_one] at h1; omega
      have h3 := Int.mul_lt_mul_of_pos_left h2 hc
      have h4 := Int.mul_le_mul_of_nonneg_left p1 (Int.le_of_lt ha)
      rw [show c * (a * p) = a * (c * p) by rw [Int.mul_left_comm]] at h3
      omega
theorem rest_eq {a b c d : Int} (h : d / c = b / a) : (d % c) * a < (b % a) * c ↔ a * d < c * b := by
  have h1 := Int.mul_ediv_add_emod d c
  have h2 := Int.mul_ediv_add_emod b a
  rw [h] at h1
  generalize b / a = p at *
  have e1 : a * d = a * (c * p) + (d % c) * a := by rw [← Int.mul_comm a (d % c), ← Int.mul_add, h1]
  have e2 : c * b = a * (c * p) + (b % a) * c := by rw [← Int.mul_comm c (b % a), Int.mul_left_comm a c p, ← Int.mul_add, h2]
  omega

set_option maxRecDepth 100000 in
theorem rest_any (a b c d : Int) (w : World) (ha : 0 ≤ a) (hb : a < b) (hbm : b ≤ 1000000000000000000) (hc : 0 ≤ c) (hd : c < d) (hdm : d ≤ 1000000000000000000) :
    Calls Try.prog 88 #[.int .i64 a, .int .i64 b, .int .i64 c, .int .i64 d] w fun e w' => e = .returned (.bool (decide (a * d < c * b))) ∧ Below w.heap.size w w' := by
  obtain ⟨r, hr⟩ : ∃ r, decide (a * d < c * b) = r := ⟨_, rfl⟩
  rw [hr]
  go_enter Try.func88, Try.ntmps88
  go_wp2
  go_loopw [0, 1, 2, 3] (fun t0 t1 t2 t3 wr => ∃ a b c d : Int, t0 = .int .i64 a ∧ t1 = .int .i64 b ∧ t2 = .int .i64 c ∧ t3 = .int .i64 d ∧ 0 ≤ a ∧ a < b ∧ b ≤ 1000000000000000000 ∧ 0 ≤ c ∧ c < d ∧ d ≤ 1000000000000000000 ∧ decide (a * d < c * b) = r ∧ Below w.heap.size w wr) (fun _ t1 _ t3 _ => (intOf t1).toNat + (intOf t3).toNat)
  case atStart => exact ⟨a, b, c, d, rfl, rfl, rfl, rfl, ha, hb, hbm, hc, hd, hdm, hr, Below.refl _ _⟩
  case round =>
    clear ha hb hbm hc hd hdm hr
    obtain ⟨a, b, c, d, rfl, rfl, rfl, rfl, ha, hb, hbm, hc, hd, hdm, hr, hbw⟩ := hrel
    have HBW := Lib.hid hbw
    clear hbw
    by_cases c0 : c = 0
    · subst c0
      have HR := Lib.hid (show false = r by
        rw [← hr, Int.zero_mul]
        have : 0 ≤ a * d := Int.mul_nonneg ha (by omega)
        exact (decide_eq_false (by omega)).symm)
      clear hr
      go_wp2
      go_ret
      exact ⟨ret_bool HR.out, HBW.out⟩
    · by_cases a0 : a = 0
      · subst a0
        have HR := Lib.hid (show true = r by
          rw [← hr, Int.zero_mul]
          have : 0 < c * b := Int.mul_pos (by omega) (by omega)
          exact (decide_eq_true this).symm)
        have n1 : (c == 0) = false := by simpa using c0
        clear hr
        go_wp2
        go_ret
        exact ⟨ret_bool HR.out, HBW.out⟩
      · have n1 : (c == 0) = false := by simpa using c0
        have n2 : (a == 0) = false := by simpa using a0
        have t1 : d.tdiv c = d / c := Int.tdiv_eq_ediv_of_nonneg (by omega)
        have t2 : b.tdiv a = b / a := Int.tdiv_eq_ediv_of_nonneg (by omega)
        have t3 : d.tmod c = d % c := Int.tmod_eq_emod_of_nonneg (by omega)
        have t4 : b.tmod a = b % a := Int.tmod_eq_emod_of_nonneg (by omega)
        have b1 : 0 ≤ d / c ∧ d / c ≤ 1000000000000000000 := ⟨Int.ediv_nonneg (by omega) (by omega), Int.le_trans (Int.ediv_le_self _ (by omega)) hdm⟩
        have b2 : 0 ≤ b / a ∧ b / a ≤ 1000000000000000000 := ⟨Int.ediv_nonneg (by omega) (by omega), Int.le_trans (Int.ediv_le_self _ (by omega)) hbm⟩
        have m1 := Int.emod_nonneg d c0
        have m2 := Int.emod_lt_of_pos d (show 0 < c by omega)
        have m3 := Int.emod_nonneg b a0
        have m4 := Int.emod_lt_of_pos b (show 0 < a by omega)
        have i1 : IntKind.i64.wrap (d / c) = d / c := IntWalk.i64_in _ (by omega)
        have i2 : IntKind.i64.wrap (b / a) = b / a := IntWalk.i64_in _ (by omega)
        have i3 : IntKind.i64.wrap (d % c) = d % c := IntWalk.i64_in _ (by omega)
        have i4 : IntKind.i64.wrap (b % a) = b % a := IntWalk.i64_in _ (by omega)
        by_cases e : d / c = b / a
        · have HR := Lib.hid (show decide ((d % c) * a < (b % a) * c) = r by rw [← hr, decide_eq_decide]; exact rest_eq e)
          have HA := Lib.hid (And.intro (And.intro m1 m2) (And.intro m3 m4))
          have e' : (d / c != b / a) = false := by rw [e]; simp
          clear hr b1 b2 m1 m2 m3 m4 e
          go_wp2
          go_quiet (fail)
          go_wp2
          go_quiet (fail)
          go_wp2
          go_roundw
          case rel => exact ⟨d % c, c, b % a, a, by go_num, rfl, by go_num, rfl, HA.out.1.1, HA.out.1.2, by omega, HA.out.2.1, HA.out.2.2, by omega, HR.out, by first | exact below_drewN (below_drewN HBW.out _) _ | exact below_drewN HBW.out _⟩
          case measure => simp [intOf] <;> omega
        · have HR := Lib.hid (show decide (d / c < b / a) = r by rw [← hr, decide_eq_decide]; exact rest_ne (by omega) (by omega) e)
          have e' : (d / c != b / a) = true := by rw [bne_iff_ne]; exact e
          clear hr b1 b2 m1 m2 m3 m4 e
          go_wp2
          go_quiet (fail)
          go_wp2
          go_ret
          exact ⟨ret_bool HR.out, below_drewN HBW.out _⟩

theorem jfloor_any (a b : Int) (w : World) (h1 : 1 ≤ b) (h2 : b ≤ 1000000000000000000) (h3 : -1000000000000000000 ≤ a) (h4 : a ≤ 1000000000000000000) :
    Calls Try.prog 87 #[.agg #[.int .i64 a, .int .i64 b]] w fun e w' => e = .returned (.int .i64 (fl a b)) ∧ Below w.heap.size w w' := by
  have hd := tdiv_bd (b := b) h3 h4
  go_enter Try.func87, Try.ntmps87
  go_wp2
  all_goals go_ret
  · exact ⟨ret_int (fl_tdiv_neg h1 (by assumption)), by go_grown⟩
  · exact ⟨ret_int (fl_tdiv_pos h1 (by assumption)), by go_grown⟩
theorem jfraction_any (a b : Int) (w : World) :
    Calls Try.prog 41 #[.agg #[.int .i64 a, .int .i64 b]] w fun e w' => e = .returned (.bool (decide (0 < b))) ∧ Below w.heap.size w w' := by
  go_enter Try.func41, Try.ntmps41
  go_wp2
  go_ret
  exact ⟨rfl, by go_grown⟩
end Go.Proofs.Ytnnmmojlgikdgaa

/- All blocks but one are kept. -/
namespace Go.Proofs.Ytnnmmojlgikdgaa
open Go.RowKit

def Kept (g : Nat) (W W' : World) : Prop := Below g W W' ∧ ∀ b, b < W.heap.size → b ≠ g → W'.heap[b]? = W.heap[b]?
section
variable {g : Nat} {W W1 W2 : World}
theorem Kept.refl (g : Nat) (W : World) : Kept g W W := ⟨Below.refl _ _, fun _ _ _ => rfl⟩
theorem Kept.of (h : Below W.heap.size W W1) (hg : g ≤ W.heap.size) : Kept g W W1 := ⟨h.mono hg, fun b hb _ => h.block b hb⟩
theorem Kept.trans (h : Kept g W W1) (h2 : Kept g W1 W2) : Kept g W W2 :=
  ⟨h.1.trans h2.1, fun b hb hn => (h2.2 b (Nat.lt_of_lt_of_le hb h.1.size) hn).trans (h.2 b hb hn)⟩
theorem Kept.setCell (h : Kept g W W1) (o : Nat) (v : Value) : Kept g W (W1.setCell ⟨g, o, none⟩ v) :=
  ⟨h.1.setCell (Nat.le_refl _) v, fun b hb hn => by
    rw [← h.2 b hb hn]
    exact Below.heap_setCell _ _ _ _ hn⟩
theorem Kept.cell (h : Kept g W W1) {b o : Nat} {v : Value} (hc : W.cell? ⟨b, o, none⟩ = some v) (hn : b ≠ g) : W1.cell? ⟨b, o, none⟩ = some v := by
  have hl : b < W.heap.size := World.block_lt_of_cell? W _ hc
  unfold World.cell? at hc ⊢
  rw [h.2 b hl hn]
  exact hc
theorem Kept.low (h : Kept g W W1) {B : Nat} (hB : B ≤ g) : Below B W W1 := h.1.mono hB
theorem Kept.ht {B : Nat} {AX AY AV : Option Addr} {nx ny nv : Nat} {X Y : List Int} {V : List (List Int)} (h : Kept g W W1) (hB : B ≤ g) (ht : HT W B AX AY AV nx ny nv X Y V) : HT W1 B AX AY AV nx ny nv X Y V :=
  ⟨ht.hx, ht.hy, ht.hv, ht.mx, ht.my, ht.mv, ht.mr, ht.tb.below (h.low hB), by have := h.1.size; have := ht.hB; omega⟩
end
end Go.Proofs.Ytnnmmojlgikdgaa

/- A drawn region with one store into a box that was there, anywhere among its operations; all other blocks stay. -/
namespace Go.Proofs.Ytnnmmojlgikdgaa
open Go.RowKit

def RK (Q : Nat → Value → World → Prop) (W0 : World) (s q : Nat) (o1 : Obj) (val : Nat → Value) (L : Array Bool) (W : World) : Prop :=
  Kept q W0 W ∧ (∀ j, L.getD j false = true → Q j (val j) W) ∧ (L.getD s false = true → W.heap[q]? = some o1) ∧ (L.getD s false = false → W.heap[q]? = W0.heap[q]?)
section
variable {Q : Nat → Value → World → Prop} {W0 W W' : World} {s q i : Nat} {o1 : Obj} {v : Value} {val : Nat → Value} {L : Array Bool}
theorem RK.start (Q : Nat → Value → World → Prop) (W0 : World) (s q : Nat) (o1 : Obj) (n : Nat) : RK Q W0 s q o1 (fun _ => undef) (Array.replicate n false) W0.drew :=
  ⟨⟨(Below.refl _ _).drew, fun _ _ _ => rfl⟩, fun j h => (by rw [getD_replicate_no] at h; cases h), fun h => (by rw [getD_replicate_no] at h; cases h), fun _ => rfl⟩
theorem RK.vals (h : RK Q W0 s q o1 val L W) (hQ : Still Q) (hq : Q i v W') : ∀ j, (L.setIfInBounds i true).getD j false = true → Q j (upd val i v j) W' := fun j hj => by
  by_cases e : j = i
  · subst e; rw [upd_same]; exact hq
  · rw [upd_other e]
    rw [getD_set_other (fun h => e h.symm)] at hj
    exact hQ _ _ _ _ (h.2.1 j hj)
theorem RK.step (h : RK Q W0 s q o1 val L W) (hQ : Still Q) (hq0 : q < W0.heap.size) (hb : Below W.heap.size W W') (hq : Q i v W') (hs : i ≠ s) : RK Q W0 s q o1 (upd val i v) (L.setIfInBounds i true) W' := by
  have hlt : q < W.heap.size := Nat.lt_of_lt_of_le hq0 h.1.1.size
  refine ⟨h.1.trans (Kept.of hb (Nat.le_of_lt hlt)), h.vals hQ hq, fun hl => ?_, fun hl => ?_⟩
  · rw [getD_set_other hs] at hl
    exact (hb.block q hlt).trans (h.2.2.1 hl)
  · rw [getD_set_other hs] at hl
    exact (hb.block q hlt).trans (h.2.2.2 hl)
theorem RK.store (h : RK Q W0 s q o1 val L W) (hQ : Still Q) (hls : s < L.size) (hk : Kept q W W') (hc : W'.heap[q]? = some o1) (hq : Q s v W') : RK Q W0 s q o1 (upd val s v) (L.setIfInBounds s true) W' :=
  ⟨h.1.trans hk, h.vals hQ hq, fun _ => hc, fun hl => (by rw [getD_set_eq hls] at hl; cases hl)⟩
end
section
variable {Q : Nat → Value → World → Prop} {vals : List (Option Value)} {ex : Nat → Value → World → Prop} {W0 W : World} {s q : Nat} {o1 : Obj} {val : Nat → Value} {L : Array Bool}
theorem RK.go (h : RK Q W0 s q o1 val L W) (hQ : Still Q) (hq0 : q < W0.heap.size) (HQ : Hid (Q = QG vals ex)) (i : Nat) {x : Value} (hx : vals[i]? = some (some x)) (hs : i ≠ s) : ∀ v W', Below W.heap.size W W' → v = x → RK Q W0 s q o1 (upd val i v) (L.setIfInBounds i true) W' :=
  fun _ _ hb e => h.step hQ hq0 hb (QG.put HQ hx e) hs
theorem RK.goT (h : RK Q W0 s q o1 val L W) (hQ : Still Q) (hq0 : q < W0.heap.size) {i : Nat} (hn : ∀ v W, Q i v W) (hs : i ≠ s) : ∀ v W', Below W.heap.size W W' → True → RK Q W0 s q o1 (upd val i v) (L.setIfInBounds i true) W' :=
  fun v W' hb _ => h.step hQ hq0 hb (hn v W') hs
end
end Go.Proofs.Ytnnmmojlgikdgaa

/- Blocks that are new, and old ones. -/
namespace Go.Proofs.Ytnnmmojlgikdgaa
open Go.RowKit

theorem blk_new (W : World) (o : Obj) (b : Nat) (h : W.heap.size = b) : (W.alloc o).heap[b]? = some o := by
  subst h
  show (W.heap.push _)[W.heap.size]? = _
  simp
theorem blk_old {W : World} {b : Nat} {x : Obj} (o : Obj) (h : W.heap[b]? = some x) : (W.alloc o).heap[b]? = some x := by
  have hl : b < W.heap.size := by
    rw [Array.getElem?_eq_some_iff] at h
    exact h.1
  exact (Below.heap_alloc _ _ _ hl).trans h
end Go.Proofs.Ytnnmmojlgikdgaa

/- less. -/
namespace Go.Proofs.Ytnnmmojlgikdgaa
open Go.RowKit

theorem low_le7 {n d num den : Int} (hd : 1 ≤ d) : ((lowN n d).1 * den ≤ num * (lowN n d).2 ↔ n * den ≤ num * d) ∧ (num * (lowN n d).2 ≤ (lowN n d).1 * den ↔ num * d ≤ n * den) := by
  have hg := gcI_pos (a := n) hd
  obtain ⟨x, hx⟩ : gcI n d ∣ n := Int.gcd_dvd_left n d
  obtain ⟨y, hy⟩ : gcI n d ∣ d := Int.gcd_dvd_right n d
  have e1 : (lowN n d).1 = x := by
    show n.tdiv (gcI n d) = x
    generalize gcI n d = g at *
    rw [hx]
    exact Int.mul_tdiv_cancel_left _ (by omega)
  have e2 : (lowN n d).2 = y := by
    show d / gcI n d = y
    generalize gcI n d = g at *
    rw [hy]
    exact Int.mul_ediv_cancel_left _ (by omega)
  rw [e1, e2]
  generalize gcI n d = g at *
  rw [hx, hy, show g * x * den = g * (x * den) by grind, show num * (g * y) = g * (num * y) by grind]
  exact ⟨(Int.mul_le_mul_left (by omega)).symm, (Int.mul_le_mul_left (by omega)).symm⟩
theorem low_den {n d : Int} (hd : 1 ≤ d) : 1 ≤ (lowN n d).2 ∧ (lowN n d).2 ≤ d := by
  have hg := gcI_pos (a := n) hd
  obtain ⟨y, hy⟩ : gcI n d ∣ d := Int.gcd_dvd_right n d
  show 1 ≤ d / gcI n d ∧ d / gcI n d ≤ d
  refine ⟨?_, Int.ediv_le_self _ (by omega)⟩
  generalize gcI n d = g at *
  rw [hy, Int.mul_ediv_cancel_left _ (by omega)]
  have : 0 < y := by
    by_cases h : 0 < y
    · exact h
    · exfalso
      have := Int.mul_le_mul_of_nonneg_left (show y ≤ 0 by omega) (show 0 ≤ g by omega)
      omega
  omega
theorem low_num {n d M : Int} (hd : 1 ≤ d) (h1 : -M ≤ n) (h2 : n ≤ M) : -M ≤ (lowN n d).1 ∧ (lowN n d).1 ≤ M := tdiv_bd h1 h2
/-- Of two fractions in lowest terms with one denominator. -/
theorem low_less {x l q : Int} (hq : 1 ≤ q) (h : l ≤ x) : decide ((lowN x q).1 * (lowN l q).2 < (lowN l q).1 * (lowN x q).2) = false := by
  have a := (low_le7 (n := l) (d := q) (num := (lowN x q).1) (den := (lowN x q).2) hq).1
  have b := (low_le7 (n := x) (d := q) (num := l) (den := q) hq).2
  have c : l * (lowN x q).2 ≤ (lowN x q).1 * q := b.2 (Int.mul_le_mul_of_nonneg_right h (by omega))
  exact decide_eq_false (by have := a.2 c; omega)
/-- Of a fraction in lowest terms and a whole number. -/
theorem low_less1 {x q k : Int} (hq : 1 ≤ q) : (decide ((lowN x q).1 * 1 < k * (lowN x q).2) = decide (x < k * q)) ∧ decide (k * (lowN x q).2 < (lowN x q).1 * 1) = decide (k * q < x) := by
  have a := low_le7 (n := x) (d := q) (num := k) (den := 1) hq
  rw [decide_eq_decide, decide_eq_decide]
  have := a.1
  have := a.2
  rw [Int.mul_one x] at *
  constructor <;> constructor <;> intro h <;> omega

set_option maxRecDepth 100000 in
theorem jless_any (a b c d : Int) (w : World) (h1 : 1 ≤ b) (h2 : b ≤ 1000000000000000000) (h3 : -1000000000000000000 ≤ a) (h4 : a ≤ 1000000000000000000) (h5 : 1 ≤ d) (h6 : d ≤ 1000000000000000000) (h7 : -1000000000000000000 ≤ c) (h8 : c ≤ 1000000000000000000) :
    Calls Try.prog 44 #[.agg #[.int .i64 a, .int .i64 b], .agg #[.int .i64 c, .int .i64 d]] w fun e w' => e = .returned (.bool (decide (a * d < c * b))) ∧ Below w.heap.size w w' := by
  have HF1 := Lib.hid (fun W => jfloor_any a b W h1 h2 h3 h4)
  have HF2 := Lib.hid (fun W => jfloor_any c d W h5 h6 h7 h8)
  have hp := Int.mul_ediv_add_emod a b
  have hq := Int.mul_ediv_add_emod c d
  have m1 := Int.emod_nonneg a (show b ≠ 0 by omega)
  have m2 := Int.emod_lt_of_pos a (show 0 < b by omega)
  have m3 := Int.emod_nonneg c (show d ≠ 0 by omega)
  have m4 := Int.emod_lt_of_pos c (show 0 < d by omega)
  have hne : ¬ fl a b = fl c d → decide (fl a b < fl c d) = decide (a * d < c * b) := fun h => by
    rw [decide_eq_decide, Int.mul_comm a d, Int.mul_comm c b]
    exact rest_ne (a := d) (b := c) (c := b) (d := a) (by omega) (by omega) h
  have heq : fl a b = fl c d → decide ((a % b) * d < (c % d) * b) = decide (a * d < c * b) := fun h => by
    rw [decide_eq_decide, Int.mul_comm a d, Int.mul_comm c b]
    exact rest_eq (a := d) (b := c) (c := b) (d := a) h
  have HRS := Lib.hid (fun W => rest_any (a % b) b (c % d) d W m1 m2 h2 m3 m4 h6)
  have ep : fl a b * b = a - a % b := by show a / b * b = _; rw [Int.mul_comm]; omega
  have eq9 : fl c d * d = c - c % d := by show c / d * d = _; rw [Int.mul_comm]; omega
  have i1 : IntKind.i64.wrap (a - a % b) = a - a % b := IntWalk.i64_in _ (by omega)
  have i2 : IntKind.i64.wrap (c - c % d) = c - c % d := IntWalk.i64_in _ (by omega)
  have i3 : IntKind.i64.wrap (a - (a - a % b)) = a % b := by rw [show a - (a - a % b) = a % b by omega]; exact IntWalk.i64_in _ (by omega)
  have i4 : IntKind.i64.wrap (c - (c - c % d)) = c % d := by rw [show c - (c - c % d) = c % d by omega]; exact IntWalk.i64_in _ (by omega)
  generalize fl a b = p at *
  generalize fl c d = q at *
  generalize decide (a * d < c * b) = r at *
  have HB0 := Lib.hid (show Below w.heap.size w ((w.alloc (.cells #[.int .i64 a, .int .i64 b] 24)).alloc (.cells #[.int .i64 c, .int .i64 d] 24)) by go_grown)
  have B1 := Lib.hid (blk_old (.cells #[.int .i64 c, .int .i64 d] 24) (blk_new w (.cells #[.int .i64 a, .int .i64 b] 24) _ rfl))
  have B2 := Lib.hid (blk_new (w.alloc (.cells #[.int .i64 a, .int .i64 b] 24)) (.cells #[.int .i64 c, .int .i64 d] 24) (w.heap.size + 1) (by simp))
  clear h1 h2 h3 h4 h5 h6 h7 h8 hp hq
  go_enter Try.func44, Try.ntmps44
  go_upto_region 1 with (fail)
  generalize World.alloc (World.alloc w _) _ = w1 at *
  have s0 := cellOf (o := 0) B1.out rfl
  have s1 := cellOf (o := 1) B1.out rfl
  have x0 := cellOf (o := 0) B2.out rfl
  have x1 := cellOf (o := 1) B2.out rfl
  obtain ⟨Q, hQ⟩ : ∃ q9 : Nat → Value → World → Prop, q9 = QG [some (.agg #[.int .i64 a, .int .i64 b]), some (.int .i64 p), some (.agg #[.int .i64 c, .int .i64 d]), some (.int .i64 q), some (.int .i64 p), some (.int .i64 q)] (fun _ _ _ => True) := ⟨_, rfl⟩
  have hst : Stays Q := by rw [hQ]; exact QG.stays (fun _ _ _ _ _ _ => trivial)
  have HQ := Lib.hid hQ
  clear hQ
  refine wpIn_wide.1 (region_inv2 (n := 9) (by kernel_rfl) (RQ Q w1) (by kernel_rfl) rfl (RQ.start _ _ _) ?hstep ?hend)
  case hstep =>
    intro i' o ho val L b' x hF hR hpre hl
    match i', ho with
    | 0, ho =>
      simp at ho; subst ho; refine step_plain rfl ?_; have e2 := hF.was 2 (by kernel_rfl) rfl; have hgoal := hR.go hst HQ 0 rfl; have q0 := cell_keep hR.1 s0; have q1 := cell_keep hR.1 s1; clear hF hpre hl hR; go_simp; exact ⟨_, rfl, hgoal _ _ (Below.refl _ _) rfl⟩
    | 1, ho =>
      simp at ho; subst ho; refine step_plain rfl ?_; have e7 := hF.gv hR.2 HQ 0 rfl (hpre ⟨0, .data⟩ (by simp) rfl) rfl; have hgoal := hR.go hst HQ 1 rfl
      have hM := Lib.hid hR.1
      clear hF hpre hl hR; go_simp
      refine ⟨trivial, ?_⟩
      refine CallsIn.mono (callsIn_wide.2 (HF1.out _)) ?_
      rintro e w9 ⟨rfl, hb9⟩
      exact ⟨_, rfl, hgoal _ _ hb9 rfl⟩
    | 2, ho =>
      simp at ho; subst ho; refine step_plain rfl ?_; have e3 := hF.was 3 (by kernel_rfl) rfl; have hgoal := hR.go hst HQ 2 rfl; have q0 := cell_keep hR.1 x0; have q1 := cell_keep hR.1 x1; clear hF hpre hl hR; go_simp; exact ⟨_, rfl, hgoal _ _ (Below.refl _ _) rfl⟩
    | 3, ho =>
      simp at ho; subst ho; refine step_plain rfl ?_; have e9 := hF.gv hR.2 HQ 2 rfl (hpre ⟨2, .data⟩ (by simp) rfl) rfl; have hgoal := hR.go hst HQ 3 rfl
      have hM := Lib.hid hR.1
      clear hF hpre hl hR; go_simp
      refine ⟨trivial, ?_⟩
      refine CallsIn.mono (callsIn_wide.2 (HF2.out _)) ?_
      rintro e w9 ⟨rfl, hb9⟩
      exact ⟨_, rfl, hgoal _ _ hb9 rfl⟩
    | 4, ho =>
      simp at ho; subst ho; refine step_plain rfl ?_; have e8 := hF.gv hR.2 HQ 1 rfl (hpre ⟨1, .data⟩ (by simp) rfl) rfl; have hgoal := hR.go hst HQ 4 rfl; clear hF hpre hl hR; go_simp; exact ⟨_, rfl, hgoal _ _ (Below.refl _ _) rfl⟩
    | 5, ho =>
      simp at ho; subst ho; refine step_plain rfl ?_; have e10 := hF.gv hR.2 HQ 3 rfl (hpre ⟨3, .data⟩ (by simp) rfl) rfl; have hgoal := hR.go hst HQ 5 rfl; clear hF hpre hl hR; go_simp; exact ⟨_, rfl, hgoal _ _ (Below.refl _ _) rfl⟩
    | i + 6, ho => simp at ho
  case hend =>
    intro val L b' x hF hall hR
    have e := hF.all (by kernel_rfl) hall
    have k4 := QG.val HQ rfl (hR.2 4 (hall 4 (by decide)))
    have k5 := QG.val HQ rfl (hR.2 5 (hall 5 (by decide)))
    have hB := Lib.hid hR.1
    clear hF hall hR hst HQ 
    subst e
    simp [final, dstOf, List.range, List.range.loop]
    rw [k4]
    rw [k5]
    have HB9 := Lib.hid (HB0.out.trans (hB.out.mono HB0.out.size))
    have s0 := cell_keep hB.out s0
    have s1 := cell_keep hB.out s1
    have x0 := cell_keep hB.out x0
    have x1 := cell_keep hB.out x1
    have l0 := World.block_lt_of_cell? _ _ s0
    have l1 := World.block_lt_of_cell? _ _ x0
    clear hB
    by_cases hpq : p = q
    · have HR := Lib.hid (heq hpq)
      have e' : (p != q) = false := by rw [hpq]; simp
      clear hne heq hpq m1 m2 m3 m4
      go_wp2_with (go_at_call 88; refine Calls.mono (HRS.out _) ?_; rintro e w5 ⟨rfl, hb5⟩; have HX9 := Lib.hid (HB9.out.trans (hb5.mono HB9.out.size)); clear hb5)
      go_ret
      exact ⟨ret_bool HR.out, HX9.out⟩
    · have HR := Lib.hid (hne hpq)
      have e' : (p != q) = true := by rw [bne_iff_ne]; exact hpq
      clear hne heq hpq m1 m2 m3 m4
      go_wp2
      go_ret
      exact ⟨ret_bool HR.out, HB9.out⟩
end Go.Proofs.Ytnnmmojlgikdgaa

/- A drawn region whose last operations fill two boxes that were there, one behind the other. -/
namespace Go.Proofs.Ytnnmmojlgikdgaa
open Go.RowKit

def RT2 (Q : Nat → Value → World → Prop) (W0 : World) (s1 s2 : Nat) (f1 f2 : World → World) (val : Nat → Value) (L : Array Bool) (W : World) : Prop :=
  (∀ j, L.getD j false = true → Q j (val j) W) ∧ (L.getD s1 false = false → Below W0.heap.size W0 W) ∧
    (L.getD s1 false = true → (L.getD s2 false = false → ∃ y, Below W0.heap.size W0 y ∧ W = f1 y) ∧ (L.getD s2 false = true → ∃ y, Below W0.heap.size W0 y ∧ W = f2 (f1 y)))
section
variable {Q : Nat → Value → World → Prop} {W0 W W' : World} {s1 s2 i : Nat} {f1 f2 : World → World} {v : Value} {val : Nat → Value} {L : Array Bool}
theorem RT2.start (Q : Nat → Value → World → Prop) (W0 : World) (s1 s2 : Nat) (f1 f2 : World → World) (n : Nat) : RT2 Q W0 s1 s2 f1 f2 (fun _ => undef) (Array.replicate n false) W0.drew :=
  ⟨fun j h => (by rw [getD_replicate_no] at h; cases h), fun _ => (Below.refl _ _).drew, fun h => (by rw [getD_replicate_no] at h; cases h)⟩
theorem RT2.vals (h : RT2 Q W0 s1 s2 f1 f2 val L W) (hQ : Still Q) (hq : Q i v W') : ∀ j, (L.setIfInBounds i true).getD j false = true → Q j (upd val i v j) W' := fun j hj => by
  by_cases e : j = i
  · subst e; rw [upd_same]; exact hq
  · rw [upd_other e]
    rw [getD_set_other (fun h => e h.symm)] at hj
    exact hQ _ _ _ _ (h.1 j hj)
theorem RT2.step (h : RT2 Q W0 s1 s2 f1 f2 val L W) (hQ : Still Q) (hb : Below W.heap.size W W') (hq : Q i v W') (hs : i ≠ s1) (hN : L.getD s1 false = false) : RT2 Q W0 s1 s2 f1 f2 (upd val i v) (L.setIfInBounds i true) W' := by
  refine ⟨h.vals hQ hq, fun _ => (h.2.1 hN).trans (hb.mono (h.2.1 hN).size), fun hl => ?_⟩
  rw [getD_set_other hs, hN] at hl; cases hl
theorem RT2.store1 (h : RT2 Q W0 s1 s2 f1 f2 val L W) (hQ : Still Q) (hq : Q s1 v (f1 W)) (hne : s1 ≠ s2) (hls : s1 < L.size) (hN : L.getD s1 false = false) (hN2 : L.getD s2 false = false) : RT2 Q W0 s1 s2 f1 f2 (upd val s1 v) (L.setIfInBounds s1 true) (f1 W) := by
  refine ⟨h.vals hQ hq, fun hl => ?_, fun _ => ⟨fun _ => ⟨W, h.2.1 hN, rfl⟩, fun hl => ?_⟩⟩
  · rw [getD_set_eq hls] at hl; cases hl
  · rw [getD_set_other hne, hN2] at hl; cases hl
theorem RT2.store2 (h : RT2 Q W0 s1 s2 f1 f2 val L W) (hQ : Still Q) (hq : Q s2 v (f2 W)) (hne : s1 ≠ s2) (hls : s2 < L.size) (hl1 : L.getD s1 false = true) (hN2 : L.getD s2 false = false) : RT2 Q W0 s1 s2 f1 f2 (upd val s2 v) (L.setIfInBounds s2 true) (f2 W) := by
  obtain ⟨y, hy, e⟩ := (h.2.2 hl1).1 hN2
  refine ⟨h.vals hQ hq, fun hl => ?_, fun _ => ⟨fun hl => ?_, fun _ => ⟨y, hy, by rw [e]⟩⟩⟩
  · rw [getD_set_other (fun e => hne e.symm), hl1] at hl; cases hl
  · rw [getD_set_eq hls] at hl; cases hl
theorem RT2.aft (h : RT2 Q W0 s1 s2 f1 f2 val L W) (hQ : Still Q) (hq : Q i v W) (h1 : i ≠ s1) (h2 : i ≠ s2) : RT2 Q W0 s1 s2 f1 f2 (upd val i v) (L.setIfInBounds i true) W := by
  refine ⟨h.vals hQ hq, fun hl => h.2.1 (by rw [getD_set_other h1] at hl; exact hl), fun hl => ?_⟩
  rw [getD_set_other h1] at hl
  rw [getD_set_other h2]
  exact h.2.2 hl
variable {vals : List (Option Value)} {ex : Nat → Value → World → Prop}
theorem RT2.go (h : RT2 Q W0 s1 s2 f1 f2 val L W) (hQ : Still Q) (HQ : Hid (Q = QG vals ex)) (i : Nat) {x : Value} (hx : vals[i]? = some (some x)) (hs : i ≠ s1) (hN : L.getD s1 false = false) : ∀ v W', Below W.heap.size W W' → v = x → RT2 Q W0 s1 s2 f1 f2 (upd val i v) (L.setIfInBounds i true) W' :=
  fun _ _ hb e => h.step hQ hb (QG.put HQ hx e) hs hN
theorem RT2.goT (h : RT2 Q W0 s1 s2 f1 f2 val L W) (hQ : Still Q) {i : Nat} (hn : ∀ v W, Q i v W) (hs : i ≠ s1) (hN : L.getD s1 false = false) : ∀ v W', Below W.heap.size W W' → True → RT2 Q W0 s1 s2 f1 f2 (upd val i v) (L.setIfInBounds i true) W' :=
  fun v W' hb _ => h.step hQ hb (hn v W') hs hN
theorem RT2.goA (h : RT2 Q W0 s1 s2 f1 f2 val L W) (hQ : Still Q) (HQ : Hid (Q = QG vals ex)) (i : Nat) {x : Value} (hx : vals[i]? = some (some x)) (h1 : i ≠ s1) (h2 : i ≠ s2) : ∀ v, v = x → RT2 Q W0 s1 s2 f1 f2 (upd val i v) (L.setIfInBounds i true) W :=
  fun _ e => h.aft hQ (QG.put HQ hx e) h1 h2
end
theorem block_other {W : World} {q g o : Nat} {v : Value} {x : Obj} (h : W.heap[q]? = some x) (hn : q ≠ g) : (W.setCell ⟨g, o, none⟩ v).heap[q]? = some x :=
  (Below.heap_setCell _ _ _ _ hn).trans h
end Go.Proofs.Ytnnmmojlgikdgaa

/- last: the displacement behind all gusts. -/
namespace Go.Proofs.Ytnnmmojlgikdgaa
open Go.RowKit

def laN (N D d a v : Int) (G : List Int) : (Int × Int) × Bool :=
  if G = [] then ((a, 1), true) else if swE N D d a v G = 0 then (lowN (swK N D d a v G G.length).1 (swK N D d a v G G.length).2.2, true) else ((0, 0), false)
/-- The boxes of last. -/
structure LW (N D d a v : Int) (w W : World) : Prop where
  s : W.heap[w.heap.size]? = some (.cells #[.int .i64 N, .int .i64 D, .int .i64 d] 23 (0, 0))
  x : W.heap[w.heap.size + 1]? = some (.cells #[.int .i64 a, .int .i64 v] 24 (0, 0))
  r1 : W.heap[w.heap.size + 1 + 1]? = some (.cells #[.int .i64 0, .int .i64 0] 24 (0, 0))
  b : Below w.heap.size w W
section
variable {N D d a v : Int} {w W W' : World}
theorem LW.next (h : LW N D d a v w W) (hb : Below W.heap.size W W') : LW N D d a v w W' :=
  ⟨(hb.block _ (lt_of_block h.s)).trans h.s, (hb.block _ (lt_of_block h.x)).trans h.x, (hb.block _ (lt_of_block h.r1)).trans h.r1, h.b.trans (hb.mono h.b.size)⟩
theorem LW.start : LW N D d a v w (((w.alloc (.cells #[.int .i64 N, .int .i64 D, .int .i64 d] 23)).alloc (.cells #[.int .i64 a, .int .i64 v] 24)).alloc (.cells #[.int .i64 0, .int .i64 0] 24)) :=
  ⟨blk_old _ (blk_old _ (blk_new _ _ _ rfl)), blk_old _ (blk_new _ _ _ (by simp)), blk_new _ _ _ (by simp), by go_grown⟩
theorem LW.put (h : LW N D d a v w W) (p q : Value) : ∀ y, (W.setCell ⟨w.heap.size + 1 + 1, 0, none⟩ p).setCell ⟨w.heap.size + 1 + 1, 1, none⟩ q = y →
    y.heap[w.heap.size + 1 + 1]? = some (.cells #[p, q] 24 (0, 0)) ∧ Below w.heap.size w y := fun y hy => by
  refine ⟨?_, ?_⟩
  · rw [← hy]; exact block_setCell (o := 1) q (block_setCell (o := 0) p h.r1)
  · rw [← hy]; exact (h.b.setCell (p := ⟨w.heap.size + 1 + 1, 0, none⟩) (show w.heap.size ≤ w.heap.size + 1 + 1 by omega) _).setCell (p := ⟨w.heap.size + 1 + 1, 1, none⟩) (show w.heap.size ≤ w.heap.size + 1 + 1 by omega) _
end

set_option maxRecDepth 100000 in
set_option maxHeartbeats 1000000 in
theorem last_any7 (N D d a v : Int) (R : Option Addr) (n c B : Nat) (G : List Int) (w : World) (hl : G.length = n) (hn : n ≤ maxLen) (hB : B ≤ w.heap.size) (hr : RI w B R G) :
    Calls Try.prog 43 #[.agg #[.int .i64 N, .int .i64 D, .int .i64 d], .agg #[.int .i64 a, .int .i64 v], .slice R n c] w fun e w' => e = .returned (.tuple #[.agg #[.int .i64 (laN N D d a v G).1.1, .int .i64 (laN N D d a v G).1.2], .bool (laN N D d a v G).2]) ∧ Below w.heap.size w w' := by
  have HA0 := Lib.hid (LW.start (N := N) (D := D) (d := d) (a := a) (v := v) (w := w))
  have HSW := Lib.hid (fun (W : World) (hW : Below w.heap.size w W) => swingT_any N D d a v R n c w.heap.size G W hl hn hW.size ((hr.more hB).below hW))
  unfold maxLen at hn
  unfold laN
  by_cases h0 : G = []
  · rw [if_pos h0]
    subst h0
    obtain rfl : n = 0 := by simpa using hl.symm
    clear hl hr HSW
    go_enter Try.func43, Try.ntmps43
    go_upto_region 1 with (fail)
    generalize World.alloc _ _ = w1 at *
    have s0 := cellOf (o := 0) HA0.out.x rfl
    have k0 := cellOf (o := 0) HA0.out.r1 rfl
    have k1 := cellOf (o := 1) HA0.out.r1 rfl
    have f0 := freeOf (o := 0) HA0.out.r1
    have f1 := freeOf (o := 1) HA0.out.r1
    have l0 := lt_of_block HA0.out.r1
    have l1 := lt_of_block HA0.out.x
    go_wp2
    have hput := HA0.out.put (.int .i64 a) (.int .i64 1) _ rfl
    clear s0 k0 k1 f0 f1 l0 l1
    generalize (World.setCell w1 _ _).setCell _ _ = w9 at *
    obtain ⟨bk1, hb9⟩ := hput
    have d0 := cellOf (o := 0) bk1 rfl
    have d1 := cellOf (o := 1) bk1 rfl
    exact bodyPost_ret (v := .tuple #[.agg #[.int .i64 a, .int .i64 1], .bool true]) (by simp [results, Try.results43, go_sem, d0, d1]) rfl ⟨rfl, hb9⟩
  · rw [if_neg h0]
    obtain ⟨k, hk⟩ : ∃ k, G.length = k + 1 := by
      cases G with
      | nil => exact absurd rfl h0
      | cons x l => exact ⟨l.length, rfl⟩
    obtain rfl : n = k + 1 := by omega
    by_cases he : swE N D d a v G = 0
    · rw [if_pos he]
      have hsw : swA N D d a v G = (swRow N D d a v G, 0) := by unfold swA swN; rw [he, if_pos rfl]
      rw [hsw] at HSW
      unfold GivesCe at HSW
      have hrl : (swRow N D d a v G).length = k + 1 := by simp [swRow, hk]
      have hgt : (swRow N D d a v G)[k]? = some (lowN (swK N D d a v G (k + 1)).1 (swK N D d a v G (k + 1)).2.2) := by
        unfold swRow
        rw [List.getElem?_map, List.getElem?_range (by omega)]
        rfl
      rw [hk]
      have hsl : slB N D d = true := by
        cases hs : slB N D d with
        | true => rfl
        | false => unfold swE at he; rw [hs] at he; simp at he
      have hden : 1 ≤ (swK N D d a v G (k + 1)).2.2 := by
        rw [swK_den (by omega)]
        obtain ⟨⟨d1, d2⟩, _, _⟩ := slB_get hsl
        exact (powI_bd d1 d2 _).1
      have hd1 := (low_den (n := (swK N D d a v G (k + 1)).1) hden).1
      generalize swRow N D d a v G = S at *
      generalize lowN (swK N D d a v G (k + 1)).1 (swK N D d a v G (k + 1)).2.2 = p at *
      obtain ⟨p0, p1⟩ := p
      simp only at hd1 ⊢
      have HFR := Lib.hid (fun W => by have := jfraction_any p0 p1 W; rw [decide_eq_true (show 0 < p1 by omega)] at this; exact this)
      have HGT := Lib.hid hgt
      have HRL := Lib.hid hrl
      have i1 : IntKind.i64.wrap (k : Int) = (k : Int) := IntWalk.i64_in _ (by omega)
      clear hl hr he hsw hgt hrl hden hd1 hsl h0 hk
      go_enter Try.func43, Try.ntmps43
      go_upto_region 1 with (fail)
      generalize World.alloc _ _ = w1 at *
      have s0 := cellOf (o := 0) HA0.out.s rfl
      have s1 := cellOf (o := 1) HA0.out.s rfl
      have s2 := cellOf (o := 2) HA0.out.s rfl
      have x0 := cellOf (o := 0) HA0.out.x rfl
      have x1 := cellOf (o := 1) HA0.out.x rfl
      have l0 := lt_of_block HA0.out.s
      have l1 := lt_of_block HA0.out.x
      go_upto_region 4 with (go_at_call 17; refine Calls.mono (HSW.out _ HA0.out.b) ?_; rintro e w2 ⟨u, rfl, hq, hb2⟩; have HA2 := Lib.hid (HA0.out.next hb2); clear hb2 s0 s1 s2 x0 x1 l0 l1; obtain ⟨A2, c2, rfl, hr2⟩ := hq; have HR2 := Lib.hid hr2; clear hr2)
      obtain ⟨bb, off, pp, rfl, hbb, hpp, hc0, hc1⟩ := HR2.out.at_ (k := k) (by rw [HRL.out]; omega)
      rw [HGT.out] at hpp
      cases hpp
      simp only at hc0 hc1
      have hrl := HRL.out
      rw [hrl]
      have i2 : (k : Int) < (k : Int) + 1 := by omega
      have l3 := World.block_lt_of_cell? _ _ hc0
      clear hbb hrl
      go_upto_region 6 with (go_at_call 41; refine Calls.mono (HFR.out _) ?_; rintro e w3 ⟨rfl, hb3⟩; have HA3 := Lib.hid (HA2.out.next hb3); have HC0 := Lib.hid (cell_keep hb3 hc0); have HC1 := Lib.hid (cell_keep hb3 hc1); clear hb3 hc0 hc1 l3)
      have hc0 := HC0.out
      have hc1 := HC1.out
      have k0 := cellOf (o := 0) HA3.out.r1 rfl
      have k1 := cellOf (o := 1) HA3.out.r1 rfl
      have f0 := freeOf (o := 0) HA3.out.r1
      have f1 := freeOf (o := 1) HA3.out.r1
      have l0 := lt_of_block HA3.out.r1
      have l3 := World.block_lt_of_cell? _ _ hc0
      go_wp2
      have hput := HA3.out.put (.int .i64 p0) (.int .i64 p1) _ rfl
      clear hc0 hc1 k0 k1 f0 f1 l0 l3
      generalize (World.setCell w3 _ _).setCell _ _ = w9 at *
      obtain ⟨bk1, hb9⟩ := hput
      have d0 := cellOf (o := 0) bk1 rfl
      have d1 := cellOf (o := 1) bk1 rfl
      exact bodyPost_ret (v := .tuple #[.agg #[.int .i64 p0, .int .i64 p1], .bool true]) (by simp [results, Try.results43, go_sem, d0, d1]) rfl ⟨rfl, hb9⟩
    · rw [if_neg he]
      have hsw : swA N D d a v G = ([], swE N D d a v G) := by unfold swA swN; rw [if_neg he]
      rw [hsw] at HSW
      unfold GivesCe at HSW
      have he' : (swE N D d a v G != 0) = true := by rw [bne_iff_ne]; exact he
      generalize swE N D d a v G = E at *
      clear hl hr he hsw h0 hk
      go_enter Try.func43, Try.ntmps43
      go_upto_region 1 with (fail)
      generalize World.alloc _ _ = w1 at *
      have s0 := cellOf (o := 0) HA0.out.s rfl
      have s1 := cellOf (o := 1) HA0.out.s rfl
      have s2 := cellOf (o := 2) HA0.out.s rfl
      have x0 := cellOf (o := 0) HA0.out.x rfl
      have x1 := cellOf (o := 1) HA0.out.x rfl
      have l0 := lt_of_block HA0.out.s
      have l1 := lt_of_block HA0.out.x
      go_upto_region 5 with (go_at_call 17; refine Calls.mono (HSW.out _ HA0.out.b) ?_; rintro e w3 ⟨u, rfl, hq, hb2⟩; have HA3 := Lib.hid (HA0.out.next hb2); clear hq hb2 s0 s1 s2 x0 x1 l0 l1)
      have k0 := cellOf (o := 0) HA3.out.r1 rfl
      have k1 := cellOf (o := 1) HA3.out.r1 rfl
      have f0 := freeOf (o := 0) HA3.out.r1
      have f1 := freeOf (o := 1) HA3.out.r1
      have l0 := lt_of_block HA3.out.r1
      go_wp2
      have hput := HA3.out.put (.int .i64 0) (.int .i64 0) _ rfl
      clear k0 k1 f0 f1 l0
      generalize (World.setCell w3 _ _).setCell _ _ = w9 at *
      obtain ⟨bk1, hb9⟩ := hput
      have d0 := cellOf (o := 0) bk1 rfl
      have d1 := cellOf (o := 1) bk1 rfl
      exact bodyPost_ret (v := .tuple #[.agg #[.int .i64 0, .int .i64 0], .bool false]) (by simp [results, Try.results43, go_sem, d0, d1]) rfl ⟨rfl, hb9⟩
end Go.Proofs.Ytnnmmojlgikdgaa

/- Plain mathematics: what each number of a swing does to the displacement; ends. -/
namespace Go.Proofs.Ytnnmmojlgikdgaa

def dotL : List Int → List Int → Int
  | a :: s, b :: t => b * a + dotL s t
  | _, _ => 0
theorem dotL_nil (t : List Int) : dotL [] t = 0 := by cases t <;> rfl
theorem dotL_nil2 (t : List Int) : dotL t [] = 0 := by cases t <;> rfl
theorem dotL_map (d : Int) : ∀ s t : List Int, dotL s (t.map (d * ·)) = d * dotL s t
  | [], t => by rw [dotL_nil, dotL_nil]; simp
  | a :: s, [] => by simp [dotL]
  | a :: s, b :: t => by
    show d * b * a + dotL s (t.map (d * ·)) = d * (b * a + dotL s t)
    rw [dotL_map d s t]
    grind
/-- The effects of gusts. -/
def gcL (N D d : Int) : Nat → List Int
  | 0 => []
  | k + 1 => (d * ((abK N D d (1, 0) k).1 + (abK N D d (1, 0) k).2)) :: (gcL N D d k).map (d * ·)
theorem gcL_len (N D d : Int) : ∀ k, (gcL N D d k).length = k
  | 0 => rfl
  | k + 1 => by simp [gcL, gcL_len N D d k]
theorem gsK_dot (N D d : Int) : ∀ G : List Int, gsK N D d (1, 0) G = dotL G (gcL N D d G.length)
  | [] => rfl
  | g :: G => by
    show g * d * ((abK N D d (1, 0) G.length).1 + (abK N D d (1, 0) G.length).2) + d * gsK N D d (1, 0) G = d * ((abK N D d (1, 0) G.length).1 + (abK N D d (1, 0) G.length).2) * g + dotL G ((gcL N D d G.length).map (d * ·))
    rw [dotL_map, gsK_dot N D d G]
    grind
/-- The effects of all numbers: the displacement and the speed at the start, and the gusts. -/
def efL (N D d : Int) (k : Nat) : List Int := (abK N D d (1, 0) k).1 :: (abK N D d (1, 0) k).2 :: gcL N D d k
theorem efL_len (N D d : Int) (k : Nat) : (efL N D d k).length = k + 2 := by simp [efL, gcL_len]
theorem sw_dot (N D d a v : Int) (G : List Int) : (swK N D d a v G G.length).1 = dotL (a :: v :: G) (efL N D d G.length) := by
  have h := (sw_lin N D d G (a, v, 1)).1
  unfold swK
  rw [List.take_length, h, gsK_dot]
  show a * _ + v * _ + 1 * _ = (abK N D d (1, 0) G.length).1 * a + ((abK N D d (1, 0) G.length).2 * v + _)
  grind
/-- A one among zeros. -/
def oneL (n i : Nat) : List Int := (List.replicate n (0 : Int)).set i 1
theorem oneL_len (n i : Nat) : (oneL n i).length = n := by simp [oneL]
theorem dotL_zero : ∀ (n : Nat) (t : List Int), dotL (List.replicate n 0) t = 0
  | 0, t => dotL_nil t
  | n + 1, [] => dotL_nil2 _
  | n + 1, b :: t => by
    show b * 0 + dotL (List.replicate n 0) t = 0
    rw [dotL_zero n t]; omega
theorem dotL_un : ∀ (n i : Nat) (t : List Int) (e : Int), i < n → t[i]? = some e → dotL (oneL n i) t = e
  | 0, _, _, _, h, _ => absurd h (by omega)
  | n + 1, _, [], _, _, h => by simp at h
  | n + 1, 0, b :: t, e, _, h => by
    show b * 1 + dotL (List.replicate n 0) t = e
    rw [dotL_zero]
    simp at h
    omega
  | n + 1, i + 1, b :: t, e, hi, h => by
    show b * 0 + dotL (oneL n i) t = e
    rw [dotL_un n i t e (by omega) (by simpa using h)]
    omega
/-- Numbers that may be those of a start and gusts. -/
def numB (x : List Int) : Bool := staB (gz x 0) (gz x 1) && wB (-100) 100 (x.drop 2)
theorem dot_bd {N D d : Int} (hsl : slB N D d = true) : ∀ {x : List Int} {k : Nat}, x.length = k + 2 → k ≤ 16 → numB x = true → -1125899906842624 ≤ dotL x (efL N D d k) ∧ dotL x (efL N D d k) ≤ 1125899906842624
  | a :: v :: G, k, h, hk, hn => by
    simp at h
    subst h
    unfold numB at hn
    simp only [Bool.and_eq_true] at hn
    have h1 : staB a v = true := hn.1
    have h2 : wB (-100) 100 G = true := hn.2
    have := (swB_all hsl h1 h2 hk G.length (Nat.le_refl _)).1
    rw [sw_dot] at this
    exact this
  | [], _, h, _, _ => by simp at h
  | [_], _, h, _, _ => by simp at h
/-- The first numbers alone. -/
def cutL (x : List Int) (m : Nat) : List Int := x.take m ++ List.replicate (x.length - m) 0
theorem cutL_len (x : List Int) (m : Nat) : (cutL x m).length = x.length := by simp [cutL]; omega
theorem dot_cut : ∀ (x t : List Int) (m : Nat), dotL (cutL x m) t = dotL (x.take m) t
  | [], t, m => by simp [cutL]
  | a :: x, t, 0 => by
    show dotL ([] ++ List.replicate _ 0) t = dotL [] t
    rw [List.nil_append, dotL_zero, dotL_nil]
  | a :: x, [], m + 1 => by rw [dotL_nil2, dotL_nil2]
  | a :: x, b :: t, m + 1 => by
    have e : cutL (a :: x) (m + 1) = a :: cutL x m := by simp [cutL]
    rw [e]
    show b * a + dotL (cutL x m) t = b * a + dotL (x.take m) t
    rw [dot_cut x t m]
theorem dot_more : ∀ (x t : List Int) (m : Nat) (a b : Int), x[m]? = some a → t[m]? = some b → dotL (x.take (m + 1)) t = dotL (x.take m) t + b * a
  | [], _, _, _, _, h, _ => by simp at h
  | _ :: _, [], _, _, _, _, h => by simp at h
  | a' :: x, b' :: t, 0, a, b, h1, h2 => by
    simp at h1 h2
    subst h1 h2
    show b' * a' + dotL [] t = dotL [] (b' :: t) + b' * a'
    rw [dotL_nil, dotL_nil]
    omega
  | a' :: x, b' :: t, m + 1, a, b, h1, h2 => by
    have := dot_more x t m a b (by simpa using h1) (by simpa using h2)
    show b' * a' + dotL (x.take (m + 1)) t = b' * a' + dotL (x.take m) t + b * a
    omega
theorem numB_cut {x : List Int} (h : numB x = true) (m : Nat) : numB (cutL x m) = true := by
  have g : ∀ j : Nat, gz (cutL x m) j = if j < m then gz x j else 0 := by
    intro j
    unfold cutL gz
    rw [List.getElem?_append]
    split
    · rename_i h1
      have : j < m := by simp at h1; omega
      rw [if_pos this, List.getElem?_take, if_pos this]
    · rename_i h1
      rw [List.getElem?_replicate]
      by_cases hj : j < m
      · have h2 : x.length ≤ j := by simp at h1; omega
        rw [if_pos hj, if_neg (by simp; omega), List.getElem?_eq_none h2]
      · rw [if_neg hj]
        split <;> rfl
  unfold numB staB wB at h ⊢
  simp only [Bool.and_eq_true, List.all_cons, List.all_nil, Bool.and_true, decide_eq_true_eq, List.all_eq_true] at h ⊢
  obtain ⟨⟨h1, h2⟩, h3⟩ := h
  refine ⟨⟨?_, ?_⟩, fun z hz => ?_⟩
  · rw [g]; split <;> omega
  · rw [g]; split <;> omega
  · obtain ⟨j, hj⟩ := List.mem_iff_getElem?.1 hz
    rw [List.getElem?_drop] at hj
    have e : gz (cutL x m) (2 + j) = z := by unfold gz; rw [hj]; rfl
    rw [g] at e
    by_cases hm : 2 + j < m
    · rw [if_pos hm] at e
      by_cases hx : 2 + j < x.length
      · refine h3 z ?_
        refine List.mem_iff_getElem?.2 ⟨j, ?_⟩
        rw [List.getElem?_drop, List.getElem?_eq_getElem hx]
        rw [← e]
        unfold gz
        rw [List.getElem?_eq_getElem hx]
        rfl
      · have : gz x (2 + j) = 0 := by unfold gz; rw [List.getElem?_eq_none (by omega)]; rfl
        omega
    · rw [if_neg hm] at e
      omega
end Go.Proofs.Ytnnmmojlgikdgaa

/- Plain mathematics: a one among zeros, swung. -/
namespace Go.Proofs.Ytnnmmojlgikdgaa

theorem oneL_get (n i j : Nat) (hj : j < n) : (oneL n i)[j]? = some (if i = j then 1 else 0) := by
  unfold oneL
  rw [List.getElem?_set]
  split
  · rename_i h; subst h; simp [hj]
  · rename_i h; rw [List.getElem?_replicate]; simp [hj]
theorem oneL_gz (n i j : Nat) (hj : j < n) : gz (oneL n i) j = if i = j then 1 else 0 := by unfold gz; rw [oneL_get n i j hj]; rfl
theorem oneL_mem {n i : Nat} {x : Int} (h : x ∈ oneL n i) : 0 ≤ x ∧ x ≤ 1 := by
  obtain ⟨j, hj⟩ := List.mem_iff_getElem?.1 h
  have hl := (List.getElem?_eq_some_iff.1 hj).1
  rw [oneL_len] at hl
  rw [oneL_get n i j hl] at hj
  cases hj
  split <;> omega
theorem wB_of {lo hi : Int} {l : List Int} (h : ∀ x ∈ l, lo ≤ x ∧ x ≤ hi) : wB lo hi l = true := by
  unfold wB
  rw [List.all_eq_true]
  intro x hx
  have := h x hx
  simp
  omega
theorem oneL_wB (n i : Nat) : wB (-100) 100 ((oneL n i).drop 2) = true := wB_of fun x hx => by have := oneL_mem (List.mem_of_mem_drop hx); omega
theorem gz_mem {l : List Int} {j : Nat} (h : j < l.length) : gz l j ∈ l := by unfold gz; rw [List.getElem?_eq_getElem h]; exact List.getElem_mem h
theorem oneL_sta (k i : Nat) : staB (gz (oneL (k + 2) i) 0) (gz (oneL (k + 2) i) 1) = true := by
  unfold staB
  refine wB_of fun x hx => ?_
  have : x ∈ oneL (k + 2) i := by
    simp at hx
    rcases hx with rfl | rfl
    · exact gz_mem (by rw [oneL_len]; omega)
    · exact gz_mem (by rw [oneL_len]; omega)
  have := oneL_mem this
  omega
theorem cons2_drop {l : List Int} (h : 2 ≤ l.length) : gz l 0 :: gz l 1 :: l.drop 2 = l := by
  match l, h with
  | a :: b :: t, _ => rfl
  | [_], h => simp at h
  | [], h => simp at h
theorem sw_dot2 (N D d : Int) {x : List Int} {k : Nat} (h : x.length = k + 2) : (swK N D d (gz x 0) (gz x 1) (x.drop 2) k).1 = dotL x (efL N D d k) := by
  have e : (x.drop 2).length = k := by simp [h]
  have := sw_dot N D d (gz x 0) (gz x 1) (x.drop 2)
  rw [e, cons2_drop (by omega)] at this
  exact this
theorem eff_one (N D d : Int) {k i : Nat} (hi : i < k + 2) : (swK N D d (gz (oneL (k + 2) i) 0) (gz (oneL (k + 2) i) 1) ((oneL (k + 2) i).drop 2) k).1 = gz (efL N D d k) i := by
  rw [sw_dot2 N D d (oneL_len _ _)]
  have hl : i < (efL N D d k).length := by rw [efL_len]; exact hi
  unfold gz
  rw [List.getElem?_eq_getElem hl]
  exact dotL_un _ _ _ _ hi (List.getElem?_eq_getElem hl)
theorem take_more {l : List Int} {i : Nat} (h : i < l.length) : l.take i ++ [gz l i] = l.take (i + 1) := by
  rw [List.take_add_one, List.getElem?_eq_getElem h]
  unfold gz
  rw [List.getElem?_eq_getElem h]
  rfl
end Go.Proofs.Ytnnmmojlgikdgaa

/- Plain mathematics: a swing is linear. -/
namespace Go.Proofs.Ytnnmmojlgikdgaa
open Go.RowKit

theorem swS_add (N D d g h : Int) (s t : Int × Int × Int) (hq : s.2.2 = t.2.2) : swS N D d (s.1 + t.1, s.2.1 + t.2.1, s.2.2) (g + h) = ((swS N D d s g).1 + (swS N D d t h).1, (swS N D d s g).2.1 + (swS N D d t h).2.1, (swS N D d s g).2.2) := by
  obtain ⟨a, v, q⟩ := s
  obtain ⟨a', v', q'⟩ := t
  simp only at hq
  subst hq
  unfold swS
  simp only [Prod.mk.injEq]
  refine ⟨by grind, by grind, trivial⟩
theorem swS_neg (N D d g : Int) (s : Int × Int × Int) : swS N D d (-s.1, -s.2.1, s.2.2) (-g) = (-(swS N D d s g).1, -(swS N D d s g).2.1, (swS N D d s g).2.2) := by
  obtain ⟨a, v, q⟩ := s
  unfold swS
  simp only [Prod.mk.injEq]
  refine ⟨by grind, by grind, trivial⟩
theorem swK_add (N D d a v a' v' : Int) (G H : List Int) (hl : G.length = H.length) : ∀ k, k ≤ G.length → swK N D d (a + a') (v + v') (List.zipWith (· + ·) G H) k = ((swK N D d a v G k).1 + (swK N D d a' v' H k).1, (swK N D d a v G k).2.1 + (swK N D d a' v' H k).2.1, (swK N D d a v G k).2.2)
  | 0, _ => rfl
  | k + 1, hk => by
    have hg := List.getElem?_eq_getElem (l := G) (i := k) (by omega)
    have hh := List.getElem?_eq_getElem (l := H) (i := k) (by omega)
    have hz : (List.zipWith (· + ·) G H)[k]? = some (G[k] + H[k]) := by rw [List.getElem?_zipWith, hg, hh]
    rw [swK_succ hz, swK_succ hg, swK_succ hh, swK_add N D d a v a' v' G H hl k (by omega)]
    exact swS_add N D d _ _ _ _ (by rw [swK_den (by omega), swK_den (by omega)])
theorem swK_neg (N D d a v : Int) (G : List Int) : ∀ k, k ≤ G.length → swK N D d (-a) (-v) (G.map (- ·)) k = (-(swK N D d a v G k).1, -(swK N D d a v G k).2.1, (swK N D d a v G k).2.2)
  | 0, _ => rfl
  | k + 1, hk => by
    have hg := List.getElem?_eq_getElem (l := G) (i := k) (by omega)
    have hz : (G.map (- ·))[k]? = some (-G[k]) := by rw [List.getElem?_map, hg]; rfl
    rw [swK_succ hz, swK_succ hg, swK_neg N D d a v G k (by omega)]
    exact swS_neg N D d _ _
theorem low_neg (n q : Int) : lowN (-n) q = (-(lowN n q).1, (lowN n q).2) := by
  have h : gcI (-n) q = gcI n q := by unfold gcI; rw [Int.neg_gcd]
  unfold lowN
  rw [h, Int.neg_tdiv]
theorem low_back {n q : Int} (hq : 1 ≤ q) : (lowN n q).1 * (q / (lowN n q).2) = n ∧ q % (lowN n q).2 = 0 := by
  have hg := gcI_pos (a := n) hq
  have hd := (low_den (n := n) hq).1
  obtain ⟨x, hx⟩ : gcI n q ∣ n := Int.gcd_dvd_left n q
  obtain ⟨y, hy⟩ : gcI n q ∣ q := Int.gcd_dvd_right n q
  have e1 : (lowN n q).1 = x := by
    show n.tdiv (gcI n q) = x
    generalize gcI n q = g at *
    rw [hx]
    exact Int.mul_tdiv_cancel_left _ (by omega)
  have e2 : (lowN n q).2 = y := by
    show q / gcI n q = y
    generalize gcI n q = g at *
    rw [hy]
    exact Int.mul_ediv_cancel_left _ (by omega)
  rw [e2] at hd
  rw [e1, e2]
  generalize gcI n q = g at *
  rw [hx, hy]
  refine ⟨?_, Int.mul_emod_left g y⟩
  rw [Int.mul_ediv_cancel _ (by omega), Int.mul_comm]
/-- Both sums, or the opposite numbers, as the program has them. -/
def bthL (G H : List Int) : List Int := List.zipWith (fun g h => IntKind.i64.wrap (g + h)) G H
def mnsL (G : List Int) : List Int := G.map fun g => IntKind.i64.wrap (-g)
theorem bth_len {G H : List Int} (h : G.length = H.length) : (bthL G H).length = G.length := by simp [bthL, h]
theorem mns_len (G : List Int) : (mnsL G).length = G.length := by simp [mnsL]
theorem bth_more {G H : List Int} {i : Nat} {g h : Int} (hg : G[i]? = some g) (hh : H[i]? = some h) : (bthL G H).take i ++ [IntKind.i64.wrap (g + h)] = (bthL G H).take (i + 1) := by
  rw [List.take_add_one]
  unfold bthL
  rw [List.getElem?_zipWith, hg, hh]
  rfl
theorem mns_more {G : List Int} {i : Nat} {g : Int} (hg : G[i]? = some g) : (mnsL G).take i ++ [IntKind.i64.wrap (-g)] = (mnsL G).take (i + 1) := by
  rw [List.take_add_one]
  unfold mnsL
  rw [List.getElem?_map, hg]
  rfl
theorem sw_good {N D d a v : Int} {G : List Int} (h : swE N D d a v G = 0) : slB N D d = true ∧ G.length ≤ 16 ∧ staB a v = true ∧ wB (-100) 100 G = true := by
  unfold swE at h
  cases h1 : slB N D d <;> rw [h1] at h
  · simp at h
  by_cases h2 : 16 < G.length
  · simp [h2] at h
  cases h3 : staB a v <;> rw [h3] at h
  · simp [h2] at h
  cases h4 : wB (-100) 100 G <;> rw [h4] at h
  · simp [h2] at h
  exact ⟨rfl, by omega, rfl, rfl⟩
theorem wB_get {lo hi x : Int} {G : List Int} {i : Nat} (h : wB lo hi G = true) (hx : G[i]? = some x) : lo ≤ x ∧ x ≤ hi := by
  unfold wB at h
  simp only [List.all_eq_true, Bool.and_eq_true, decide_eq_true_eq] at h
  exact h x (List.mem_of_getElem? hx)
theorem mns_eq {G : List Int} (h : wB (-100) 100 G = true) : mnsL G = G.map (- ·) := by
  unfold mnsL
  refine List.map_congr_left fun x hx => ?_
  obtain ⟨i, hi⟩ := List.mem_iff_getElem?.1 hx
  have := wB_get h hi
  exact IntWalk.i64_in _ (by omega)
theorem bth_eq {G H : List Int} (h : wB (-100) 100 G = true) (h' : wB (-100) 100 H = true) : bthL G H = List.zipWith (· + ·) G H := by
  unfold bthL
  refine List.ext_getElem? fun i => ?_
  rw [List.getElem?_zipWith, List.getElem?_zipWith]
  cases hg : G[i]? with
  | none => rfl
  | some g =>
    cases hh : H[i]? with
    | none => rfl
    | some h9 =>
      have a := wB_get h hg
      have b := wB_get h' hh
      simp only
      rw [IntWalk.i64_in _ (by omega)]
theorem swRow_get {N D d a v : Int} {G : List Int} {k : Nat} (hk : k < G.length) : (swRow N D d a v G)[k]? = some (lowN (swK N D d a v G (k + 1)).1 (powI d (k + 1))) := by
  unfold swRow
  rw [List.getElem?_map, List.getElem?_range hk]
  show some (lowN (swK N D d a v G (k + 1)).1 (swK N D d a v G (k + 1)).2.2) = _
  rw [swK_den (by omega)]
/-- What the law asks of one tick. -/
structure LT (d : Int) (t : Nat) (a b e : Int × Int) (X Y : Int) : Prop where
  a2 : 1 ≤ a.2 ∧ a.2 ≤ 4294967296
  b2 : 1 ≤ b.2 ∧ b.2 ≤ 4294967296
  am : powI d (t + 1) % a.2 = 0
  bm : powI d (t + 1) % b.2 = 0
  ax : a.1 * (powI d (t + 1) / a.2) = X
  bx : b.1 * (powI d (t + 1) / b.2) = Y
  e1 : e.1 = -a.1
  e2 : e.2 = a.2
  a1 : -1125899906842624 ≤ a.1 ∧ a.1 ≤ 1125899906842624
  xb : -1125899906842624 ≤ X ∧ X ≤ 1125899906842624
  yb : -1125899906842624 ≤ Y ∧ Y ≤ 1125899906842624
theorem swK_bd {N D d a v : Int} {G : List Int} (h : swE N D d a v G = 0) {k : Nat} (hk : k ≤ G.length) : -1125899906842624 ≤ (swK N D d a v G k).1 ∧ (swK N D d a v G k).1 ≤ 1125899906842624 := by
  obtain ⟨hs, hl, hst, hw⟩ := sw_good h
  have htk : (G.take k).length = k := by simp; omega
  have hsw := sw_dot N D d a v (G.take k)
  rw [htk] at hsw
  have e : swK N D d a v (G.take k) k = swK N D d a v G k := by unfold swK; rw [List.take_take, Nat.min_self]
  rw [e] at hsw
  rw [hsw]
  exact dot_bd hs (x := a :: v :: G.take k) (k := k) (by simp; omega) (by omega) (by unfold numB; show (staB a v && wB (-100) 100 (G.take k)) = true; rw [hst, wB_take hw k]; rfl)
theorem lin_facts {N D d xa xv ya yv : Int} {G H : List Int} (hl : G.length = H.length) (hx : swE N D d xa xv G = 0) (hy : swE N D d ya yv H = 0) :
    swA N D d (IntKind.i64.wrap (-xa)) (IntKind.i64.wrap (-xv)) (mnsL G) = (swRow N D d (-xa) (-xv) (mnsL G), 0) ∧
    (∀ t, t < G.length → ∃ a b e X Y, (swRow N D d xa xv G)[t]? = some a ∧ (swRow N D d ya yv H)[t]? = some b ∧ (swRow N D d (-xa) (-xv) (mnsL G))[t]? = some e ∧ LT d t a b e X Y ∧
      (swE N D d (IntKind.i64.wrap (xa + ya)) (IntKind.i64.wrap (xv + yv)) (bthL G H) = 0 → ∃ c, (swRow N D d (IntKind.i64.wrap (xa + ya)) (IntKind.i64.wrap (xv + yv)) (bthL G H))[t]? = some c ∧ (1 ≤ c.2 ∧ c.2 ≤ 4294967296) ∧ powI d (t + 1) % c.2 = 0 ∧ c.1 * (powI d (t + 1) / c.2) = X + Y ∧ (-1125899906842624 ≤ c.1 ∧ c.1 ≤ 1125899906842624))) := by
  obtain ⟨hs, hlG, hst, hw⟩ := sw_good hx
  obtain ⟨_, _, hst', hw'⟩ := sw_good hy
  obtain ⟨⟨s1, s2⟩, s3, s4⟩ := staB_get hst
  obtain ⟨⟨s1', s2'⟩, s3', s4'⟩ := staB_get hst'
  obtain ⟨⟨d1, d2⟩, _, _⟩ := slB_get hs
  have w1 : IntKind.i64.wrap (-xa) = -xa := IntWalk.i64_in _ (by omega)
  have w2 : IntKind.i64.wrap (-xv) = -xv := IntWalk.i64_in _ (by omega)
  have w3 : IntKind.i64.wrap (xa + ya) = xa + ya := IntWalk.i64_in _ (by omega)
  have w4 : IntKind.i64.wrap (xv + yv) = xv + yv := IntWalk.i64_in _ (by omega)
  have hm : swE N D d (-xa) (-xv) (mnsL G) = 0 := by
    have a1 : staB (-xa) (-xv) = true := by unfold staB wB; simp; omega
    have a2 : wB (-100) 100 (mnsL G) = true := by
      rw [mns_eq hw]
      refine wB_of fun x hx' => ?_
      obtain ⟨y, hy', rfl⟩ := List.mem_map.1 hx'
      obtain ⟨i, hi⟩ := List.mem_iff_getElem?.1 hy'
      have := wB_get hw hi
      omega
    unfold swE
    rw [hs, if_pos rfl, if_neg (by rw [mns_len]; omega), a1, if_pos rfl, a2, if_pos rfl]
  rw [w1, w2, w3, w4]
  refine ⟨by unfold swA swN; rw [hm, if_pos rfl], fun t ht => ?_⟩
  have hq := (powI_bd d1 d2 (t + 1)).1
  have hq2 := Int.le_trans ((powI_bd d1 d2 (t + 1)).2 (by omega)) (powI_4 (show t + 1 ≤ 16 by omega))
  have bx := swK_bd hx (k := t + 1) (by omega)
  have by_ := swK_bd hy (k := t + 1) (by omega)
  have la := low_den (n := (swK N D d xa xv G (t + 1)).1) hq
  have lb := low_den (n := (swK N D d ya yv H (t + 1)).1) hq
  have ka := low_back (n := (swK N D d xa xv G (t + 1)).1) hq
  have kb := low_back (n := (swK N D d ya yv H (t + 1)).1) hq
  have na := low_num (n := (swK N D d xa xv G (t + 1)).1) (M := 1125899906842624) hq bx.1 bx.2
  have ee : swK N D d (-xa) (-xv) (mnsL G) (t + 1) = (-(swK N D d xa xv G (t + 1)).1, -(swK N D d xa xv G (t + 1)).2.1, (swK N D d xa xv G (t + 1)).2.2) := by rw [mns_eq hw]; exact swK_neg N D d xa xv G (t + 1) (by omega)
  refine ⟨_, _, _, _, _, swRow_get ht, swRow_get (by omega), swRow_get (by rw [mns_len]; exact ht), ⟨⟨la.1, by omega⟩, ⟨lb.1, by omega⟩, ka.2, kb.2, ka.1, kb.1, by rw [ee, low_neg], by rw [ee, low_neg], na, bx, by_⟩, fun hg => ?_⟩
  have bz := swK_bd hg (k := t + 1) (by rw [bth_len hl]; omega)
  have lc := low_den (n := (swK N D d (xa + ya) (xv + yv) (bthL G H) (t + 1)).1) hq
  have kc := low_back (n := (swK N D d (xa + ya) (xv + yv) (bthL G H) (t + 1)).1) hq
  have nc := low_num (n := (swK N D d (xa + ya) (xv + yv) (bthL G H) (t + 1)).1) (M := 1125899906842624) hq bz.1 bz.2
  refine ⟨_, swRow_get (by rw [bth_len hl]; exact ht), ⟨lc.1, by omega⟩, kc.2, ?_, nc⟩
  rw [kc.1, bth_eq hw hw', swK_add N D d xa xv ya yv G H hl (t + 1) (by omega)]
end Go.Proofs.Ytnnmmojlgikdgaa

/- A drawn region with an append of one number to a list of the call's own, and reads of other blocks in any order with it. -/
namespace Go.Proofs.Ytnnmmojlgikdgaa
open Go.RowKit

/-- A slice of one number, in memory. -/
def OneI (y : Int) (v : Value) (W : World) : Prop := ∃ g, v = .slice (some ⟨g, 0, none⟩) 1 1 ∧ W.cell? ⟨g, 0, none⟩ = some (.int .i64 y)
theorem OneI.stay {y : Int} {v : Value} {W W' : World} (h : OneI y v W) (hb : Below W.heap.size W W') : OneI y v W' := by
  obtain ⟨g, e, h1⟩ := h
  exact ⟨g, e, cell_keep hb h1⟩
theorem OneI.new {y : Int} {W : World} {T : TypeId} {m : Nat × Nat} : OneI y (.slice (some ⟨W.heap.size, 0, none⟩) 1 1) (W.alloc (.cells #[.int .i64 y] T m)) :=
  ⟨_, rfl, by rw [cell_newest]; rfl⟩
theorem step_pushI {F : Fence} {n : Nat} {w : World} {o : Oper} {a : Act} {K : Act → World → Prop} {Q : Exit → Act → World → Prop} (s x : Operand)
    (hop : o.op = .call { callee := .builtin .append, args := #[s, x], argTypes := #[25, 25] }) (base : Nat) (v : Value) (xs : List Int) (hs : a.eval s = v) (hown : OI base v xs w)
    (vx : Value) (y : Int) (hx : a.eval x = vx) (hy : OneI y vx w) (hlen : xs.length ≤ 1000000) (hbase : base ≤ w.heap.size)
    (h : ∀ v' w', OI base v' (xs ++ [y]) w' → w.grownBy w' v.ownBlock → K (a.put o.dst v') w') : o.wpIn F n Try.prog a w K Q := by
  obtain ⟨g, rfl, h1⟩ := hy
  exact step_push s x hop base v xs hs hown g y hx h1 hlen hbase h

def RA (Q E : Nat → Value → World → Prop) (W0 : World) (s t : Nat) (u : Value) (P : Value → World → Prop) (val : Nat → Value) (L : Array Bool) (W : World) : Prop :=
  (∀ j, L.getD j false = true → j ≠ s → j ≠ t → Q j (val j) W) ∧
  (L.getD s false = false → Below W0.heap.size W0 W ∧ ∀ j, L.getD j false = true → E j (val j) W) ∧
  (L.getD s false = true → P (val s) W ∧ (L.getD t false = true → val t = val s) ∧ ∃ y, Below W0.heap.size W0 y ∧ y.grownBy W u.ownBlock)
section
variable {Q E : Nat → Value → World → Prop} {W0 W W' : World} {s t i : Nat} {u v : Value} {P : Value → World → Prop} {val : Nat → Value} {L : Array Bool}
theorem World.grownBy.same {w : World} {r : Option Nat} : w.grownBy w r := ⟨rfl, rfl, rfl, Nat.le_refl _, fun _ _ _ => rfl⟩
theorem RA.start (Q E : Nat → Value → World → Prop) (W0 : World) (s t : Nat) (u : Value) (P : Value → World → Prop) (n : Nat) : RA Q E W0 s t u P (fun _ => undef) (Array.replicate n false) W0.drew :=
  ⟨fun j h => (by rw [getD_replicate_no] at h; cases h), fun _ => ⟨(Below.refl _ _).drew, fun j h => (by rw [getD_replicate_no] at h; cases h)⟩, fun h => (by rw [getD_replicate_no] at h; cases h)⟩
theorem RA.vals (h : RA Q E W0 s t u P val L W) (hQ : Still Q) (hq : Q i v W') : ∀ j, (L.setIfInBounds i true).getD j false = true → j ≠ s → j ≠ t → Q j (upd val i v j) W' := fun j hj h1 h2 => by
  by_cases e : j = i
  · subst e; rw [upd_same]; exact hq
  · rw [upd_other e]
    rw [getD_set_other (fun h => e h.symm)] at hj
    exact hQ _ _ _ _ (h.1 j hj h1 h2)
/-- An operation ahead of the append. -/
theorem RA.step (h : RA Q E W0 s t u P val L W) (hQ : Still Q) (hE : Stays E) (hN : L.getD s false = false) (hb : Below W.heap.size W W') (hq : Q i v W') (he : E i v W') (hs : i ≠ s) : RA Q E W0 s t u P (upd val i v) (L.setIfInBounds i true) W' := by
  refine ⟨h.vals hQ hq, fun _ => ⟨(h.2.1 hN).1.trans (hb.mono (h.2.1 hN).1.size), fun j hj => ?_⟩, fun h2 => (by rw [getD_set_other hs, hN] at h2; cases h2)⟩
  by_cases e : j = i
  · subst e; rw [upd_same]; exact he
  · rw [upd_other e]
    rw [getD_set_other (fun h => e h.symm)] at hj
    exact hE _ _ _ _ ((h.2.1 hN).2 j hj) hb
/-- An operation that reads. -/
theorem RA.read (h : RA Q E W0 s t u P val L W) (hQ : Still Q) (_hE : Stays E) (hq : Q i v W) (he : E i v W) (hs : i ≠ s) (ht : i ≠ t) : RA Q E W0 s t u P (upd val i v) (L.setIfInBounds i true) W := by
  refine ⟨h.vals hQ hq, fun h2 => ?_, fun h2 => ?_⟩
  · rw [getD_set_other hs] at h2
    refine ⟨(h.2.1 h2).1, fun j hj => ?_⟩
    by_cases e : j = i
    · subst e; rw [upd_same]; exact he
    · rw [upd_other e]
      rw [getD_set_other (fun h => e h.symm)] at hj
      exact (h.2.1 h2).2 j hj
  · rw [getD_set_other hs] at h2
    obtain ⟨a, b, c⟩ := h.2.2 h2
    refine ⟨by rw [upd_other (fun e => hs e.symm)]; exact a, fun h3 => ?_, c⟩
    rw [getD_set_other ht] at h3
    rw [upd_other (fun e => ht e.symm), upd_other (fun e => hs e.symm)]
    exact b h3
theorem RA.push (h : RA Q E W0 s t u P val L W) (hQ : Still Q) (hls : s < L.size) (hN : L.getD s false = false) (hT : L.getD t false = false) (hst : s ≠ t) (hp : P v W') (hg : W.grownBy W' u.ownBlock) : RA Q E W0 s t u P (upd val s v) (L.setIfInBounds s true) W' := by
  refine ⟨fun j hj h1 h2 => ?_, fun h2 => (by rw [getD_set_eq hls] at h2; cases h2), fun _ => ⟨by rw [upd_same]; exact hp, fun h3 => (by rw [getD_set_other hst, hT] at h3; cases h3), W, (h.2.1 hN).1, hg⟩⟩
  rw [upd_other h1]
  rw [getD_set_other (fun h => h1 h.symm)] at hj
  exact hQ _ _ _ _ (h.1 j hj h1 h2)
theorem RA.assign (h : RA Q E W0 s t u P val L W) (hS : L.getD s false = true) (hst : s ≠ t) : RA Q E W0 s t u P (upd val t (val s)) (L.setIfInBounds t true) W := by
  refine ⟨fun j hj h1 h2 => ?_, fun h2 => (by rw [getD_set_other hst.symm, hS] at h2; cases h2), fun _ => ?_⟩
  · rw [upd_other h2]
    rw [getD_set_other (fun h => h2 h.symm)] at hj
    exact h.1 j hj h1 h2
  · obtain ⟨a, b, c⟩ := h.2.2 hS
    exact ⟨by rw [upd_other hst]; exact a, fun _ => by rw [upd_same, upd_other hst], c⟩
theorem RA.blk {b : Nat} {o : Obj} (h : RA Q E W0 s t u P val L W) (hb : W0.heap[b]? = some o) (hne : some b ≠ u.ownBlock) : W.heap[b]? = some o := by
  cases hs : L.getD s false with
  | false => exact ((h.2.1 hs).1.block b (lt_of_block hb)).trans hb
  | true =>
    obtain ⟨_, _, y, hy, hg⟩ := h.2.2 hs
    have h1 := (hy.block b (lt_of_block hb)).trans hb
    exact (hg.block b (lt_of_block h1) hne).trans h1
theorem RA.cell {b o : Nat} {x : Value} (h : RA Q E W0 s t u P val L W) (hb : W0.cell? ⟨b, o, none⟩ = some x) (hne : some b ≠ u.ownBlock) : W.cell? ⟨b, o, none⟩ = some x := by
  cases hs : L.getD s false with
  | false => exact cell_keep (h.2.1 hs).1 hb
  | true =>
    obtain ⟨_, _, y, hy, hg⟩ := h.2.2 hs
    have h1 := cell_keep hy hb
    exact (World.cell?_of_block (hg.block b (World.block_lt_of_cell? _ _ h1) hne)).trans h1
variable {vals : List (Option Value)} {ex : Nat → Value → World → Prop}
theorem RA.go (h : RA Q E W0 s t u P val L W) (hQ : Still Q) (hE : Stays E) (hN : L.getD s false = false) (HQ : Hid (Q = QG vals ex)) (i : Nat) {x : Value} (hx : vals[i]? = some (some x)) (he : ∀ v W, E i v W) (hs : i ≠ s) : ∀ v W', Below W.heap.size W W' → v = x → RA Q E W0 s t u P (upd val i v) (L.setIfInBounds i true) W' :=
  fun v W' hb e => h.step hQ hE hN hb (QG.put HQ hx e) (he v W') hs
theorem RA.goR (h : RA Q E W0 s t u P val L W) (hQ : Still Q) (hE : Stays E) (HQ : Hid (Q = QG vals ex)) (i : Nat) {x : Value} (hx : vals[i]? = some (some x)) (he : ∀ v W, E i v W) (hs : i ≠ s) (ht : i ≠ t) : ∀ v, v = x → RA Q E W0 s t u P (upd val i v) (L.setIfInBounds i true) W :=
  fun v e => h.read hQ hE (QG.put HQ hx e) (he v W) hs ht
end
theorem Fr.gvs {Q : Nat → Value → World → Prop} {vals : List (Option Value)} {ex : Nat → Value → World → Prop} {ops : Array Oper} {T : Array Value} {val : Nat → Value} {L : Array Bool} {a : Act} {W : World} {s' t' : Nat} (h : Fr ops T val L a) (hR : ∀ j, L.getD j false = true → j ≠ s' → j ≠ t' → Q j (val j) W) (HQ : Hid (Q = QG vals ex)) (i : Nat) (h1 : i ≠ s') (h2 : i ≠ t') {s : Tmp} {x : Value} (hi : dstOf ops i = some s) (hl : L.getD i false = true) (hx : vals[i]? = some (some x)) : a.tmps[s]?.getD undef = x :=
  h.gave i hi hl (QG.val HQ hx (hR i hl h1 h2))
end Go.Proofs.Ytnnmmojlgikdgaa

/- A drawn region with an append of one number to a list of the call's own, whose result a box takes; reads ahead of it. -/
namespace Go.Proofs.Ytnnmmojlgikdgaa
open Go.RowKit

/-- What an append to a list of the call's own leaves. -/
structure APP (W0 : World) (base : Nat) (u : Value) (l : List Int) (v : Value) (W : World) : Prop where
  ex : ∃ y0, Below W0.heap.size W0 y0 ∧ y0.grownBy W u.ownBlock ∧ OI base v l W ∧ (v.ownBlock = u.ownBlock ∨ v.ownBlock = some y0.heap.size)
theorem APP.own {W0 W : World} {base : Nat} {u v : Value} {l : List Int} (h : APP W0 base u l v W) : OI base v l W := by
  obtain ⟨_, _, _, h, _⟩ := h.ex
  exact h
theorem APP.blk {W0 W : World} {base : Nat} {u v : Value} {l : List Int} {b : Nat} {o : Obj} (h : APP W0 base u l v W) (hb : W0.heap[b]? = some o) (hne : some b ≠ u.ownBlock) : W.heap[b]? = some o := by
  obtain ⟨y, hy, hg, _, _⟩ := h.ex
  have h1 := (hy.block b (lt_of_block hb)).trans hb
  exact (hg.block b (lt_of_block h1) hne).trans h1
theorem APP.intro {W0 W y0 : World} {base : Nat} {u v : Value} {l : List Int} (a : Below W0.heap.size W0 y0) (b : y0.grownBy W u.ownBlock) (c : OI base v l W) (d : v.ownBlock = u.ownBlock ∨ v.ownBlock = some y0.heap.size) : APP W0 base u l v W := ⟨⟨y0, a, b, c, d⟩⟩
theorem step_pushA {F : Fence} {n : Nat} {w : World} {o : Oper} {a : Act} {K : Act → World → Prop} {Q : Exit → Act → World → Prop} (s x : Operand)
    (hop : o.op = .call { callee := .builtin .append, args := #[s, x], argTypes := #[25, 25] }) (base : Nat) (v : Value) (xs : List Int) (hs : a.eval s = v) (hown : OI base v xs w)
    (vx : Value) (y : Int) (hx : a.eval x = vx) (hy : OneI y vx w) (hlen : (xs.length + 1) * 8 ≤ 140737488355328) (hbase : base ≤ w.heap.size)
    (h : ∀ v' w', OI base v' (xs ++ [y]) w' → w.grownBy w' v.ownBlock → (v'.ownBlock = v.ownBlock ∨ v'.ownBlock = some w.heap.size) → K (a.put o.dst v') w') : o.wpIn F n Try.prog a w K Q := by
  obtain ⟨g, rfl, hy⟩ := hy
  obtain ⟨i0, hi0, hz0, hz1, hz2⟩ := info_parts info_int
  obtain ⟨v', w', hrun, r1, r2, _, r4⟩ := run_append_own_at (P := Try.prog) w base 25 o.type 3 i0 (.int .i64 0) 1 8 Try.underlying25 hi0 hz0 hz1 hz2 rfl (by decide) v xs.length _ hown ⟨g, 0, none⟩ 1 1 [.int .i64 y] rfl (fun j u hu => (by
    match j, hu with
    | 0, hu => simp at hu; subst hu; exact hy
    | j + 1, hu => simp at hu)) (fun u hu => (by simp at hu; subst hu; rfl)) (by unfold maxLen; omega) (by omega) hbase
  have r1' : OI base v' (xs ++ [y]) w' := by simpa [OI] using r1
  unfold Oper.wpIn
  refine ⟨?_, ?_⟩
  · simp [Oper.about, hop, resolve, Target.leads, Sem.run_pure]
  · rw [Oper.semAt_plain F _ _ (by rw [hop]; intro c hc'; cases hc')]
    simp [execOp, hop, resolve, invoke, builtin, hs, hx, hrun, Result.andThen]
    exact h v' w' r1' r2 r4

def RAS (Q E : Nat → Value → World → Prop) (W0 : World) (s t : Nat) (P : Value → World → Prop) (F : Value → World → World) (val : Nat → Value) (L : Array Bool) (W : World) : Prop :=
  (∀ j, L.getD j false = true → j ≠ s → j ≠ t → Q j (val j) W) ∧
  (L.getD s false = false → Below W0.heap.size W0 W ∧ ∀ j, L.getD j false = true → E j (val j) W) ∧
  (L.getD s false = true → (L.getD t false = false → P (val s) W) ∧ (L.getD t false = true → ∃ y, P (val s) y ∧ W = F (val s) y))
section
variable {Q E : Nat → Value → World → Prop} {W0 W W' : World} {s t i : Nat} {v : Value} {P : Value → World → Prop} {F : Value → World → World} {val : Nat → Value} {L : Array Bool}
theorem RAS.start (Q E : Nat → Value → World → Prop) (W0 : World) (s t : Nat) (P : Value → World → Prop) (F : Value → World → World) (n : Nat) : RAS Q E W0 s t P F (fun _ => undef) (Array.replicate n false) W0.drew :=
  ⟨fun j h => (by rw [getD_replicate_no] at h; cases h), fun _ => ⟨(Below.refl _ _).drew, fun j h => (by rw [getD_replicate_no] at h; cases h)⟩, fun h => (by rw [getD_replicate_no] at h; cases h)⟩
theorem RAS.vals (h : RAS Q E W0 s t P F val L W) (hQ : Still Q) (hq : Q i v W') : ∀ j, (L.setIfInBounds i true).getD j false = true → j ≠ s → j ≠ t → Q j (upd val i v j) W' := fun j hj h1 h2 => by
  by_cases e : j = i
  · subst e; rw [upd_same]; exact hq
  · rw [upd_other e]
    rw [getD_set_other (fun h => e h.symm)] at hj
    exact hQ _ _ _ _ (h.1 j hj h1 h2)
theorem RAS.step (h : RAS Q E W0 s t P F val L W) (hQ : Still Q) (hE : Stays E) (hN : L.getD s false = false) (hb : Below W.heap.size W W') (hq : Q i v W') (he : E i v W') (hs : i ≠ s) : RAS Q E W0 s t P F (upd val i v) (L.setIfInBounds i true) W' := by
  refine ⟨h.vals hQ hq, fun _ => ⟨(h.2.1 hN).1.trans (hb.mono (h.2.1 hN).1.size), fun j hj => ?_⟩, fun h2 => (by rw [getD_set_other hs, hN] at h2; cases h2)⟩
  by_cases e : j = i
  · subst e; rw [upd_same]; exact he
  · rw [upd_other e]
    rw [getD_set_other (fun h => e h.symm)] at hj
    exact hE _ _ _ _ ((h.2.1 hN).2 j hj) hb
theorem RAS.read (h : RAS Q E W0 s t P F val L W) (hQ : Still Q) (hq : Q i v W) (he : E i v W) (hs : i ≠ s) (ht : i ≠ t) : RAS Q E W0 s t P F (upd val i v) (L.setIfInBounds i true) W := by
  refine ⟨h.vals hQ hq, fun h2 => ?_, fun h2 => ?_⟩
  · rw [getD_set_other hs] at h2
    refine ⟨(h.2.1 h2).1, fun j hj => ?_⟩
    by_cases e : j = i
    · subst e; rw [upd_same]; exact he
    · rw [upd_other e]
      rw [getD_set_other (fun h => e h.symm)] at hj
      exact (h.2.1 h2).2 j hj
  · rw [getD_set_other hs] at h2
    rw [getD_set_other ht, upd_other (fun e => hs e.symm)]
    exact h.2.2 h2
theorem RAS.push (h : RAS Q E W0 s t P F val L W) (hQ : Still Q) (hls : s < L.size) (_hN : L.getD s false = false) (hT : L.getD t false = false) (hst : s ≠ t) (hp : P v W') : RAS Q E W0 s t P F (upd val s v) (L.setIfInBounds s true) W' := by
  refine ⟨fun j hj h1 h2 => ?_, fun h2 => (by rw [getD_set_eq hls] at h2; cases h2), fun _ => ⟨fun _ => by rw [upd_same]; exact hp, fun h3 => (by rw [getD_set_other hst, hT] at h3; cases h3)⟩⟩
  rw [upd_other h1]
  rw [getD_set_other (fun h => h1 h.symm)] at hj
  exact hQ _ _ _ _ (h.1 j hj h1 h2)
theorem RAS.store (h : RAS Q E W0 s t P F val L W) (hQ : Still Q) (hls : t < L.size) (hS : L.getD s false = true) (hT : L.getD t false = false) (hst : s ≠ t) : RAS Q E W0 s t P F (upd val t v) (L.setIfInBounds t true) (F (val s) W) := by
  refine ⟨fun j hj h1 h2 => ?_, fun h2 => (by rw [getD_set_other hst.symm, hS] at h2; cases h2), fun _ => ⟨fun h3 => (by rw [getD_set_eq hls] at h3; cases h3), fun _ => ⟨W, ?_, ?_⟩⟩⟩
  · rw [upd_other h2]
    rw [getD_set_other (fun h => h2 h.symm)] at hj
    exact hQ _ _ _ _ (h.1 j hj h1 h2)
  · rw [upd_other hst]; exact (h.2.2 hS).1 hT
  · rw [upd_other hst]
variable {vals : List (Option Value)} {ex : Nat → Value → World → Prop}
theorem RAS.go (h : RAS Q E W0 s t P F val L W) (hQ : Still Q) (hE : Stays E) (hN : L.getD s false = false) (HQ : Hid (Q = QG vals ex)) (i : Nat) {x : Value} (hx : vals[i]? = some (some x)) (he : ∀ v W, E i v W) (hs : i ≠ s) : ∀ v W', Below W.heap.size W W' → v = x → RAS Q E W0 s t P F (upd val i v) (L.setIfInBounds i true) W' :=
  fun v W' hb e => h.step hQ hE hN hb (QG.put HQ hx e) (he v W') hs
theorem RAS.goR (h : RAS Q E W0 s t P F val L W) (hQ : Still Q) (_hE : Stays E) (HQ : Hid (Q = QG vals ex)) (i : Nat) {x : Value} (hx : vals[i]? = some (some x)) (he : ∀ v W, E i v W) (hs : i ≠ s) (ht : i ≠ t) : ∀ v, v = x → RAS Q E W0 s t P F (upd val i v) (L.setIfInBounds i true) W :=
  fun v e => h.read hQ (QG.put HQ hx e) (he v W) hs ht
end
end Go.Proofs.Ytnnmmojlgikdgaa

/- A drawn region that makes two boxes and fills both: wherever the makings and the fillings come. -/
namespace Go.Proofs.Ytnnmmojlgikdgaa
open Go.RowKit

def RBX (W0 : World) (al st : Nat) (c0 c1 : Array Value) (T : TypeId) (val : Nat → Value) (L : Array Bool) (W : World) : Prop :=
  L.getD al false = true → ∃ q, val al = .pointer (some ⟨q, 0, none⟩) ∧ W0.heap.size ≤ q ∧ W.heap[q]? = some (.cells (if L.getD st false then c1 else c0) T (0, 0))
def RBB (Q : Nat → Value → World → Prop) (W0 : World) (a1 a2 s1 s2 : Nat) (c0 c1 c2 : Array Value) (T : TypeId) (val : Nat → Value) (L : Array Bool) (W : World) : Prop :=
  Below W0.heap.size W0 W ∧ (∀ j, L.getD j false = true → j ≠ a1 → j ≠ a2 → Q j (val j) W) ∧ RBX W0 a1 s1 c0 c1 T val L W ∧ RBX W0 a2 s2 c0 c2 T val L W ∧
  (L.getD a1 false = true → L.getD a2 false = true → val a1 ≠ val a2)
section
variable {Q : Nat → Value → World → Prop} {W0 W W' : World} {a1 a2 s1 s2 i al st : Nat} {c0 c1 c2 : Array Value} {T : TypeId} {v : Value} {val : Nat → Value} {L : Array Bool}
theorem RBX.step (h : RBX W0 al st c0 c1 T val L W) (hb : Below W.heap.size W W') (h1 : i ≠ al) (h2 : i ≠ st) : RBX W0 al st c0 c1 T (upd val i v) (L.setIfInBounds i true) W' := fun hl => by
  rw [getD_set_other h1] at hl
  obtain ⟨q, e1, e2, e3⟩ := h hl
  exact ⟨q, by rw [upd_other (fun e => h1 e.symm)]; exact e1, e2, by rw [getD_set_other h2]; exact (hb.block q (lt_of_block e3)).trans e3⟩
theorem RBX.made (hM : W0.heap.size ≤ W.heap.size) (hN : L.getD st false = false) (hne : al ≠ st) : RBX W0 al st c0 c1 T (upd val al (.pointer (some ⟨W.heap.size, 0, none⟩))) (L.setIfInBounds al true) (W.alloc (.cells c0 T)) := fun _ =>
  ⟨_, upd_same _ _ _, hM, by rw [getD_set_other hne, hN, if_neg (by simp)]; exact blk_new _ _ _ rfl⟩
theorem RBX.filled {q : Nat} (ha : val al = .pointer (some ⟨q, 0, none⟩)) (hM : W0.heap.size ≤ q) (hs : st < L.size) (hblk : W'.heap[q]? = some (.cells c1 T (0, 0))) (hne : al ≠ st) : RBX W0 al st c0 c1 T (upd val st v) (L.setIfInBounds st true) W' := fun _ =>
  ⟨q, by rw [upd_other hne]; exact ha, hM, by rw [getD_set_eq hs]; exact hblk⟩
theorem RBX.other {q : Nat} (h : RBX W0 al st c0 c1 T val L W) (hk : ∀ b, b ≠ q → W'.heap[b]? = W.heap[b]?) (hne : L.getD al false = true → val al ≠ .pointer (some ⟨q, 0, none⟩)) (h1 : i ≠ al) (h2 : i ≠ st) : RBX W0 al st c0 c1 T (upd val i v) (L.setIfInBounds i true) W' := fun hl => by
  rw [getD_set_other h1] at hl
  obtain ⟨q', e1, e2, e3⟩ := h hl
  refine ⟨q', by rw [upd_other (fun e => h1 e.symm)]; exact e1, e2, ?_⟩
  rw [getD_set_other h2, hk q' (fun e => hne hl (by rw [e1, e]))]
  exact e3
theorem RBB.start (Q : Nat → Value → World → Prop) (W0 : World) (a1 a2 s1 s2 : Nat) (c0 c1 c2 : Array Value) (T : TypeId) (n : Nat) : RBB Q W0 a1 a2 s1 s2 c0 c1 c2 T (fun _ => undef) (Array.replicate n false) W0.drew :=
  ⟨(Below.refl _ _).drew, fun j h => (by rw [getD_replicate_no] at h; cases h), fun h => (by rw [getD_replicate_no] at h; cases h), fun h => (by rw [getD_replicate_no] at h; cases h), fun h => (by rw [getD_replicate_no] at h; cases h)⟩
theorem RBB.vals (h : RBB Q W0 a1 a2 s1 s2 c0 c1 c2 T val L W) (hQ : Still Q) (hq : i ≠ a1 → i ≠ a2 → Q i v W') : ∀ j, (L.setIfInBounds i true).getD j false = true → j ≠ a1 → j ≠ a2 → Q j (upd val i v j) W' := fun j hj h1 h2 => by
  by_cases e : j = i
  · subst e; rw [upd_same]; exact hq h1 h2
  · rw [upd_other e]
    rw [getD_set_other (fun h => e h.symm)] at hj
    exact hQ _ _ _ _ (h.2.1 j hj h1 h2)
theorem RBB.step (h : RBB Q W0 a1 a2 s1 s2 c0 c1 c2 T val L W) (hQ : Still Q) (hq : Q i v W) (h1 : i ≠ a1) (h2 : i ≠ a2) (h3 : i ≠ s1) (h4 : i ≠ s2) : RBB Q W0 a1 a2 s1 s2 c0 c1 c2 T (upd val i v) (L.setIfInBounds i true) W :=
  ⟨h.1, h.vals hQ (fun _ _ => hq), h.2.2.1.step (Below.refl _ _) h1 h3, h.2.2.2.1.step (Below.refl _ _) h2 h4, fun k1 k2 => by
    rw [getD_set_other h1] at k1
    rw [getD_set_other h2] at k2
    rw [upd_other (fun e => h1 e.symm), upd_other (fun e => h2 e.symm)]
    exact h.2.2.2.2 k1 k2⟩
theorem RBX.lt (h : RBX W0 al st c0 c1 T val L W) (hl : L.getD al false = true) : val al ≠ .pointer (some ⟨W.heap.size, 0, none⟩) := fun e => by
  obtain ⟨q, e1, _, e3⟩ := h hl
  rw [e1] at e
  injection e with e
  injection e with e
  injection e with e
  have := lt_of_block e3
  omega
theorem RBB.made1 (h : RBB Q W0 a1 a2 s1 s2 c0 c1 c2 T val L W) (hQ : Still Q) (hN : L.getD s1 false = false) (n12 : a1 ≠ a2) (n1 : a1 ≠ s1) (n2 : a1 ≠ s2) : RBB Q W0 a1 a2 s1 s2 c0 c1 c2 T (upd val a1 (.pointer (some ⟨W.heap.size, 0, none⟩))) (L.setIfInBounds a1 true) (W.alloc (.cells c0 T)) := by
  have hb : Below W.heap.size W (W.alloc (.cells c0 T)) := (Below.refl _ _).alloc (Nat.le_refl _) _
  refine ⟨h.1.trans (hb.mono h.1.size), h.vals hQ (fun k _ => absurd rfl k), RBX.made h.1.size hN n1, h.2.2.2.1.step hb n12 n2, fun _ k2 => ?_⟩
  rw [getD_set_other n12] at k2
  rw [upd_same, upd_other (fun e => n12 e.symm)]
  exact fun e => h.2.2.2.1.lt k2 e.symm
theorem RBB.made2 (h : RBB Q W0 a1 a2 s1 s2 c0 c1 c2 T val L W) (hQ : Still Q) (hN : L.getD s2 false = false) (n12 : a1 ≠ a2) (n1 : a2 ≠ s1) (n2 : a2 ≠ s2) : RBB Q W0 a1 a2 s1 s2 c0 c1 c2 T (upd val a2 (.pointer (some ⟨W.heap.size, 0, none⟩))) (L.setIfInBounds a2 true) (W.alloc (.cells c0 T)) := by
  have hb : Below W.heap.size W (W.alloc (.cells c0 T)) := (Below.refl _ _).alloc (Nat.le_refl _) _
  refine ⟨h.1.trans (hb.mono h.1.size), h.vals hQ (fun _ k => absurd rfl k), h.2.2.1.step hb (fun e => n12 e.symm) n1, RBX.made h.1.size hN n2, fun k1 _ => ?_⟩
  rw [getD_set_other (fun e => n12 e.symm)] at k1
  rw [upd_same, upd_other n12]
  exact h.2.2.1.lt k1
theorem RBB.filled1 {q : Nat} (h : RBB Q W0 a1 a2 s1 s2 c0 c1 c2 T val L W) (hQ : Still Q) (hq : Q s1 v W') (hl1 : L.getD a1 false = true) (ha : val a1 = .pointer (some ⟨q, 0, none⟩)) (hM : W0.heap.size ≤ q) (hs : s1 < L.size) (hb : Below W0.heap.size W0 W') (hk : ∀ b, b ≠ q → W'.heap[b]? = W.heap[b]?) (hblk : W'.heap[q]? = some (.cells c1 T (0, 0))) (n1 : a1 ≠ s1) (n2 : s1 ≠ a2) (n3 : s1 ≠ s2) : RBB Q W0 a1 a2 s1 s2 c0 c1 c2 T (upd val s1 v) (L.setIfInBounds s1 true) W' := by
  refine ⟨hb, h.vals hQ (fun _ _ => hq), RBX.filled ha hM hs hblk n1, h.2.2.2.1.other hk (fun k2 e => h.2.2.2.2 hl1 k2 (by rw [ha, e])) n2 n3, fun k1 k2 => ?_⟩
  rw [getD_set_other (fun e => n1 e.symm)] at k1
  rw [getD_set_other n2] at k2
  rw [upd_other n1, upd_other (fun e => n2 e.symm)]
  exact h.2.2.2.2 k1 k2
theorem RBB.filled2 {q : Nat} (h : RBB Q W0 a1 a2 s1 s2 c0 c1 c2 T val L W) (hQ : Still Q) (hq : Q s2 v W') (hl2 : L.getD a2 false = true) (ha : val a2 = .pointer (some ⟨q, 0, none⟩)) (hM : W0.heap.size ≤ q) (hs : s2 < L.size) (hb : Below W0.heap.size W0 W') (hk : ∀ b, b ≠ q → W'.heap[b]? = W.heap[b]?) (hblk : W'.heap[q]? = some (.cells c2 T (0, 0))) (n1 : a2 ≠ s2) (n2 : s2 ≠ a1) (n3 : s2 ≠ s1) : RBB Q W0 a1 a2 s1 s2 c0 c1 c2 T (upd val s2 v) (L.setIfInBounds s2 true) W' := by
  refine ⟨hb, h.vals hQ (fun _ _ => hq), h.2.2.1.other hk (fun k1 e => h.2.2.2.2 k1 hl2 (by rw [ha, e])) n2 n3, RBX.filled ha hM hs hblk n1, fun k1 k2 => ?_⟩
  rw [getD_set_other n2] at k1
  rw [getD_set_other (fun e => n1 e.symm)] at k2
  rw [upd_other n1, upd_other (fun e => n2 e.symm)]
  exact h.2.2.2.2 k1 k2
variable {vals : List (Option Value)} {ex : Nat → Value → World → Prop}
theorem RBB.go (h : RBB Q W0 a1 a2 s1 s2 c0 c1 c2 T val L W) (hQ : Still Q) (HQ : Hid (Q = QG vals ex)) (i : Nat) {x : Value} (hx : vals[i]? = some (some x)) (h1 : i ≠ a1) (h2 : i ≠ a2) (h3 : i ≠ s1) (h4 : i ≠ s2) : ∀ v, v = x → RBB Q W0 a1 a2 s1 s2 c0 c1 c2 T (upd val i v) (L.setIfInBounds i true) W :=
  fun _ e => h.step hQ (QG.put HQ hx e) h1 h2 h3 h4
end
theorem heap_sets {W : World} {q : Nat} : ∀ (l : List (Nat × Value)) (b : Nat), b ≠ q → (l.foldl (fun y p => y.setCell ⟨q, p.1, none⟩ p.2) W).heap[b]? = W.heap[b]?
  | [], _, _ => rfl
  | p :: l, b, h => (heap_sets (W := W.setCell ⟨q, p.1, none⟩ p.2) l b h).trans (Below.heap_setCell _ _ _ _ h)
end Go.Proofs.Ytnnmmojlgikdgaa

/- The boxes and the lists of the law of linearity. -/
namespace Go.Proofs.Ytnnmmojlgikdgaa
open Go.RowKit

/-- A sling and two swings in their boxes. -/
structure KY (N D d xa xv xm xl xh ya yv ym yl yh : Int) (A R : Option Addr) (n c k cr : Nat) (w W : World) : Prop where
  s : W.heap[w.heap.size]? = some (.cells #[.int .i64 N, .int .i64 D, .int .i64 d] 23 (0, 0))
  x : W.heap[w.heap.size + 1]? = some (.cells #[.int .i64 xa, .int .i64 xv, .slice A n c, .int .i64 xm, .int .i64 xl, .int .i64 xh] 29 (0, 0))
  y : W.heap[w.heap.size + 1 + 1]? = some (.cells #[.int .i64 ya, .int .i64 yv, .slice R k cr, .int .i64 ym, .int .i64 yl, .int .i64 yh] 29 (0, 0))
  b : Below w.heap.size w W
section
variable {N D d xa xv xm xl xh ya yv ym yl yh : Int} {A R : Option Addr} {n c k cr : Nat} {w W W' : World}
theorem KY.next (h : KY N D d xa xv xm xl xh ya yv ym yl yh A R n c k cr w W) (hb : Below W.heap.size W W') : KY N D d xa xv xm xl xh ya yv ym yl yh A R n c k cr w W' :=
  ⟨(hb.block _ (lt_of_block h.s)).trans h.s, (hb.block _ (lt_of_block h.x)).trans h.x, (hb.block _ (lt_of_block h.y)).trans h.y, h.b.trans (hb.mono h.b.size)⟩
theorem KY.start : KY N D d xa xv xm xl xh ya yv ym yl yh A R n c k cr w (((w.alloc (.cells #[.int .i64 N, .int .i64 D, .int .i64 d] 23)).alloc (.cells #[.int .i64 xa, .int .i64 xv, .slice A n c, .int .i64 xm, .int .i64 xl, .int .i64 xh] 29)).alloc (.cells #[.int .i64 ya, .int .i64 yv, .slice R k cr, .int .i64 ym, .int .i64 yl, .int .i64 yh] 29)) :=
  ⟨blk_old _ (blk_old _ (blk_new _ _ _ rfl)), blk_old _ (blk_new _ _ _ (by simp)), blk_new _ _ _ (by simp), by go_grown⟩
end
theorem OI.put {base q o : Nat} {v u : Value} {l : List Int} {W : World} (h : OI base v l W) (hq : q < base) : OI base v l (W.setCell ⟨q, o, none⟩ u) :=
  ⟨h.1, h.2.imp id fun ⟨g, cap, cur, e, hg, hc, h3⟩ => ⟨g, cap, cur, e, hg, (Below.heap_setCell _ _ _ _ (by show g ≠ q; omega)).trans hc, h3⟩⟩
theorem OI.own_lt {base g : Nat} {v : Value} {l : List Int} {W : World} (h : OI base v l W) (e : v.ownBlock = some g) : base ≤ g ∧ g < W.heap.size := h.lt g e
/-- The loop that lays the sums and the opposite gusts. -/
structure LI (N D d xa xv xm xl xh ya yv ym yl yh sa sv na nv : Int) (A R : Option Addr) (n c k cr : Nat) (w : World) (B q1 q2 : Nat) (u7 u8 : Value) (l7 l8 : List Int) (W : World) : Prop where
  k : KY N D d xa xv xm xl xh ya yv ym yl yh A R n c k cr w W
  b1 : W.heap[q1]? = some (.cells #[.int .i64 sa, .int .i64 sv, u7, .int .i64 0, .int .i64 0, .int .i64 0] 29 (0, 0))
  b2 : W.heap[q2]? = some (.cells #[.int .i64 na, .int .i64 nv, u8, .int .i64 0, .int .i64 0, .int .i64 0] 29 (0, 0))
  o1 : OI B u7 l7 W
  o2 : OI B u8 l8 W
  ne : u7.ownBlock = none ∨ u7.ownBlock ≠ u8.ownBlock
  sz : B ≤ W.heap.size
  h1 : w.heap.size + 3 ≤ q1 ∧ q1 < B
  h2 : w.heap.size + 3 ≤ q2 ∧ q2 < B
  hn : q1 ≠ q2
section
variable {N D d xa xv xm xl xh ya yv ym yl yh sa sv na nv : Int} {A R : Option Addr} {n c k cr : Nat} {w W W' y : World} {B q1 q2 : Nat} {u7 u8 v : Value} {l7 l8 l : List Int}
theorem own_ne {base b : Nat} {u : Value} {l : List Int} {W : World} (h : OI base u l W) (hb : b < base) : some b ≠ u.ownBlock := fun e => by
  have := (h.lt b e.symm).1
  omega
theorem app_below {W0 W y : World} {w0 : World} {base B' q o : Nat} {u v v' : Value} {l l' : List Int} (h : APP W0 base u l' v y) (hu : OI base u l W0) (hb : Below B' w0 W0) (hB : B' ≤ W0.heap.size) (hbase : B' ≤ base) (hq : B' ≤ q) (e : W = y.setCell ⟨q, o, none⟩ v') : Below B' w0 W := by
  obtain ⟨y0, hy, hg, _, _⟩ := h.ex
  rw [e]
  exact (OI.below (hu.stay hy) hg (hb.trans (hy.mono hB)) (Nat.le_trans hB hy.size) hbase).setCell (p := ⟨q, o, none⟩) hq _
theorem LI.app1 (h : LI N D d xa xv xm xl xh ya yv ym yl yh sa sv na nv A R n c k cr w B q1 q2 u7 u8 l7 l8 W) (ha : APP W B u7 l v y) (e : W' = y.setCell ⟨q1, 2, none⟩ v) : LI N D d xa xv xm xl xh ya yv ym yl yh sa sv na nv A R n c k cr w B q1 q2 v u8 l l8 W' := by
  obtain ⟨a1, a2⟩ := h.h1
  obtain ⟨c1, c2⟩ := h.h2
  have kp : ∀ {b : Nat} {o : Obj}, W.heap[b]? = some o → b < B → b ≠ q1 → W'.heap[b]? = some o := fun {b o} hb hlt hne => by
    rw [e]
    exact (Below.heap_setCell _ _ _ _ hne).trans (ha.blk hb (own_ne h.o1 hlt))
  obtain ⟨y0, hy, hg, hv, hw⟩ := ha.ex
  have hb := app_below (v' := v) ha h.o1 h.k.b h.k.b.size (by omega) (show w.heap.size ≤ q1 by omega) e
  refine ⟨⟨kp h.k.s (by omega) (by omega), kp h.k.x (by omega) (by omega), kp h.k.y (by omega) (by omega), hb⟩, ?_, kp h.b2 c2 (fun e => h.hn e.symm), ?_, ?_, ?_, ?_, h.h1, h.h2, h.hn⟩
  · rw [e]
    exact (block_setCell (o := 2) v (ha.blk h.b1 (own_ne h.o1 a2))).trans (by rfl)
  · rw [e]; exact hv.put a2
  · rw [e]
    refine OI.put ?_ a2
    refine OI.grownOther (l2 := l7) (h.o2.stay hy) hg ?_
    rcases h.ne with e9 | e9
    · rw [e9]
      cases h8 : u8.ownBlock with
      | none => exact Or.inl rfl
      | some g => exact Or.inr (by simp)
    · exact Or.inr fun e8 => e9 e8.symm
  · rcases hw with e9 | e9
    · rw [e9]; exact h.ne
    · refine Or.inr fun e8 => ?_
      rw [e9] at e8
      have := (h.o2.lt _ e8.symm).2
      have := hy.size
      omega
  · rw [e]
    have h1 := hy.size
    have h2 := hg.size
    have h3 := h.sz
    show B ≤ (World.setCell y _ v).heap.size
    simp
    omega
theorem LI.app2 (h : LI N D d xa xv xm xl xh ya yv ym yl yh sa sv na nv A R n c k cr w B q1 q2 u7 u8 l7 l8 W) (ha : APP W B u8 l v y) (e : W' = y.setCell ⟨q2, 2, none⟩ v) : LI N D d xa xv xm xl xh ya yv ym yl yh sa sv na nv A R n c k cr w B q1 q2 u7 v l7 l W' := by
  obtain ⟨a1, a2⟩ := h.h1
  obtain ⟨c1, c2⟩ := h.h2
  have kp : ∀ {b : Nat} {o : Obj}, W.heap[b]? = some o → b < B → b ≠ q2 → W'.heap[b]? = some o := fun {b o} hb hlt hne => by
    rw [e]
    exact (Below.heap_setCell _ _ _ _ hne).trans (ha.blk hb (own_ne h.o2 hlt))
  obtain ⟨y0, hy, hg, hv, hw⟩ := ha.ex
  have hb := app_below (v' := v) ha h.o2 h.k.b h.k.b.size (by omega) (show w.heap.size ≤ q2 by omega) e
  refine ⟨⟨kp h.k.s (by omega) (by omega), kp h.k.x (by omega) (by omega), kp h.k.y (by omega) (by omega), hb⟩, kp h.b1 a2 h.hn, ?_, ?_, ?_, ?_, ?_, h.h1, h.h2, h.hn⟩
  · rw [e]
    exact (block_setCell (o := 2) v (ha.blk h.b2 (own_ne h.o2 c2))).trans (by rfl)
  · rw [e]
    refine OI.put ?_ c2
    refine OI.grownOther (l2 := l8) (h.o1.stay hy) hg ?_
    rcases h.ne with e9 | e9
    · exact Or.inl e9
    · exact Or.inr e9
  · rw [e]; exact hv.put c2
  · rcases hw with e9 | e9
    · rw [e9]; exact h.ne
    · cases h7 : u7.ownBlock with
      | none => exact Or.inl rfl
      | some g =>
        refine Or.inr fun e8 => ?_
        rw [e9] at e8
        injection e8 with e8
        have := (h.o1.lt _ h7).2
        have := hy.size
        omega
  · rw [e]
    have h1 := hy.size
    have h2 := hg.size
    have h3 := h.sz
    show B ≤ (World.setCell y _ v).heap.size
    simp
    omega
theorem LI.next (h : LI N D d xa xv xm xl xh ya yv ym yl yh sa sv na nv A R n c k cr w B q1 q2 u7 u8 l7 l8 W) (hb : Below W.heap.size W W') : LI N D d xa xv xm xl xh ya yv ym yl yh sa sv na nv A R n c k cr w B q1 q2 u7 u8 l7 l8 W' :=
  ⟨h.k.next hb, (hb.block _ (lt_of_block h.b1)).trans h.b1, (hb.block _ (lt_of_block h.b2)).trans h.b2, h.o1.stay hb, h.o2.stay hb, h.ne, Nat.le_trans h.sz hb.size, h.h1, h.h2, h.hn⟩
end
end Go.Proofs.Ytnnmmojlgikdgaa

/- What one tick of the law of linearity wants. -/
namespace Go.Proofs.Ytnnmmojlgikdgaa
open Go.RowKit

theorem tmod_zero {a b : Int} (ha : 0 ≤ a) (h : a % b = 0) : a.tmod b = 0 := by rw [Int.tmod_eq_emod_of_nonneg ha, h]
def FRC (p q : Int) : Prop := ∀ W, Calls Try.prog 41 #[.agg #[.int .i64 p, .int .i64 q]] W fun e w' => e = .returned (.bool true) ∧ Below W.heap.size W w'
theorem frc {p q : Int} (h : 1 ≤ q) : FRC p q := fun W => by
  have := jfraction_any p q W
  rw [decide_eq_true (show 0 < q by omega)] at this
  exact this
structure LF (a0 a1 b0 b1 dn : Int) : Prop where
  n1 : ¬ a1 = 0
  n2 : ¬ b1 = 0
  n3 : (a1 == 0) = false
  n4 : (b1 == 0) = false
  m1 : dn.tmod a1 = 0
  m2 : dn.tmod b1 = 0
  i1 : IntKind.i64.wrap (-a0) = -a0
  fa : FRC a0 a1
  fb : FRC b0 b1
theorem lin_tick {d dn a0 a1 b0 b1 e0 e1 X Y : Int} {t : Nat} (hdn : powI d (t + 1) = dn) (h1 : 1 ≤ dn) (lt : LT d t (a0, a1) (b0, b1) (e0, e1) X Y) : e0 = -a0 ∧ e1 = a1 ∧ LF a0 a1 b0 b1 dn := by
  obtain ⟨⟨la1, la2⟩, ⟨lb1, lb2⟩, lam, lbm, _, _, le1, le2, ⟨lan, laN⟩, _, _⟩ := lt
  simp only at *
  rw [hdn] at lam lbm
  have n1 : ¬ a1 = 0 := by omega
  have n2 : ¬ b1 = 0 := by omega
  exact ⟨le1, le2, n1, n2, by simpa using n1, by simpa using n2, tmod_zero (by omega) lam, tmod_zero (by omega) lbm, IntWalk.i64_in _ (by omega), frc la1, frc lb1⟩
structure LG (a0 a1 b0 b1 k0 k1 dn X Y z1 z2 z3 : Int) : Prop where
  n5 : ¬ k1 = 0
  n6 : (k1 == 0) = false
  m3 : dn.tmod k1 = 0
  q1 : dn.tdiv a1 = z1
  q2 : dn.tdiv b1 = z2
  q3 : dn.tdiv k1 = z3
  j1 : IntKind.i64.wrap z1 = z1
  j2 : IntKind.i64.wrap z2 = z2
  j3 : IntKind.i64.wrap z3 = z3
  x1 : a0 * z1 = X
  x2 : b0 * z2 = Y
  x3 : k0 * z3 = X + Y
  j4 : IntKind.i64.wrap X = X
  j5 : IntKind.i64.wrap Y = Y
  j6 : IntKind.i64.wrap (X + Y) = X + Y
  fc : FRC k0 k1
theorem lin_tick2 {d dn a0 a1 b0 b1 e0 e1 k0 k1 X Y : Int} {t : Nat} (hdn : powI d (t + 1) = dn) (h1 : 1 ≤ dn) (h2 : dn ≤ 4294967296) (lt : LT d t (a0, a1) (b0, b1) (e0, e1) X Y) (hk : (1 ≤ k1 ∧ k1 ≤ 4294967296) ∧ powI d (t + 1) % k1 = 0 ∧ k0 * (powI d (t + 1) / k1) = X + Y) : ∃ z1 z2 z3, LG a0 a1 b0 b1 k0 k1 dn X Y z1 z2 z3 := by
  obtain ⟨⟨la1, la2⟩, ⟨lb1, lb2⟩, lam, lbm, lax, lbx, _, _, _, ⟨lx1, lx2⟩, ⟨ly1, ly2⟩⟩ := lt
  obtain ⟨⟨k3, k4⟩, km, kx⟩ := hk
  simp only at *
  rw [hdn] at lam lbm lax lbx km kx
  have n5 : ¬ k1 = 0 := by omega
  have o1 : 0 ≤ dn / a1 ∧ dn / a1 ≤ 4294967296 := ⟨Int.ediv_nonneg (by omega) (by omega), Int.le_trans (Int.ediv_le_self _ (by omega)) h2⟩
  have o2 : 0 ≤ dn / b1 ∧ dn / b1 ≤ 4294967296 := ⟨Int.ediv_nonneg (by omega) (by omega), Int.le_trans (Int.ediv_le_self _ (by omega)) h2⟩
  have o3 : 0 ≤ dn / k1 ∧ dn / k1 ≤ 4294967296 := ⟨Int.ediv_nonneg (by omega) (by omega), Int.le_trans (Int.ediv_le_self _ (by omega)) h2⟩
  exact ⟨dn / a1, dn / b1, dn / k1, n5, by simpa using n5, tmod_zero (by omega) km, Int.tdiv_eq_ediv_of_nonneg (by omega), Int.tdiv_eq_ediv_of_nonneg (by omega), Int.tdiv_eq_ediv_of_nonneg (by omega), IntWalk.i64_in _ (by omega), IntWalk.i64_in _ (by omega), IntWalk.i64_in _ (by omega), lax, lbx, kx, IntWalk.i64_in _ (by omega), IntWalk.i64_in _ (by omega), IntWalk.i64_in _ (by omega), frc k3⟩
end Go.Proofs.Ytnnmmojlgikdgaa

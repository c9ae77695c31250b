/- Contracts of the functions that the statement reaches: JCheckSets, Spn, Rl, JAllow3, JCheckSets2, JRkeeps, JAllow2, JKeepF, JKeepT, JGustF, JGust1, JGustM, JGustT. -/
import Derived.Test.YtnnmmojlgikdgaaM8
import Derived.Test.YtnnmmojlgikdgaaM4
import Derived.Test.YtnnmmojlgikdgaaM2
import Derived.Test.YtnnmmojlgikdgaaM5

/- CheckSets. -/
namespace Go.Proofs.Ytnnmmojlgikdgaa
open Go.RowKit

def inM (lo hi most : Int) : Bool := decide (-most ≤ lo) && decide (hi ≤ most)
theorem rinside7_any (lo hi most : Int) (w : World) (hm : 0 ≤ most) (hm2 : most ≤ 1000000) : Calls Try.prog 104 #[.agg #[.int .i64 lo, .int .i64 hi], .int .i64 most] w fun e w' => e = .returned (.bool (inM lo hi most)) ∧ Below w.heap.size w w' := by
  have i1 : IntKind.i64.wrap (-most) = -most := IntWalk.i64_in _ (by omega)
  unfold inM
  by_cases h1 : -most ≤ lo
  · by_cases h2 : hi ≤ most
    · rw [decide_eq_true h1, decide_eq_true h2]
      go_enter Try.func104, Try.ntmps104
      go_wp2
      go_ret
      exact ⟨rfl, by go_grown⟩
    · rw [decide_eq_true h1, decide_eq_false h2]
      go_enter Try.func104, Try.ntmps104
      go_wp2
      go_ret
      exact ⟨rfl, by go_grown⟩
  · rw [decide_eq_false h1]
    go_enter Try.func104, Try.ntmps104
    go_wp2
    go_ret
    exact ⟨rfl, by go_grown⟩
/-- checkNumbers of two spans. -/
def nuB (a1 a2 c1 c2 gl gh nn : Int) : Bool := (inM a1 a2 1000 && (inM c1 c2 1000 && (inM gl gh 100 && decide (0 ≤ nn ∧ nn ≤ 16))))
set_option maxRecDepth 100000 in
theorem checkNumbers_no (gl gh nn : Int) (Ab : Option Addr) (nb cb : Nat) (w : World) (h : nb ≠ 2) :
    Calls Try.prog 70 #[.slice Ab nb cb, .agg #[.int .i64 gl, .int .i64 gh], .int .i64 nn] w fun e w' => e = .returned (.int .i64 1) ∧ Below w.heap.size w w' := by
  have hbi : ((nb : Int) == 2) = false := by simp; omega
  have hbi2 : ((nb : Int) != 2) = true := by simp; omega
  go_enter Try.func70, Try.ntmps70
  go_wp2
  go_ret
  exact ⟨rfl, by go_grown⟩

set_option maxRecDepth 100000 in
set_option maxHeartbeats 2000000 in
theorem checkNumbers_two (a1 a2 c1 c2 gl gh nn : Int) (Ab : Option Addr) (cb B : Nat) (w : World) (hB : B ≤ w.heap.size) (hr : RS w B Ab [(a1, a2), (c1, c2)]) :
    Calls Try.prog 70 #[.slice Ab 2 cb, .agg #[.int .i64 gl, .int .i64 gh], .int .i64 nn] w fun e w' => e = .returned (.int .i64 (if nuB a1 a2 c1 c2 gl gh nn then 0 else 1)) ∧ Below w.heap.size w w' := by
  have HI0 := Lib.hid (fun W => rinside7_any a1 a2 1000 W (by omega) (by omega))
  have HI1 := Lib.hid (fun W => rinside7_any c1 c2 1000 W (by omega) (by omega))
  have HIG := Lib.hid (fun W => rinside7_any gl gh 100 W (by omega) (by omega))
  have HWN := Lib.hid (fun W => w7_any nn 0 16 W)
  obtain ⟨bb, off, rfl, hbb, hc⟩ := hr (by simp)
  obtain ⟨x0, x1⟩ := hc 0 _ rfl
  obtain ⟨x2, x3⟩ := hc 1 _ rfl
  simp only [Nat.zero_mul, Nat.one_mul, Nat.add_zero] at x0 x1 x2 x3
  have HB0 := Lib.hid ((Below.refl w.heap.size w).alloc (Nat.le_refl _) (.cells #[.int .i64 gl, .int .i64 gh] 27))
  have z0 := cell_keep ((Below.refl w.heap.size w).alloc (Nat.le_refl _) (.cells #[.int .i64 gl, .int .i64 gh] 27)) x0
  have z1 := cell_keep ((Below.refl w.heap.size w).alloc (Nat.le_refl _) (.cells #[.int .i64 gl, .int .i64 gh] 27)) x1
  have z2 := cell_keep ((Below.refl w.heap.size w).alloc (Nat.le_refl _) (.cells #[.int .i64 gl, .int .i64 gh] 27)) x2
  have z3 := cell_keep ((Below.refl w.heap.size w).alloc (Nat.le_refl _) (.cells #[.int .i64 gl, .int .i64 gh] 27)) x3
  have z4 : (w.alloc (.cells #[.int .i64 gl, .int .i64 gh] 27)).cell? ⟨w.heap.size, 0, none⟩ = some (.int .i64 gl) := by rw [cell_newest]; rfl
  have z5 : (w.alloc (.cells #[.int .i64 gl, .int .i64 gh] 27)).cell? ⟨w.heap.size, 1, none⟩ = some (.int .i64 gh) := by rw [cell_newest]; rfl
  have zl := World.block_lt_of_cell? _ _ z0
  have zm := World.block_lt_of_cell? _ _ z4
  clear hc hbb x0 x1 x2 x3 hr
  unfold nuB
  obtain ⟨q0, h0⟩ : ∃ r, inM a1 a2 1000 = r := ⟨_, rfl⟩
  obtain ⟨q1, h1⟩ : ∃ r, inM c1 c2 1000 = r := ⟨_, rfl⟩
  obtain ⟨q2, h2⟩ : ∃ r, inM gl gh 100 = r := ⟨_, rfl⟩
  obtain ⟨q3, h3⟩ : ∃ r, decide (0 ≤ nn ∧ nn ≤ 16) = r := ⟨_, rfl⟩
  rw [h0] at HI0 ⊢
  rw [h1] at HI1 ⊢
  rw [h2] at HIG ⊢
  rw [h3] at HWN ⊢
  clear h0 h1 h2 h3
  cases q0 with
  | false =>
    go_enter Try.func70, Try.ntmps70
    go_upto_region 1 with (fail)
    generalize World.alloc w _ = w0 at *
    go_wp2_with (first
      | (go_at_call_of 104 (Value.agg #[.int .i64 a1, .int .i64 a2]); refine Calls.mono (HI0.out _) ?_; rintro e x1 ⟨rfl, hb1⟩; have y0 := cell_keep hb1 z0; have y1 := cell_keep hb1 z1; have y2 := cell_keep hb1 z2; have y3 := cell_keep hb1 z3; have y4 := cell_keep hb1 z4; have y5 := cell_keep hb1 z5; have yl := World.block_lt_of_cell? _ _ y0; have ym := World.block_lt_of_cell? _ _ y4; have HB1 := Lib.hid (HB0.out.trans (hb1.mono HB0.out.size)); clear hb1 z0 z1 z2 z3 z4 z5 zl zm)
      | (go_at_call_of 104 (Value.agg #[.int .i64 c1, .int .i64 c2]); refine Calls.mono (HI1.out _) ?_; rintro e x2 ⟨rfl, hb2⟩; have u0 := cell_keep hb2 y0; have u1 := cell_keep hb2 y1; have u2 := cell_keep hb2 y2; have u3 := cell_keep hb2 y3; have u4 := cell_keep hb2 y4; have u5 := cell_keep hb2 y5; have ul := World.block_lt_of_cell? _ _ u0; have um := World.block_lt_of_cell? _ _ u4; have HB2 := Lib.hid (HB1.out.trans (hb2.mono HB1.out.size)); clear hb2 y0 y1 y2 y3 y4 y5 yl ym)
      | (go_at_call_of 104 (Value.agg #[.int .i64 gl, .int .i64 gh]); refine Calls.mono (HIG.out _) ?_; rintro e x3 ⟨rfl, hb3⟩; have v0 := cell_keep hb3 u0; have v1 := cell_keep hb3 u1; have v2 := cell_keep hb3 u2; have v3 := cell_keep hb3 u3; have v4 := cell_keep hb3 u4; have v5 := cell_keep hb3 u5; have vl := World.block_lt_of_cell? _ _ v0; have vm := World.block_lt_of_cell? _ _ v4; have HB3 := Lib.hid (HB2.out.trans (hb3.mono HB2.out.size)); clear hb3 u0 u1 u2 u3 u4 u5 ul um)
      | (go_at_call 50; refine Calls.mono (HWN.out _) ?_; rintro e x4 ⟨rfl, rfl⟩))
    go_ret
    exact ⟨rfl, HB1.out⟩
  | true =>
    cases q1 with
    | false =>
      go_enter Try.func70, Try.ntmps70
      go_upto_region 1 with (fail)
      generalize World.alloc w _ = w0 at *
      go_wp2_with (first
        | (go_at_call_of 104 (Value.agg #[.int .i64 a1, .int .i64 a2]); refine Calls.mono (HI0.out _) ?_; rintro e x1 ⟨rfl, hb1⟩; have y0 := cell_keep hb1 z0; have y1 := cell_keep hb1 z1; have y2 := cell_keep hb1 z2; have y3 := cell_keep hb1 z3; have y4 := cell_keep hb1 z4; have y5 := cell_keep hb1 z5; have yl := World.block_lt_of_cell? _ _ y0; have ym := World.block_lt_of_cell? _ _ y4; have HB1 := Lib.hid (HB0.out.trans (hb1.mono HB0.out.size)); clear hb1 z0 z1 z2 z3 z4 z5 zl zm)
        | (go_at_call_of 104 (Value.agg #[.int .i64 c1, .int .i64 c2]); refine Calls.mono (HI1.out _) ?_; rintro e x2 ⟨rfl, hb2⟩; have u0 := cell_keep hb2 y0; have u1 := cell_keep hb2 y1; have u2 := cell_keep hb2 y2; have u3 := cell_keep hb2 y3; have u4 := cell_keep hb2 y4; have u5 := cell_keep hb2 y5; have ul := World.block_lt_of_cell? _ _ u0; have um := World.block_lt_of_cell? _ _ u4; have HB2 := Lib.hid (HB1.out.trans (hb2.mono HB1.out.size)); clear hb2 y0 y1 y2 y3 y4 y5 yl ym)
        | (go_at_call_of 104 (Value.agg #[.int .i64 gl, .int .i64 gh]); refine Calls.mono (HIG.out _) ?_; rintro e x3 ⟨rfl, hb3⟩; have v0 := cell_keep hb3 u0; have v1 := cell_keep hb3 u1; have v2 := cell_keep hb3 u2; have v3 := cell_keep hb3 u3; have v4 := cell_keep hb3 u4; have v5 := cell_keep hb3 u5; have vl := World.block_lt_of_cell? _ _ v0; have vm := World.block_lt_of_cell? _ _ v4; have HB3 := Lib.hid (HB2.out.trans (hb3.mono HB2.out.size)); clear hb3 u0 u1 u2 u3 u4 u5 ul um)
        | (go_at_call 50; refine Calls.mono (HWN.out _) ?_; rintro e x4 ⟨rfl, rfl⟩))
      go_ret
      exact ⟨rfl, HB2.out⟩
    | true =>
      cases q2 with
      | false =>
        go_enter Try.func70, Try.ntmps70
        go_upto_region 1 with (fail)
        generalize World.alloc w _ = w0 at *
        go_wp2_with (first
          | (go_at_call_of 104 (Value.agg #[.int .i64 a1, .int .i64 a2]); refine Calls.mono (HI0.out _) ?_; rintro e x1 ⟨rfl, hb1⟩; have y0 := cell_keep hb1 z0; have y1 := cell_keep hb1 z1; have y2 := cell_keep hb1 z2; have y3 := cell_keep hb1 z3; have y4 := cell_keep hb1 z4; have y5 := cell_keep hb1 z5; have yl := World.block_lt_of_cell? _ _ y0; have ym := World.block_lt_of_cell? _ _ y4; have HB1 := Lib.hid (HB0.out.trans (hb1.mono HB0.out.size)); clear hb1 z0 z1 z2 z3 z4 z5 zl zm)
          | (go_at_call_of 104 (Value.agg #[.int .i64 c1, .int .i64 c2]); refine Calls.mono (HI1.out _) ?_; rintro e x2 ⟨rfl, hb2⟩; have u0 := cell_keep hb2 y0; have u1 := cell_keep hb2 y1; have u2 := cell_keep hb2 y2; have u3 := cell_keep hb2 y3; have u4 := cell_keep hb2 y4; have u5 := cell_keep hb2 y5; have ul := World.block_lt_of_cell? _ _ u0; have um := World.block_lt_of_cell? _ _ u4; have HB2 := Lib.hid (HB1.out.trans (hb2.mono HB1.out.size)); clear hb2 y0 y1 y2 y3 y4 y5 yl ym)
          | (go_at_call_of 104 (Value.agg #[.int .i64 gl, .int .i64 gh]); refine Calls.mono (HIG.out _) ?_; rintro e x3 ⟨rfl, hb3⟩; have v0 := cell_keep hb3 u0; have v1 := cell_keep hb3 u1; have v2 := cell_keep hb3 u2; have v3 := cell_keep hb3 u3; have v4 := cell_keep hb3 u4; have v5 := cell_keep hb3 u5; have vl := World.block_lt_of_cell? _ _ v0; have vm := World.block_lt_of_cell? _ _ v4; have HB3 := Lib.hid (HB2.out.trans (hb3.mono HB2.out.size)); clear hb3 u0 u1 u2 u3 u4 u5 ul um)
          | (go_at_call 50; refine Calls.mono (HWN.out _) ?_; rintro e x4 ⟨rfl, rfl⟩))
        go_ret
        exact ⟨rfl, HB3.out⟩
      | true =>
        cases q3 with
        | false =>
          go_enter Try.func70, Try.ntmps70
          go_upto_region 1 with (fail)
          generalize World.alloc w _ = w0 at *
          go_wp2_with (first
            | (go_at_call_of 104 (Value.agg #[.int .i64 a1, .int .i64 a2]); refine Calls.mono (HI0.out _) ?_; rintro e x1 ⟨rfl, hb1⟩; have y0 := cell_keep hb1 z0; have y1 := cell_keep hb1 z1; have y2 := cell_keep hb1 z2; have y3 := cell_keep hb1 z3; have y4 := cell_keep hb1 z4; have y5 := cell_keep hb1 z5; have yl := World.block_lt_of_cell? _ _ y0; have ym := World.block_lt_of_cell? _ _ y4; have HB1 := Lib.hid (HB0.out.trans (hb1.mono HB0.out.size)); clear hb1 z0 z1 z2 z3 z4 z5 zl zm)
            | (go_at_call_of 104 (Value.agg #[.int .i64 c1, .int .i64 c2]); refine Calls.mono (HI1.out _) ?_; rintro e x2 ⟨rfl, hb2⟩; have u0 := cell_keep hb2 y0; have u1 := cell_keep hb2 y1; have u2 := cell_keep hb2 y2; have u3 := cell_keep hb2 y3; have u4 := cell_keep hb2 y4; have u5 := cell_keep hb2 y5; have ul := World.block_lt_of_cell? _ _ u0; have um := World.block_lt_of_cell? _ _ u4; have HB2 := Lib.hid (HB1.out.trans (hb2.mono HB1.out.size)); clear hb2 y0 y1 y2 y3 y4 y5 yl ym)
            | (go_at_call_of 104 (Value.agg #[.int .i64 gl, .int .i64 gh]); refine Calls.mono (HIG.out _) ?_; rintro e x3 ⟨rfl, hb3⟩; have v0 := cell_keep hb3 u0; have v1 := cell_keep hb3 u1; have v2 := cell_keep hb3 u2; have v3 := cell_keep hb3 u3; have v4 := cell_keep hb3 u4; have v5 := cell_keep hb3 u5; have vl := World.block_lt_of_cell? _ _ v0; have vm := World.block_lt_of_cell? _ _ v4; have HB3 := Lib.hid (HB2.out.trans (hb3.mono HB2.out.size)); clear hb3 u0 u1 u2 u3 u4 u5 ul um)
            | (go_at_call 50; refine Calls.mono (HWN.out _) ?_; rintro e x4 ⟨rfl, rfl⟩))
          go_ret
          exact ⟨rfl, HB3.out⟩
        | true =>
          go_enter Try.func70, Try.ntmps70
          go_upto_region 1 with (fail)
          generalize World.alloc w _ = w0 at *
          go_wp2_with (first
            | (go_at_call_of 104 (Value.agg #[.int .i64 a1, .int .i64 a2]); refine Calls.mono (HI0.out _) ?_; rintro e x1 ⟨rfl, hb1⟩; have y0 := cell_keep hb1 z0; have y1 := cell_keep hb1 z1; have y2 := cell_keep hb1 z2; have y3 := cell_keep hb1 z3; have y4 := cell_keep hb1 z4; have y5 := cell_keep hb1 z5; have yl := World.block_lt_of_cell? _ _ y0; have ym := World.block_lt_of_cell? _ _ y4; have HB1 := Lib.hid (HB0.out.trans (hb1.mono HB0.out.size)); clear hb1 z0 z1 z2 z3 z4 z5 zl zm)
            | (go_at_call_of 104 (Value.agg #[.int .i64 c1, .int .i64 c2]); refine Calls.mono (HI1.out _) ?_; rintro e x2 ⟨rfl, hb2⟩; have u0 := cell_keep hb2 y0; have u1 := cell_keep hb2 y1; have u2 := cell_keep hb2 y2; have u3 := cell_keep hb2 y3; have u4 := cell_keep hb2 y4; have u5 := cell_keep hb2 y5; have ul := World.block_lt_of_cell? _ _ u0; have um := World.block_lt_of_cell? _ _ u4; have HB2 := Lib.hid (HB1.out.trans (hb2.mono HB1.out.size)); clear hb2 y0 y1 y2 y3 y4 y5 yl ym)
            | (go_at_call_of 104 (Value.agg #[.int .i64 gl, .int .i64 gh]); refine Calls.mono (HIG.out _) ?_; rintro e x3 ⟨rfl, hb3⟩; have v0 := cell_keep hb3 u0; have v1 := cell_keep hb3 u1; have v2 := cell_keep hb3 u2; have v3 := cell_keep hb3 u3; have v4 := cell_keep hb3 u4; have v5 := cell_keep hb3 u5; have vl := World.block_lt_of_cell? _ _ v0; have vm := World.block_lt_of_cell? _ _ v4; have HB3 := Lib.hid (HB2.out.trans (hb3.mono HB2.out.size)); clear hb3 u0 u1 u2 u3 u4 u5 ul um)
            | (go_at_call 50; refine Calls.mono (HWN.out _) ?_; rintro e x4 ⟨rfl, rfl⟩))
          go_ret
          exact ⟨rfl, HB3.out⟩
end Go.Proofs.Ytnnmmojlgikdgaa

/- Lists of spans that the call owns. -/
namespace Go.Proofs.Ytnnmmojlgikdgaa
open Go.RowKit

abbrev OS9 (base : Nat) (v : Value) (l : List (Int × Int)) (w : World) : Prop := w.ownsRow base 27 2 v l.length (spanCells l)
theorem OS9.nil {base : Nat} {w : World} : OS9 base (.slice none 0 0) [] w := ⟨by simp [spanCells], .inl ⟨rfl, rfl⟩⟩
theorem OS9.stay {base : Nat} {v : Value} {l : List (Int × Int)} {w w' : World} (h : OS9 base v l w) (hb : Below w.heap.size w w') : OS9 base v l w' :=
  ⟨h.1, h.2.imp id fun ⟨g, cap, cur, e, hg, hc, h3⟩ => ⟨g, cap, cur, e, hg, (hb.block g (lt_of_block hc)).trans hc, h3⟩⟩
theorem OS9.rs {base : Nat} {v : Value} {l : List (Int × Int)} {w : World} (h : OS9 base v l w) : ∃ A c, v = .slice A l.length c ∧ l.length ≤ c ∧ RS w w.heap.size A l := by
  rcases h.2 with ⟨rfl, e⟩ | ⟨g, cap, cur, rfl, _, _, hcc, _⟩
  · have : l = [] := by simpa using e
    subst this
    exact ⟨none, 0, rfl, Nat.le_refl _, fun h => absurd h (by simp)⟩
  · refine ⟨_, cap, rfl, hcc, fun _ => ⟨g, 0, rfl, (h.lt g rfl).2, fun j p hp => ?_⟩⟩
    have hj := (List.getElem?_eq_some_iff.1 hp).1
    obtain ⟨g0, g1⟩ := spanCells_get _ _ hp
    rw [Nat.zero_add]
    exact ⟨(h.cellAt (j * 2) (by omega)).trans g0, (h.cellAt (j * 2 + 1) (by omega)).trans g1⟩
theorem wpList_pushSp {w : World} {ops : Array Oper} {rest : List Oper} {o : Oper} {a : Act} {Q : Exit → Act → World → Prop} (hgd : o.guard = none) (s x : Operand)
    (ho : o.op = .call { callee := .builtin .append, args := #[s, x], argTypes := #[40, 40] }) (base : Nat) (v : Value) (l : List (Int × Int)) (hs : a.eval s = v) (hown : OS9 base v l w)
    (g : Nat) (y : Int × Int) (hx : a.eval x = .slice (some ⟨g, 0, none⟩) 1 1) (hy0 : w.cell? ⟨g, 0, none⟩ = some (.int .i64 y.1)) (hy1 : w.cell? ⟨g, 1, none⟩ = some (.int .i64 y.2)) (hlen : l.length ≤ 1000000) (hbase : base ≤ w.heap.size)
    (h : ∀ v' w', OS9 base v' (l ++ [y]) w' → w.grownBy w' v.ownBlock → wpList Try.prog ops Q rest (a.put o.dst v') w') : wpList Try.prog ops Q (o :: rest) a w := by
  obtain ⟨i0, hi0, hz0, hz1, hz2⟩ := info_parts info_span
  refine wpList_append_own w hgd s x 40 ho base 27 i0 (.agg #[.int .i64 0, .int .i64 0]) 2 16 Try.underlying40 hi0 hz0 hz1 hz2 rfl (by decide) v l.length _ hs hown ⟨g, 0, none⟩ 1 1 (pV y) hx rfl (fun j u hu => ?_) (fun u hu => ?_) (by unfold maxLen; omega) (by omega) hbase (fun v' w' h1 h2 _ => h v' w' (by simpa [OS9, spanCells, pV] using h1) h2)
  · match j, hu with
    | 0, hu => simp [pV] at hu; subst hu; exact hy0
    | 1, hu => simp [pV] at hu; subst hu; exact hy1
    | j + 2, hu => simp [pV] at hu
  · simp [pV] at hu; rcases hu with rfl | rfl <;> rfl
end Go.Proofs.Ytnnmmojlgikdgaa

/- A drawn region whose last operation fills a box that it has made, with values that hang on the order. -/
namespace Go.Proofs.Ytnnmmojlgikdgaa
open Go.RowKit

def RL (Q : Nat → Value → World → Prop) (W0 : World) (s al : Nat) (R : Value → World → Prop) (val : Nat → Value) (L : Array Bool) (W : World) : Prop :=
  (L.getD s false = false → RQ Q W0 val L W) ∧ (L.getD s false = true → R (val al) W)
section
variable {Q : Nat → Value → World → Prop} {W0 W W' : World} {s al i : Nat} {R : Value → World → Prop} {v : Value} {val : Nat → Value} {L : Array Bool}
theorem RL.start (Q : Nat → Value → World → Prop) (W0 : World) (s al : Nat) (R : Value → World → Prop) (n : Nat) : RL Q W0 s al R (fun _ => undef) (Array.replicate n false) W0.drew :=
  ⟨fun _ => RQ.start Q W0 n, fun h => by rw [getD_replicate_no] at h; cases h⟩
theorem RL.step (h : RQ Q W0 val L W) (hQ : Stays Q) (hb : Below W.heap.size W W') (hq : Q i v W') (hs : i ≠ s) (hN : L.getD s false = false) : RL Q W0 s al R (upd val i v) (L.setIfInBounds i true) W' :=
  ⟨fun _ => h.step hQ hb hq, fun h2 => (by rw [getD_set_other hs, hN] at h2; cases h2)⟩
theorem RL.last (hls : s < L.size) (hne : al ≠ s) (hr : R (val al) W') : RL Q W0 s al R (upd val s v) (L.setIfInBounds s true) W' :=
  ⟨fun h2 => (by rw [getD_set_eq hls] at h2; cases h2), fun _ => by rw [upd_other hne]; exact hr⟩
variable {vals : List (Option Value)} {ex : Nat → Value → World → Prop}
theorem RL.go (h : RQ Q W0 val L W) (hQ : Stays Q) (HQ : Hid (Q = QG vals ex)) (i : Nat) {x : Value} (hx : vals[i]? = some (some x)) (hs : i ≠ s) (hN : L.getD s false = false) : ∀ v W', Below W.heap.size W W' → v = x → RL Q W0 s al R (upd val i v) (L.setIfInBounds i true) W' :=
  fun _ _ hb e => RL.step h hQ hb (QG.put HQ hx e) hs hN
theorem RL.goT (h : RQ Q W0 val L W) (hQ : Stays Q) {i : Nat} (hn : ∀ v W, Q i v W) (hs : i ≠ s) (hN : L.getD s false = false) : ∀ v W', Below W.heap.size W W' → True → RL Q W0 s al R (upd val i v) (L.setIfInBounds i true) W' :=
  fun v W' hb _ => RL.step h hQ hb (hn v W') hs hN
end
end Go.Proofs.Ytnnmmojlgikdgaa

/- The sets that a call allows. -/
namespace Go.Proofs.Ytnnmmojlgikdgaa
open Go.RowKit

theorem os_ne {B q : Nat} {v : Value} {l : List (Int × Int)} {W : World} {cs : Array Value} {m : Nat × Nat} (h : OS9 B v l W) (hq : W.heap[q]? = some (.cells cs 101 m)) : v.ownBlock ≠ some q := by
  intro e
  rcases h.2 with ⟨rfl, _⟩ | ⟨g, cap, cur, rfl, _, hc, _⟩
  · simp [Value.ownBlock] at e
  · simp [Value.ownBlock] at e
    subst e
    rw [hq] at hc
    injection hc with hc
    injection hc with _ hc
    exact absurd hc (by decide)
theorem os_set {B q o : Nat} {v u : Value} {l : List (Int × Int)} {W : World} (h : OS9 B v l W) (hne : v.ownBlock ≠ some q) : OS9 B v l (W.setCell ⟨q, o, none⟩ u) := World.ownsRow.kept h (grown_set (k := o) (v := u)) (Or.inr hne)
theorem list_two {α : Type} : ∀ {l : List α}, l.length = 2 → ∃ x y, l = [x, y]
  | [], h => by simp at h
  | [_], h => by simp at h
  | [x, y], _ => ⟨x, y, rfl⟩
  | _ :: _ :: _ :: _, h => by simp at h
/-- A box of sets that is filled. -/
theorem sets_fill {B g q : Nat} {N D d : Int} {l : List (Int × Int)} {W0 W : World} (h8 : OS9 B (.slice (some ⟨g, 0, none⟩) 2 2) l W) (h9 : W.heap[q]? = some (.cells #[.int .i64 0, .int .i64 0, .int .i64 0, .slice none 0 0] 101 (0, 0))) (hb : Below B W0 W) (hq : B ≤ q) :
    OS9 B (.slice (some ⟨g, 0, none⟩) 2 2) l ((((W.setCell ⟨q, 0, none⟩ (.int .i64 N)).setCell ⟨q, 1, none⟩ (.int .i64 D)).setCell ⟨q, 2, none⟩ (.int .i64 d)).setCell ⟨q, 3, none⟩ (.slice (some ⟨g, 0, none⟩) 2 2)) ∧
    ((((W.setCell ⟨q, 0, none⟩ (.int .i64 N)).setCell ⟨q, 1, none⟩ (.int .i64 D)).setCell ⟨q, 2, none⟩ (.int .i64 d)).setCell ⟨q, 3, none⟩ (.slice (some ⟨g, 0, none⟩) 2 2)).heap[q]? = some (.cells #[.int .i64 N, .int .i64 D, .int .i64 d, .slice (some ⟨g, 0, none⟩) 2 2] 101 (0, 0)) ∧
    Below B W0 ((((W.setCell ⟨q, 0, none⟩ (.int .i64 N)).setCell ⟨q, 1, none⟩ (.int .i64 D)).setCell ⟨q, 2, none⟩ (.int .i64 d)).setCell ⟨q, 3, none⟩ (.slice (some ⟨g, 0, none⟩) 2 2)) ∧ g ≠ q := by
  have hne : g ≠ q := by
    rintro rfl
    rcases h8.2 with ⟨e, _⟩ | ⟨g', cap, cur, e, _, hc, _⟩
    · simp at e
    · simp at e
      obtain ⟨rfl, _, _⟩ := e
      rw [h9] at hc
      injection hc with hc
      injection hc with _ hc
      exact absurd hc (by decide)
  have k : ∀ {W : World} (o : Nat) (v : Value), OS9 B (.slice (some ⟨g, 0, none⟩) 2 2) l W → OS9 B (.slice (some ⟨g, 0, none⟩) 2 2) l (W.setCell ⟨q, o, none⟩ v) := fun o v h => World.ownsRow.kept h (grown_set (k := o) (v := v)) (Or.inr (by intro e; cases e; exact hne rfl))
  exact ⟨k _ _ (k _ _ (k _ _ (k _ _ h8))), (block_setCell _ (block_setCell _ (block_setCell _ (block_setCell _ h9)))).trans (by rfl), (((hb.setCell (p := ⟨q, 0, none⟩) hq _).setCell (p := ⟨q, 1, none⟩) hq _).setCell (p := ⟨q, 2, none⟩) hq _).setCell (p := ⟨q, 3, none⟩) hq _, hne⟩
def TwoS (B : Nat) (l : List (Int × Int)) (v : Value) (W : World) : Prop := ∃ g, v = .slice (some ⟨g, 0, none⟩) 2 2 ∧ OS9 B (.slice (some ⟨g, 0, none⟩) 2 2) l W
theorem TwoS.stay {B : Nat} {l : List (Int × Int)} {v : Value} {W W' : World} (h : TwoS B l v W) (hb : Below W.heap.size W W') : TwoS B l v W' := by
  obtain ⟨g, e, h⟩ := h
  exact ⟨g, e, h.stay hb⟩
def AggS (B : Nat) (N D d : Int) (l : List (Int × Int)) (v : Value) (W : World) : Prop := ∃ g, v = .agg #[.int .i64 N, .int .i64 D, .int .i64 d, .slice (some ⟨g, 0, none⟩) 2 2] ∧ OS9 B (.slice (some ⟨g, 0, none⟩) 2 2) l W
theorem AggS.stay {B : Nat} {N D d : Int} {l : List (Int × Int)} {v : Value} {W W' : World} (h : AggS B N D d l v W) (hb : Below W.heap.size W W') : AggS B N D d l v W' := by
  obtain ⟨g, e, h⟩ := h
  exact ⟨g, e, h.stay hb⟩
def PtrS (B : Nat) (v : Value) (W : World) : Prop := ∃ q, v = .pointer (some ⟨q, 0, none⟩) ∧ B ≤ q ∧ W.heap[q]? = some (.cells #[.int .i64 0, .int .i64 0, .int .i64 0, .slice none 0 0] 101 (0, 0))
theorem PtrS.stay {B : Nat} {v : Value} {W W' : World} (h : PtrS B v W) (hb : Below W.heap.size W W') : PtrS B v W' := by
  obtain ⟨q, e, h1, h2⟩ := h
  exact ⟨q, e, h1, (hb.block _ (lt_of_block h2)).trans h2⟩

set_option maxRecDepth 100000 in
set_option maxHeartbeats 4000000 in
theorem allow_ok (N D d gl gh nn : Int) (Ab Al : Option Addr) (nb cb nl cl B : Nat) (b l : List (Int × Int)) (w : World) (hb : b.length = nb) (hnb : nb ≤ maxLen) (hl : l.length = nl) (hnl : nl ≤ maxLen) (hB : B ≤ w.heap.size) (hrb : RS w B Ab b) (hrl : RS w B Al l) (hs : slB N D d = true) (hc : chkB b = true) (hv : vS (gl, gh) = true) (hll : l.all vS = true) (hsf : saB b gl gh nn = true) :
    Calls Try.prog 63 #[.agg #[.int .i64 N, .int .i64 D, .int .i64 d], .slice Ab nb cb, .agg #[.int .i64 gl, .int .i64 gh], .int .i64 nn, .slice Al nl cl] w fun e w' => ∃ A c, e = .returned (.tuple #[.agg #[.int .i64 N, .int .i64 D, .int .i64 d, .slice A (nn.toNat + 2) c], .int .i64 0]) ∧ nn.toNat + 2 ≤ c ∧ RS w' w'.heap.size A (b ++ List.replicate nn.toNat (gl, gh)) ∧ Below w.heap.size w w' := by
  have HB29 := Lib.hid (show b.length = 2 by unfold saB at hsf; simp at hsf; exact hsf.1.1.1)
  have hnn : 0 ≤ nn ∧ nn ≤ 16 := by unfold saB at hsf; simp at hsf; exact hsf.1.2
  obtain ⟨m, rfl⟩ : ∃ m : Nat, nn = (m : Int) := ⟨nn.toNat, by omega⟩
  have hm : m ≤ 16 := by omega
  rw [Int.toNat_natCast]
  clear hnn
  have HA0 := Lib.hid (AW.start (N := N) (D := D) (d := d) (gl := gl) (gh := gh) (w := w))
  have HC := Lib.hid (fun W => slcheck_any N D d W)
  have HCB := Lib.hid (fun (W : World) (hW : Below w.heap.size w W) => check_any Ab nb cb w.heap.size b W hb hnb hW.size ((hrb.more hB).below hW))
  have HSG := Lib.hid (fun (W : World) (g : Nat) (hg : g < W.heap.size) (hr : RS W (g + 1) (some ⟨g, 0, none⟩) [(gl, gh)]) => checkSpans_any (some ⟨g, 0, none⟩) 1 1 (g + 1) [(gl, gh)] W rfl (le_maxLen (by omega)) hg hr)
  simp only [List.all_cons, List.all_nil, Bool.and_true] at HSG
  have HSL := Lib.hid (fun (W : World) (hW : Below w.heap.size w W) => checkSpans_any Al nl cl w.heap.size l W hl hnl hW.size ((hrl.more hB).below hW))
  have HWG := Lib.hid (fun (W : World) (g : Nat) (hr : RI W (g + 1) (some ⟨g, 0, none⟩) [gl, gh]) => within_any (-100) 100 (some ⟨g, 0, none⟩) 2 2 (g + 1) [gl, gh] W rfl (le_maxLen (by omega)) hr)
  have HWN := Lib.hid (fun (W : World) (g : Nat) (hr : RI W (g + 1) (some ⟨g, 0, none⟩) [(m : Int)]) => within_any 0 16 (some ⟨g, 0, none⟩) 1 1 (g + 1) [(m : Int)] W rfl (le_maxLen (by omega)) hr)
  have HWS := Lib.hid (fun (x1 x2 : Int) (W : World) (g : Nat) (hr : RI W (g + 1) (some ⟨g, 0, none⟩) [x1, x2]) => within_any (-1000) 1000 (some ⟨g, 0, none⟩) 2 2 (g + 1) [x1, x2] W rfl (le_maxLen (by omega)) hr)
  rw [slE_yes hs] at HC
  rw [chkE_yes hc] at HCB
  rw [hv] at HSG
  rw [hll] at HSL
  have HRB := Lib.hid (fun (W : World) (hW : Below w.heap.size w W) => (hrb.more hB).below hW)
  have hn3 : nb ≤ 3 := by unfold chkB at hc; simp at hc; omega
  obtain ⟨r0, hr0⟩ : ∃ r, ((decide (b.length = 2) && wB (-100) 100 [gl, gh]) && decide (0 ≤ (m : Int) ∧ (m : Int) ≤ 16)) = r := ⟨_, rfl⟩
  have hsa : saB b gl gh (m : Int) = (r0 && b.all fun s => wB (-1000) 1000 [s.1, s.2]) := by unfold saB; rw [hr0]
  have HR0 := Lib.hid hr0
  have HSA := Lib.hid hsa
  clear hs hc hv hll hr0 hsa hrb hrl
  subst hb
  have HSF := Lib.hid hsf
  clear hsf
  go_enter Try.func63, Try.ntmps63
  go_upto_region 1 with (fail)
  generalize World.alloc _ _ = w1 at *
  have s0 := cellOf (o := 0) HA0.out.s rfl
  have s1 := cellOf (o := 1) HA0.out.s rfl
  have s2 := cellOf (o := 2) HA0.out.s rfl
  have g0 := cellOf (o := 0) HA0.out.g rfl
  have g1 := cellOf (o := 1) HA0.out.g rfl
  have l0 := lt_of_block HA0.out.s
  have l1 := lt_of_block HA0.out.g
  have l2 := lt_of_block HA0.out.r
  go_upto_region 2 with (go_at_call 15; refine Calls.mono (HC.out _) ?_; rintro e w2 ⟨rfl, hb2⟩; have HA2 := Lib.hid (HA0.out.next hb2); clear hb2 s0 s1 s2 g0 g1 l0 l1 l2)
  go_upto_region 6 with (first
    | (go_at_call 97; refine Calls.mono (HCB.out _ HA2.out.b) ?_; rintro e w3 ⟨rfl, hb3⟩; have HA3 := Lib.hid (HA2.out.next hb3); clear hb3; have g0 := cellOf (o := 0) HA3.out.g rfl; have g1 := cellOf (o := 1) HA3.out.g rfl; have l1 := lt_of_block HA3.out.g)
    | (go_at_call_of 59 (Value.slice Al nl cl); refine Calls.mono (HSL.out _ HA4.out.b) ?_; rintro e w5 ⟨rfl, hb5⟩; have HA5 := Lib.hid (HA4.out.next hb5); clear hb5)
    | (go_at_call 59; refine Calls.mono (HSG.out _ _ (by simp) (RS.new1 (by simp))) ?_; rintro e w4 ⟨rfl, hb4⟩; have HA4 := Lib.hid ((HA3.out.alloc _).next hb4); clear hb4 g0 g1 l1))
  go_cut [13] (fun u13 wx => u13 = .bool r0 ∧ AW N D d gl gh w wx)
  case first =>
    have g0 := cellOf (o := 0) HA5.out.g rfl
    have g1 := cellOf (o := 1) HA5.out.g rfl
    have l1 := lt_of_block HA5.out.g
    by_cases h2 : b.length = 2
    · obtain ⟨rg, hrg⟩ : ∃ r, wB (-100) 100 [gl, gh] = r := ⟨_, rfl⟩
      obtain ⟨rn, hrn⟩ : ∃ r, decide (0 ≤ (m : Int) ∧ (m : Int) ≤ 16) = r := ⟨_, rfl⟩
      have hr := HR0.out
      rw [hrg, hrn, decide_eq_true h2, Bool.true_and] at hr
      rw [hrg] at HWG
      rw [wB_one, hrn] at HWN
      have HRR := Lib.hid hr
      have hbi : ((b.length : Int) == 2) = true := by simp; omega
      clear hrg hrn hr h2
      cases rg with
      | false =>
        go_wp2_with (go_at_call 49; refine Calls.mono (HWG.out _ _ (RI.new2 (by simp))) ?_; rintro e w6 ⟨rfl, rfl⟩)
        go_meet
        case rel => exact ⟨by rw [← HRR.out]; rfl, HA5.out.alloc _⟩
      | true =>
        go_wp2_with (first
          | (go_at_call_of 49 (Value.int .i64 0); refine Calls.mono (HWN.out _ _ (RI.new1 (by simp))) ?_; rintro e w7 ⟨rfl, rfl⟩)
          | (go_at_call 49; refine Calls.mono (HWG.out _ _ (RI.new2 (by simp))) ?_; rintro e w6 ⟨rfl, rfl⟩))
        go_meet
        case rel => exact ⟨by rw [← HRR.out]; rfl, (HA5.out.alloc _).alloc _⟩
    · have hr := HR0.out
      rw [decide_eq_false h2] at hr
      have HRR := Lib.hid hr
      have hbi : ((b.length : Int) == 2) = false := by simp; omega
      clear hr h2 g0 g1 l1
      go_wp2
      go_meet
      case rel => exact ⟨by rw [← HRR.out]; rfl, HA5.out⟩
  case rest =>
    obtain ⟨rfl, haw⟩ := hcut
    have HA6 := Lib.hid haw
    clear haw
    go_upto_region 8 with (fail)
    go_loopw [13, 56] (fun ur ui wr => ∃ j : Nat, j ≤ b.length ∧ ui = .int .i64 j ∧ ur = .bool (r0 && (b.take j).all fun s => wB (-1000) 1000 [s.1, s.2]) ∧ Below wc.heap.size wc wr) (fun _ ui _ => b.length - (intOf ui).toNat)
    case atStart => exact ⟨0, Nat.zero_le _, rfl, by simp, Below.refl _ _⟩
    case round =>
      obtain ⟨j, hj, rfl, rfl, hbw⟩ := hrel
      have HAW := Lib.hid (HA6.out.next hbw)
      have HBW := Lib.hid hbw
      clear hbw
      by_cases hlt : j < b.length
      · obtain ⟨bb, off, s, rfl, hbb, hsx, hc1, hc2⟩ := (HRB.out wr HAW.out.b).at_ hlt
        have hlb : bb < wr.heap.size := World.block_lt_of_cell? _ _ hc1
        have htk : (b.take (j + 1)).all (fun s => wB (-1000) 1000 [s.1, s.2]) = ((b.take j).all (fun s => wB (-1000) 1000 [s.1, s.2]) && wB (-1000) 1000 [s.1, s.2]) := by
          rw [List.take_add_one, hsx, List.all_append]
          simp
        obtain ⟨x1, x2⟩ := s
        simp only at hc1 hc2 htk
        obtain ⟨rs, hrs⟩ : ∃ r, wB (-1000) 1000 [x1, x2] = r := ⟨_, rfl⟩
        obtain ⟨rj, hrj⟩ : ∃ r, (r0 && (b.take j).all fun s => wB (-1000) 1000 [s.1, s.2]) = r := ⟨_, rfl⟩
        have HW2 := Lib.hid (fun W g hr => by have := HWS.out x1 x2 W g hr; rw [hrs] at this; exact this)
        have HTK := Lib.hid (show (r0 && (b.take (j + 1)).all fun s => wB (-1000) 1000 [s.1, s.2]) = (rj && rs) by rw [htk, ← Bool.and_assoc, hrj, hrs])
        rw [hrj]
        clear htk hrs hrj hsx hbb
        cases rj with
        | false =>
          go_wp2
          go_roundw
          case rel => exact ⟨j + 1, hlt, by go_num, by rw [HTK.out]; rfl, HBW.out.alloc HBW.out.size _⟩
          case measure => simp [intOf] <;> omega
        | true =>
          go_wp2_with (go_at_call 49; refine Calls.mono (HW2.out _ _ (RI.new2 (by simp))) ?_; rintro e w6 ⟨rfl, rfl⟩)
          go_roundw
          case rel => exact ⟨j + 1, hlt, by go_num, by rw [HTK.out]; rfl, (HBW.out.alloc HBW.out.size _).alloc (by simp; have := HBW.out.size; omega) _⟩
          case measure => simp [intOf] <;> omega
      · obtain rfl : j = b.length := by omega
        rw [List.take_length, ← HSA.out]
        clear hlt
        rw [HSF.out]
        obtain ⟨⟨a1, a2⟩, ⟨c1, c2⟩, e2⟩ := list_two HB29.out
        have HE2 := Lib.hid e2
        have hrb2 := HRB.out wr HAW.out.b
        rw [e2] at hrb2
        clear e2
        obtain ⟨bb, off, rfl, hbb, hc⟩ := hrb2 (by simp)
        obtain ⟨x0, x1⟩ := hc 0 _ rfl
        obtain ⟨x2, x3⟩ := hc 1 _ rfl
        simp only [Nat.zero_mul, Nat.one_mul, Nat.add_zero] at x0 x1 x2 x3
        have lb : bb < wr.heap.size := World.block_lt_of_cell? _ _ x0
        have hl0 : 0 < b.length := by have := HB29.out; omega
        have hl1 : 1 < b.length := by have := HB29.out; omega
        have hl1i : (1 : Int) < (b.length : Int) := by omega
        have hl0i : (0 : Int) < (b.length : Int) := by omega
        clear hc hbb
        have s0 := cellOf (o := 0) HAW.out.s rfl
        have s1 := cellOf (o := 1) HAW.out.s rfl
        have s2 := cellOf (o := 2) HAW.out.s rfl
        have g0 := cellOf (o := 0) HAW.out.g rfl
        have g1 := cellOf (o := 1) HAW.out.g rfl
        have l0 := lt_of_block HAW.out.s
        have l1 := lt_of_block HAW.out.g
        have l2 := lt_of_block HAW.out.r
        go_upto_region 14 with (fail)
        obtain ⟨Q, hQ⟩ : ∃ q9 : Nat → Value → World → Prop, q9 = QG [some (.agg #[.int .i64 N, .int .i64 D, .int .i64 d]), some (.slice (some ⟨bb, off, none⟩) b.length cb), some (.pointer (some ⟨bb, off, none⟩)), some (.agg #[.int .i64 a1, .int .i64 a2]), some (.slice (some ⟨bb, off, none⟩) b.length cb), some (.pointer (some ⟨bb, off + 2, none⟩)), some (.agg #[.int .i64 c1, .int .i64 c2]), none, none, none, none] (fun j0' v0' w0' => (j0' = 7 → TwoS wr.heap.size [(a1, a2), (c1, c2)] v0' w0') ∧ (j0' = 8 → AggS wr.heap.size N D d [(a1, a2), (c1, c2)] v0' w0') ∧ (j0' = 9 → PtrS wr.heap.size v0' w0')) := ⟨_, rfl⟩
        have hst : Stays Q := by rw [hQ]; exact QG.stays (fun j v W W' h hb => ⟨fun e => (h.1 e).stay hb, fun e => (h.2.1 e).stay hb, fun e => (h.2.2 e).stay hb⟩)
        have U7 := Lib.hid (show ∀ v0' w0', Q 7 v0' w0' ↔ TwoS wr.heap.size [(a1, a2), (c1, c2)] v0' w0' from fun v0' w0' => by rw [hQ]; exact ⟨fun h => h.1 rfl, fun h => ⟨fun _ => h, fun e => absurd e (by decide), fun e => absurd e (by decide)⟩⟩)
        have U8 := Lib.hid (show ∀ v0' w0', Q 8 v0' w0' ↔ AggS wr.heap.size N D d [(a1, a2), (c1, c2)] v0' w0' from fun v0' w0' => by rw [hQ]; exact ⟨fun h => h.2.1 rfl, fun h => ⟨fun e => absurd e (by decide), fun _ => h, fun e => absurd e (by decide)⟩⟩)
        have U9 := Lib.hid (show ∀ v0' w0', Q 9 v0' w0' ↔ PtrS wr.heap.size v0' w0' from fun v0' w0' => by rw [hQ]; exact ⟨fun h => h.2.2 rfl, fun h => ⟨fun e => absurd e (by decide), fun e => absurd e (by decide), fun _ => h⟩⟩)
        have HQ := Lib.hid hQ
        clear hQ
        obtain ⟨RX, hRX⟩ : ∃ f9 : Value → World → Prop, f9 = (fun v W => ∃ q g, v = .pointer (some ⟨q, 0, none⟩) ∧ wr.heap.size ≤ q ∧ OS9 wr.heap.size (.slice (some ⟨g, 0, none⟩) 2 2) [(a1, a2), (c1, c2)] W ∧ W.heap[q]? = some (.cells #[.int .i64 N, .int .i64 D, .int .i64 d, .slice (some ⟨g, 0, none⟩) 2 2] 101 (0, 0)) ∧ Below wr.heap.size wr W ∧ g ≠ q) := ⟨_, rfl⟩
        have HRX := Lib.hid hRX
        clear hRX
        refine wpIn_wide.1 (region_inv2 (n := 9) (by kernel_rfl) (RL Q wr 10 9 RX) (by kernel_rfl) rfl (RL.start _ _ _ _ _ _) ?hstep ?hend)
        case hstep =>
          intro i' o ho val L b' x hF hR hpre hl
          match i', ho with
          | 0, ho =>
            simp at ho; subst ho; refine step_plain rfl ?_; have hN := hF.later hl 10 rfl (e := ⟨0, .phase⟩) (by simp) rfl rfl
            have hR := hR.1 hN
            have e5 := hF.was 5 (by kernel_rfl) rfl; have hgoal := RL.go (al := 9) (R := RX) hR hst HQ 0 rfl (by decide) hN; have q0 := cell_keep hR.1 s0; have q1 := cell_keep hR.1 s1; have q2 := cell_keep hR.1 s2; clear hF hpre hl hR hN; go_simp; exact ⟨_, rfl, hgoal _ _ (Below.refl _ _) rfl⟩
          | 1, ho =>
            simp at ho; subst ho; refine step_plain rfl ?_; have hN := hF.later hl 10 rfl (e := ⟨1, .phase⟩) (by simp) rfl rfl
            have hR := hR.1 hN
            have e1 := hF.was 1 (by kernel_rfl) rfl; have hgoal := RL.go (al := 9) (R := RX) hR hst HQ 1 rfl (by decide) hN; clear hF hpre hl hR hN; go_simp; exact ⟨_, rfl, hgoal _ _ (Below.refl _ _) rfl⟩
          | 2, ho =>
            simp at ho; subst ho; refine step_plain rfl ?_; have hN := hF.later hl 10 rfl (e := ⟨2, .phase⟩) (by simp) rfl rfl
            have hR := hR.1 hN
            have e74 := hF.gv hR.2 HQ 1 rfl (hpre ⟨1, .data⟩ (by simp) rfl) rfl; have hgoal := RL.go (al := 9) (R := RX) hR hst HQ 2 rfl (by decide) hN; clear hF hpre hl hR hN; go_simp; exact ⟨_, rfl, hgoal _ _ (Below.refl _ _) rfl⟩
          | 3, ho =>
            simp at ho; subst ho; refine step_plain rfl ?_; have hN := hF.later hl 10 rfl (e := ⟨3, .phase⟩) (by simp) rfl rfl
            have hR := hR.1 hN
            have e75 := hF.gv hR.2 HQ 2 rfl (hpre ⟨2, .data⟩ (by simp) rfl) rfl; have hgoal := RL.go (al := 9) (R := RX) hR hst HQ 3 rfl (by decide) hN; have q0 := cell_keep hR.1 x0; have q1 := cell_keep hR.1 x1; clear hF hpre hl hR hN; go_simp; exact ⟨_, rfl, hgoal _ _ (Below.refl _ _) rfl⟩
          | 4, ho =>
            simp at ho; subst ho; refine step_plain rfl ?_; have hN := hF.later hl 10 rfl (e := ⟨4, .phase⟩) (by simp) rfl rfl
            have hR := hR.1 hN
            have e1 := hF.was 1 (by kernel_rfl) rfl; have hgoal := RL.go (al := 9) (R := RX) hR hst HQ 4 rfl (by decide) hN; clear hF hpre hl hR hN; go_simp; exact ⟨_, rfl, hgoal _ _ (Below.refl _ _) rfl⟩
          | 5, ho =>
            simp at ho; subst ho; refine step_plain rfl ?_; have hN := hF.later hl 10 rfl (e := ⟨5, .phase⟩) (by simp) rfl rfl
            have hR := hR.1 hN
            have e77 := hF.gv hR.2 HQ 4 rfl (hpre ⟨4, .data⟩ (by simp) rfl) rfl; have hgoal := RL.go (al := 9) (R := RX) hR hst HQ 5 rfl (by decide) hN; clear hF hpre hl hR hN; go_simp; exact ⟨_, rfl, hgoal _ _ (Below.refl _ _) rfl⟩
          | 6, ho =>
            simp at ho; subst ho; refine step_plain rfl ?_; have hN := hF.later hl 10 rfl (e := ⟨6, .phase⟩) (by simp) rfl rfl
            have hR := hR.1 hN
            have e78 := hF.gv hR.2 HQ 5 rfl (hpre ⟨5, .data⟩ (by simp) rfl) rfl; have hgoal := RL.go (al := 9) (R := RX) hR hst HQ 6 rfl (by decide) hN; have q0 := cell_keep hR.1 x2; have q1 := cell_keep hR.1 x3; clear hF hpre hl hR hN; go_simp; exact ⟨_, rfl, hgoal _ _ (Below.refl _ _) rfl⟩
          | 7, ho =>
            simp at ho; subst ho; refine step_plain rfl ?_; have hN := hF.later hl 10 rfl (e := ⟨7, .phase⟩) (by simp) rfl rfl
            have hR := hR.1 hN
            have e76 := hF.gv hR.2 HQ 3 rfl (hpre ⟨3, .data⟩ (by simp) rfl) rfl; have e79 := hF.gv hR.2 HQ 6 rfl (hpre ⟨6, .data⟩ (by simp) rfl) rfl
            have hgoal : ∀ v0' w0', Below x.heap.size x w0' → TwoS wr.heap.size [(a1, a2), (c1, c2)] v0' w0' → RL Q wr 10 9 RX (upd val 7 v0') (L.setIfInBounds 7 true) w0' := fun v0' w0' hb hq => RL.step hR hst hb ((U7.out _ _).2 hq) (by decide) hN
            have hM := Lib.hid hR.1
            clear hF hpre hl hR hN; go_simp
            refine ⟨_, rfl, hgoal _ _ ((Below.refl _ _).alloc (Nat.le_refl _) _) ⟨_, rfl, ?_⟩⟩
            have := (World.ownsRow_lit (base := x.heap.size) (e := 27) (size := 2) x #[.int .i64 a1, .int .i64 a2, .int .i64 c1, .int .i64 c2] 2 (by simp) (le_maxLen (by omega)) (by simp)).mono hM.out.size
            simpa [OS9, spanCells] using this
          | 8, ho =>
            simp at ho; subst ho; refine step_plain rfl ?_; have hN := hF.later hl 10 rfl (e := ⟨8, .data⟩) (by simp) rfl rfl
            have hR := hR.1 hN
            have e73 := hF.gv hR.2 HQ 0 rfl (hpre ⟨0, .data⟩ (by simp) rfl) rfl; have e80 := hF.gave 7 rfl (hpre ⟨7, .data⟩ (by simp) rfl) rfl
            have v7 := (U7.out _ _).1 (hR.2 7 (hpre ⟨7, .data⟩ (by simp) rfl))
            have hgoal : ∀ v0' w0', Below x.heap.size x w0' → AggS wr.heap.size N D d [(a1, a2), (c1, c2)] v0' w0' → RL Q wr 10 9 RX (upd val 8 v0') (L.setIfInBounds 8 true) w0' := fun v0' w0' hb hq => RL.step hR hst hb ((U8.out _ _).2 hq) (by decide) hN
            have hM := Lib.hid hR.1
            clear hF hpre hl hR hN
            obtain ⟨g, e8, h8⟩ := v7
            rw [e8] at e80
            go_simp; exact ⟨_, rfl, hgoal _ _ (Below.refl _ _) ⟨g, rfl, h8⟩⟩
          | 9, ho =>
            simp at ho; subst ho; refine step_plain rfl ?_; have hN := hF.later hl 10 rfl (e := ⟨9, .data⟩) (by simp) rfl rfl
            have hR := hR.1 hN
            have hgoal : ∀ v0' w0', Below x.heap.size x w0' → PtrS wr.heap.size v0' w0' → RL Q wr 10 9 RX (upd val 9 v0') (L.setIfInBounds 9 true) w0' := fun v0' w0' hb hq => RL.step hR hst hb ((U9.out _ _).2 hq) (by decide) hN
            have hM := Lib.hid hR.1
            clear hF hpre hl hR hN; go_simp; exact ⟨_, rfl, hgoal _ _ ((Below.refl _ _).alloc (Nat.le_refl _) _) ⟨_, rfl, hM.out.size, blk_new _ _ _ rfl⟩⟩
          | 10, ho =>
            simp at ho; subst ho; refine step_plain rfl ?_; have hN := hF.none2 hl (by decide)
            have hls : 10 < L.size := by rw [hF.lsize]; decide
            have hR := hR.1 hN
            have e16 := hF.gave 9 rfl (hpre ⟨9, .data⟩ (by simp) rfl) rfl
            have v9 := (U9.out _ _).1 (hR.2 9 (hpre ⟨9, .data⟩ (by simp) rfl))
            have e81 := hF.gave 8 rfl (hpre ⟨8, .data⟩ (by simp) rfl) rfl
            have v8 := (U8.out _ _).1 (hR.2 8 (hpre ⟨8, .data⟩ (by simp) rfl))
            obtain ⟨g, e8, h8⟩ := v8
            obtain ⟨q, e9, hq, h9⟩ := v9
            rw [e8] at e81
            rw [e9] at e16
            have hR9 := sets_fill (N := N) (D := D) (d := d) h8 h9 hR.1 hq
            have k0 := cellOf (o := 0) h9 rfl
            have f0 := freeOf (o := 0) h9
            have k1 := cellOf (o := 1) h9 rfl
            have f1 := freeOf (o := 1) h9
            have k2 := cellOf (o := 2) h9 rfl
            have f2 := freeOf (o := 2) h9
            have k3 := cellOf (o := 3) h9 rfl
            have f3 := freeOf (o := 3) h9
            have lq := lt_of_block h9
            have HG := Lib.hid (And.intro hls (And.intro e9 (And.intro hq hR9)))
            clear hF hpre hl hR hls hN h8 h9 hR9 hq e8 e9; go_simp
            exact ⟨undef, by rw [HRX.out]; exact RL.last HG.out.1 (by decide) ⟨q, g, HG.out.2.1, HG.out.2.2.1, HG.out.2.2.2.1, HG.out.2.2.2.2.1, HG.out.2.2.2.2.2⟩⟩
          | i + 11, ho => simp at ho
        case hend =>
          intro val L b' x hF hall hR
          have e := hF.all (by kernel_rfl) hall
          have rl := hR.2 (hall 10 (by decide))
          rw [HRX.out] at rl
          have RL := Lib.hid rl
          clear hF hall hR hst HRX rl HQ U7 U8 U9
          subst e
          simp [final, dstOf, List.range, List.range.loop]
          obtain ⟨q, g, ev, hqw, hos, hbq, hbw, hne⟩ := RL.out
          rw [ev]
          have HOS := Lib.hid hos
          have HBQ := Lib.hid hbq
          have HBX := Lib.hid hbw
          clear ev hos hbq hbw hne s0 s1 s2 g0 g1 l0 l1 l2 x0 x1 x2 x3 lb hl0 hl1 hl0i hl1i RL
          go_upto_region 16 with (fail)
          go_loopw [83] (fun ui w3 => ∃ (j : Nat) (v : Value), j ≤ m ∧ ui = .int .i64 j ∧ OS9 wr.heap.size v ([(a1, a2), (c1, c2)] ++ List.replicate j (gl, gh)) w3 ∧ w3.heap[q]? = some (.cells #[.int .i64 N, .int .i64 D, .int .i64 d, v] 101 (0, 0)) ∧ Below wr.heap.size wr w3) (fun ui _ => m - (intOf ui).toNat)
          case atStart => exact ⟨0, _, Nat.zero_le _, rfl, by simpa using HOS.out, HBQ.out, HBX.out⟩
          case round =>
            obtain ⟨j, v, hj, rfl, hos, hbq, hbw⟩ := hrel
            have el : ([(a1, a2), (c1, c2)] ++ List.replicate j (gl, gh)).length = j + 2 := by simp
            obtain ⟨A9, c9, ev9, hc9, hr9⟩ := hos.rs
            rw [el] at ev9 hc9
            subst ev9
            have HC9 := Lib.hid hc9
            clear el hc9 hr9
            have HA9 := Lib.hid (HAW.out.next hbw)
            have HO9 := Lib.hid hos
            have HQ9 := Lib.hid hbq
            have HB9 := Lib.hid hbw
            have k0 := cellOf (o := 0) hbq rfl
            have k1 := cellOf (o := 1) hbq rfl
            have k2 := cellOf (o := 2) hbq rfl
            have k3 := cellOf (o := 3) hbq rfl
            have lq := lt_of_block hbq
            by_cases hlt : j < m
            · have g0 := cellOf (o := 0) HA9.out.g rfl
              have g1 := cellOf (o := 1) HA9.out.g rfl
              have l1 := lt_of_block HA9.out.g
              clear hos hbq hbw
              have hlen : ([(a1, a2), (c1, c2)] ++ List.replicate j (gl, gh)).length ≤ 1000000 := by simp; omega
              go_wp2_with (at_builtin; refine wpList_pushSp rfl _ _ rfl _ _ _ rfl (HO9.out.stay ((Below.refl wr.heap.size wr).alloc (Nat.le_refl _) (.cells #[.int .i64 gl, .int .i64 gh] 27))) wr.heap.size (gl, gh) rfl (by rw [cell_newest]; rfl) (by rw [cell_newest]; rfl) hlen (by have := HB9.out.size; simp; omega) ?_)
              intro v' w' hv' hg'
              have hbq' := (hg'.block q (by simp; omega) (fun e => os_ne HO9.out HQ9.out e.symm)).trans (blk_old (.cells #[.int .i64 gl, .int .i64 gh] 27) HQ9.out)
              have hbw' := (HB9.out.alloc HB9.out.size (.cells #[.int .i64 gl, .int .i64 gh] 27)).grown hg' (by simp; have := HB9.out.size; omega) (fun k hk => (HO9.out.lt k hk).1)
              have HV' := Lib.hid hv'
              obtain ⟨A', c', ev', _, _⟩ := hv'.rs
              have HQ' := Lib.hid hbq'
              have HB' := Lib.hid hbw'
              clear k0 k1 k2 k3 lq g0 g1 l1
              have k3' := cellOf (o := 3) hbq' rfl
              have f3' := freeOf (o := 3) hbq'
              have lq' := lt_of_block hbq'
              obtain ⟨n', hn'⟩ : ∃ n', ((a1, a2) :: (c1, c2) :: (List.replicate j (gl, gh) ++ [(gl, gh)])).length = n' := ⟨_, rfl⟩
              rw [hn'] at ev'
              clear hv' hg' hbq' hbw' hn'
              subst ev'
              go_wp2
              go_roundw
              case rel =>
                refine ⟨j + 1, _, hlt, by go_num, ?_, (block_setCell (o := 3) _ HQ'.out).trans (by rfl), HB'.out.setCell (p := ⟨q, 3, none⟩) hqw _⟩
                have h9 := os_set (o := 3) (u := .slice A' n' c') HV'.out (os_ne HV'.out HQ'.out)
                rw [← List.replicate_succ'] at h9
                exact h9
              case measure => simp [intOf] <;> omega
            · obtain rfl : m = j := by omega
              clear hos hbq hbw
              have r0 := cellOf (o := 0) HA9.out.r rfl
              have f0 := freeOf (o := 0) HA9.out.r
              have r1 := cellOf (o := 1) HA9.out.r rfl
              have f1 := freeOf (o := 1) HA9.out.r
              have r2 := cellOf (o := 2) HA9.out.r rfl
              have f2 := freeOf (o := 2) HA9.out.r
              have r3 := cellOf (o := 3) HA9.out.r rfl
              have f3 := freeOf (o := 3) HA9.out.r
              have l2 := lt_of_block HA9.out.r
              go_wp2
              have hp9 := HA9.out.put N D d (.slice A9 (m + 2) c9)
              have hq9 := HA9.out.putB N D d (.slice A9 (m + 2) c9)
              have hne := os_ne HO9.out HA9.out.r
              have ho9 := os_set (o := 3) (u := .slice A9 (m + 2) c9) (os_set (o := 2) (u := .int .i64 d) (os_set (o := 1) (u := .int .i64 D) (os_set (o := 0) (u := .int .i64 N) HO9.out hne) hne) hne) hne
              clear r0 r1 r2 r3 f0 f1 f2 f3 l2 k0 k1 k2 k3 lq
              generalize (((World.setCell wr _ _).setCell _ _).setCell _ _).setCell _ _ = w9 at *
              have d0 := cellOf (o := 0) hp9 rfl
              have d1' := cellOf (o := 1) hp9 rfl
              have d2' := cellOf (o := 2) hp9 rfl
              have d3 := cellOf (o := 3) hp9 rfl
              obtain ⟨A, c, e9, _, hr9⟩ := ho9.rs
              injection e9 with e1 e2 e3
              subst e1
              refine bodyPost_ret (v := .tuple #[.agg #[.int .i64 N, .int .i64 D, .int .i64 d, .slice A9 (m + 2) c9], .int .i64 0]) (by simp [results, Try.results63, go_sem, d0, d1', d2', d3]) rfl ?_
              refine ⟨A9, c9, rfl, HC9.out, ?_, hq9⟩
              rw [HE2.out]
              exact hr9
end Go.Proofs.Ytnnmmojlgikdgaa

/- CheckSets. -/
namespace Go.Proofs.Ytnnmmojlgikdgaa
open Go.RowKit

/-- The boxes of a sling and gusts. -/
structure AV (N D d gl gh : Int) (w W : World) : Prop where
  s : W.heap[w.heap.size]? = some (.cells #[.int .i64 N, .int .i64 D, .int .i64 d] 23 (0, 0))
  g : W.heap[w.heap.size + 1]? = some (.cells #[.int .i64 gl, .int .i64 gh] 27 (0, 0))
  b : Below w.heap.size w W
section
variable {N D d gl gh : Int} {w W W' : World}
theorem AV.next (h : AV N D d gl gh w W) (hb : Below W.heap.size W W') : AV N D d gl gh w W' :=
  ⟨(hb.block _ (lt_of_block h.s)).trans h.s, (hb.block _ (lt_of_block h.g)).trans h.g, h.b.trans (hb.mono h.b.size)⟩
theorem AV.alloc (h : AV N D d gl gh w W) (o : Obj) : AV N D d gl gh w (W.alloc o) := h.next ((Below.refl _ _).alloc (Nat.le_refl _) _)
theorem AV.start : AV N D d gl gh w ((w.alloc (.cells #[.int .i64 N, .int .i64 D, .int .i64 d] 23)).alloc (.cells #[.int .i64 gl, .int .i64 gh] 27)) :=
  ⟨blk_old _ (blk_new _ _ _ rfl), blk_new _ _ _ (by simp), by go_grown⟩
end
theorem inM_wB {lo hi most : Int} (h : lo ≤ hi) : inM lo hi most = wB (-most) most [lo, hi] := by
  unfold inM wB
  simp only [List.all_cons, List.all_nil, Bool.and_true]
  rw [Bool.eq_iff_iff]
  simp only [Bool.and_eq_true, decide_eq_true_eq]
  omega
theorem saB_nu {a1 a2 c1 c2 gl gh nn : Int} (hc : chkB [(a1, a2), (c1, c2)] = true) (hv : vS (gl, gh) = true) : saB [(a1, a2), (c1, c2)] gl gh nn = nuB a1 a2 c1 c2 gl gh nn := by
  have h : vS (a1, a2) = true ∧ vS (c1, c2) = true := by
    unfold chkB at hc
    simpa using hc
  unfold saB nuB
  rw [inM_wB (vS_get h.1).1, inM_wB (vS_get h.2).1, inM_wB (vS_get hv).1]
  simp only [List.all_cons, List.all_nil, Bool.and_true, List.length_cons, List.length_nil]
  cases wB (-1000) 1000 [a1, a2] <;> cases wB (-1000) 1000 [c1, c2] <;> cases wB (-100) 100 [gl, gh] <;> cases decide (0 ≤ nn ∧ nn ≤ 16) <;> rfl
theorem saB_len {b : List (Int × Int)} {gl gh nn : Int} (h : b.length ≠ 2) : saB b gl gh nn = false := by
  unfold saB
  rw [decide_eq_false h]
  rfl

set_option maxRecDepth 100000 in
set_option maxHeartbeats 2000000 in
theorem checkSets_any (N D d gl gh nn : Int) (Ab : Option Addr) (nb cb B : Nat) (b : List (Int × Int)) (w : World) (hb : b.length = nb) (hnb : nb ≤ maxLen) (hB : B ≤ w.heap.size) (hr : RS w B Ab b) :
    Calls Try.prog 40 #[.agg #[.int .i64 N, .int .i64 D, .int .i64 d], .slice Ab nb cb, .agg #[.int .i64 gl, .int .i64 gh], .int .i64 nn] w fun e w' => e = .returned (.int .i64 (alE N D d b gl gh nn [])) ∧ Below w.heap.size w w' := by
  have HA0 := Lib.hid (AV.start (N := N) (D := D) (d := d) (gl := gl) (gh := gh) (w := w))
  have HC := Lib.hid (fun W => rslcheck_any N D d W)
  have HCB := Lib.hid (fun (W : World) (hW : Below w.heap.size w W) => rcheck_any Ab nb cb w.heap.size b W hb hnb hW.size ((hr.more hB).below hW))
  have HV := Lib.hid (fun W => rvalid_any gl gh W)
  rw [← vS_vI gl gh] at HV
  cases hs : slB N D d with
  | false =>
    have hE : alE N D d b gl gh nn [] = 70 := by unfold alE; rw [hs]; rfl
    rw [slE_no hs] at HC
    rw [hE]
    clear hs hE hr hb
    go_enter Try.func40, Try.ntmps40
    go_upto_region 1 with (fail)
    generalize World.alloc _ _ = w1 at *
    have s0 := cellOf (o := 0) HA0.out.s rfl
    have s1 := cellOf (o := 1) HA0.out.s rfl
    have s2 := cellOf (o := 2) HA0.out.s rfl
    have g0 := cellOf (o := 0) HA0.out.g rfl
    have g1 := cellOf (o := 1) HA0.out.g rfl
    have l0 := lt_of_block HA0.out.s
    have l1 := lt_of_block HA0.out.g
    go_wp2_with (first
      | (go_at_call 16; refine Calls.mono (HC.out _) ?_; rintro e w2 ⟨rfl, hb2⟩; have HA2 := Lib.hid (HA0.out.next hb2); clear hb2 s0 s1 s2 g0 g1 l0 l1; have s0 := cellOf (o := 0) HA2.out.s rfl; have s1 := cellOf (o := 1) HA2.out.s rfl; have s2 := cellOf (o := 2) HA2.out.s rfl; have g0 := cellOf (o := 0) HA2.out.g rfl; have g1 := cellOf (o := 1) HA2.out.g rfl; have l0 := lt_of_block HA2.out.s; have l1 := lt_of_block HA2.out.g))
    go_ret
    exact ⟨rfl, HA2.out.b⟩
  | true =>
    rw [slE_yes hs] at HC
    cases hc : chkB b with
    | false =>
      have hE : alE N D d b gl gh nn [] = 10 := by unfold alE; rw [hs, hc]; rfl
      rw [chkE_no hc] at HCB
      rw [hE]
      clear hs hE hc hr hb
      go_enter Try.func40, Try.ntmps40
      go_upto_region 1 with (fail)
      generalize World.alloc _ _ = w1 at *
      have s0 := cellOf (o := 0) HA0.out.s rfl
      have s1 := cellOf (o := 1) HA0.out.s rfl
      have s2 := cellOf (o := 2) HA0.out.s rfl
      have g0 := cellOf (o := 0) HA0.out.g rfl
      have g1 := cellOf (o := 1) HA0.out.g rfl
      have l0 := lt_of_block HA0.out.s
      have l1 := lt_of_block HA0.out.g
      go_wp2_with (first
        | (go_at_call 16; refine Calls.mono (HC.out _) ?_; rintro e w2 ⟨rfl, hb2⟩; have HA2 := Lib.hid (HA0.out.next hb2); clear hb2 s0 s1 s2 g0 g1 l0 l1; have s0 := cellOf (o := 0) HA2.out.s rfl; have s1 := cellOf (o := 1) HA2.out.s rfl; have s2 := cellOf (o := 2) HA2.out.s rfl; have g0 := cellOf (o := 0) HA2.out.g rfl; have g1 := cellOf (o := 1) HA2.out.g rfl; have l0 := lt_of_block HA2.out.s; have l1 := lt_of_block HA2.out.g)
        | (go_at_call 69; refine Calls.mono (HCB.out _ HA2.out.b) ?_; rintro e w3 ⟨rfl, hb3⟩; have HA3 := Lib.hid (HA2.out.next hb3); clear hb3 s0 s1 s2 g0 g1 l0 l1; have s0 := cellOf (o := 0) HA3.out.s rfl; have s1 := cellOf (o := 1) HA3.out.s rfl; have s2 := cellOf (o := 2) HA3.out.s rfl; have g0 := cellOf (o := 0) HA3.out.g rfl; have g1 := cellOf (o := 1) HA3.out.g rfl; have l0 := lt_of_block HA3.out.s; have l1 := lt_of_block HA3.out.g))
      go_ret
      exact ⟨rfl, HA3.out.b⟩
    | true =>
      rw [chkE_yes hc] at HCB
      cases hv : vS (gl, gh) with
      | false =>
        have hE : alE N D d b gl gh nn [] = 10 := by unfold alE; rw [hs, hc, hv]; rfl
        rw [hv] at HV
        rw [hE]
        clear hs hE hc hv hr hb
        go_enter Try.func40, Try.ntmps40
        go_upto_region 1 with (fail)
        generalize World.alloc _ _ = w1 at *
        have s0 := cellOf (o := 0) HA0.out.s rfl
        have s1 := cellOf (o := 1) HA0.out.s rfl
        have s2 := cellOf (o := 2) HA0.out.s rfl
        have g0 := cellOf (o := 0) HA0.out.g rfl
        have g1 := cellOf (o := 1) HA0.out.g rfl
        have l0 := lt_of_block HA0.out.s
        have l1 := lt_of_block HA0.out.g
        go_wp2_with (first
          | (go_at_call 16; refine Calls.mono (HC.out _) ?_; rintro e w2 ⟨rfl, hb2⟩; have HA2 := Lib.hid (HA0.out.next hb2); clear hb2 s0 s1 s2 g0 g1 l0 l1; have s0 := cellOf (o := 0) HA2.out.s rfl; have s1 := cellOf (o := 1) HA2.out.s rfl; have s2 := cellOf (o := 2) HA2.out.s rfl; have g0 := cellOf (o := 0) HA2.out.g rfl; have g1 := cellOf (o := 1) HA2.out.g rfl; have l0 := lt_of_block HA2.out.s; have l1 := lt_of_block HA2.out.g)
          | (go_at_call 69; refine Calls.mono (HCB.out _ HA2.out.b) ?_; rintro e w3 ⟨rfl, hb3⟩; have HA3 := Lib.hid (HA2.out.next hb3); clear hb3 s0 s1 s2 g0 g1 l0 l1; have s0 := cellOf (o := 0) HA3.out.s rfl; have s1 := cellOf (o := 1) HA3.out.s rfl; have s2 := cellOf (o := 2) HA3.out.s rfl; have g0 := cellOf (o := 0) HA3.out.g rfl; have g1 := cellOf (o := 1) HA3.out.g rfl; have l0 := lt_of_block HA3.out.s; have l1 := lt_of_block HA3.out.g)
          | (go_at_call 61; refine Calls.mono (HV.out _) ?_; rintro e w4 ⟨rfl, hb4⟩; have HA4 := Lib.hid (HA3.out.next hb4); clear hb4 s0 s1 s2 g0 g1 l0 l1; have s0 := cellOf (o := 0) HA4.out.s rfl; have s1 := cellOf (o := 1) HA4.out.s rfl; have s2 := cellOf (o := 2) HA4.out.s rfl; have g0 := cellOf (o := 0) HA4.out.g rfl; have g1 := cellOf (o := 1) HA4.out.g rfl; have l0 := lt_of_block HA4.out.s; have l1 := lt_of_block HA4.out.g))
        go_ret
        exact ⟨rfl, HA4.out.b⟩
      | true =>
        rw [hv] at HV
        have HN := Lib.hid (show ∀ (W : World) (hW : Below w.heap.size w W), Calls Try.prog 70 #[.slice Ab nb cb, .agg #[.int .i64 gl, .int .i64 gh], .int .i64 nn] W fun e w' => e = .returned (.int .i64 (alE N D d b gl gh nn [])) ∧ Below W.heap.size W w' by
          intro W hW
          have hE : alE N D d b gl gh nn [] = if saB b gl gh nn then 0 else 1 := by unfold alE; rw [hs, hc, hv]; rfl
          rw [hE]
          by_cases h2 : b.length = 2
          · obtain ⟨⟨a1, a2⟩, ⟨c1, c2⟩, rfl⟩ := list_two h2
            rw [saB_nu hc hv]
            obtain rfl : nb = 2 := by rw [← hb]; rfl
            exact checkNumbers_two a1 a2 c1 c2 gl gh nn Ab cb w.heap.size W hW.size ((hr.more hB).below hW)
          · rw [saB_len h2]
            exact checkNumbers_no gl gh nn Ab nb cb W (by omega))
        generalize alE N D d b gl gh nn [] = E at *
        clear hs hc hv hr hb
        go_enter Try.func40, Try.ntmps40
        go_upto_region 1 with (fail)
        generalize World.alloc _ _ = w1 at *
        have s0 := cellOf (o := 0) HA0.out.s rfl
        have s1 := cellOf (o := 1) HA0.out.s rfl
        have s2 := cellOf (o := 2) HA0.out.s rfl
        have g0 := cellOf (o := 0) HA0.out.g rfl
        have g1 := cellOf (o := 1) HA0.out.g rfl
        have l0 := lt_of_block HA0.out.s
        have l1 := lt_of_block HA0.out.g
        go_wp2_with (first
          | (go_at_call 16; refine Calls.mono (HC.out _) ?_; rintro e w2 ⟨rfl, hb2⟩; have HA2 := Lib.hid (HA0.out.next hb2); clear hb2 s0 s1 s2 g0 g1 l0 l1; have s0 := cellOf (o := 0) HA2.out.s rfl; have s1 := cellOf (o := 1) HA2.out.s rfl; have s2 := cellOf (o := 2) HA2.out.s rfl; have g0 := cellOf (o := 0) HA2.out.g rfl; have g1 := cellOf (o := 1) HA2.out.g rfl; have l0 := lt_of_block HA2.out.s; have l1 := lt_of_block HA2.out.g)
          | (go_at_call 69; refine Calls.mono (HCB.out _ HA2.out.b) ?_; rintro e w3 ⟨rfl, hb3⟩; have HA3 := Lib.hid (HA2.out.next hb3); clear hb3 s0 s1 s2 g0 g1 l0 l1; have s0 := cellOf (o := 0) HA3.out.s rfl; have s1 := cellOf (o := 1) HA3.out.s rfl; have s2 := cellOf (o := 2) HA3.out.s rfl; have g0 := cellOf (o := 0) HA3.out.g rfl; have g1 := cellOf (o := 1) HA3.out.g rfl; have l0 := lt_of_block HA3.out.s; have l1 := lt_of_block HA3.out.g)
          | (go_at_call 61; refine Calls.mono (HV.out _) ?_; rintro e w4 ⟨rfl, hb4⟩; have HA4 := Lib.hid (HA3.out.next hb4); clear hb4 s0 s1 s2 g0 g1 l0 l1; have s0 := cellOf (o := 0) HA4.out.s rfl; have s1 := cellOf (o := 1) HA4.out.s rfl; have s2 := cellOf (o := 2) HA4.out.s rfl; have g0 := cellOf (o := 0) HA4.out.g rfl; have g1 := cellOf (o := 1) HA4.out.g rfl; have l0 := lt_of_block HA4.out.s; have l1 := lt_of_block HA4.out.g)
          | (go_at_call 70; refine Calls.mono (HN.out _ HA4.out.b) ?_; rintro e w5 ⟨rfl, hb5⟩; have HA5 := Lib.hid (HA4.out.next hb5); clear hb5))
        go_ret
        exact ⟨rfl, HA5.out.b⟩
end Go.Proofs.Ytnnmmojlgikdgaa

/- The reference's keeps. -/
namespace Go.Proofs.Ytnnmmojlgikdgaa
open Go.RowKit

def rkN (N D d : Int) (S : List (Int × Int)) (lo hi : Int) (k : Nat) : Int := if stF (kpB N D d S lo hi) 0 (k + 1) ≤ k then (stF (kpB N D d S lo hi) 0 (k + 1) : Int) else -1
theorem take_rep {b : List (Int × Int)} {g : Int × Int} {n t : Nat} (hb : b.length = 2) (ht : t ≤ n) : (b ++ List.replicate n g).take (t + 2) = b ++ List.replicate t g := by
  rw [List.take_append, List.take_of_length_le (by omega), List.take_replicate, hb]
  congr 2
  omega
/-- With spans that are spans the lower end and the upper one decide. -/
theorem kpB_ends {N D d lo hi : Int} {S : List (Int × Int)} {t : Nat} (hv : ∀ s ∈ S, s.1 ≤ s.2) (hl : t + 2 ≤ S.length) : kpB N D d S lo hi t = (decide (lo * powI d t ≤ endN false (S.take (t + 2)) (efL N D d t)) && decide (endN true (S.take (t + 2)) (efL N D d t) ≤ hi * powI d t)) := by
  have := end_le (S := S.take (t + 2)) (E := efL N D d t) (fun s hs => hv s (List.mem_of_mem_take hs)) (by rw [efL_len]; simp; omega)
  unfold kpB inF
  rw [Bool.eq_iff_iff]
  simp only [Bool.and_eq_true, decide_eq_true_eq]
  omega

set_option maxRecDepth 100000 in
set_option maxHeartbeats 4000000 in
theorem rkeeps7_any (N D d gl gh lo hi : Int) (Ab : Option Addr) (nb cb n B : Nat) (b : List (Int × Int)) (w : World) (hs : slB N D d = true) (hlv : vS (lo, hi) = true) (hn : n ≤ 16) (hb : b.length = nb) (hb2 : nb = 2) (hS : SB (b ++ List.replicate n (gl, gh))) (hv : ∀ s ∈ b ++ List.replicate n (gl, gh), s.1 ≤ s.2) (hB : B ≤ w.heap.size) (hr : RS w B Ab b) :
    Calls Try.prog 71 #[.agg #[.int .i64 N, .int .i64 D, .int .i64 d], .slice Ab nb cb, .agg #[.int .i64 gl, .int .i64 gh], .int .i64 n, .agg #[.int .i64 lo, .int .i64 hi]] w fun e w' => e = .returned (.int .i64 (rkN N D d (b ++ List.replicate n (gl, gh)) lo hi n)) ∧ Below w.heap.size w w' := by
  obtain ⟨⟨d1, d2⟩, _, _⟩ := slB_get hs
  obtain ⟨hlh, hlo, hhi⟩ := vS_get hlv
  have HEN := Lib.hid (fun (t : Nat) (h : t ≤ n) (high : Bool) (W : World) (hW : Below w.heap.size w W) => by
    have := rends7_any N D d gl gh Ab nb cb t w.heap.size b high W hs (by omega) hb hb2 (by have := hS.take (t + 2); rwa [take_rep (by omega) h] at this) hW.size ((hr.more hB).below hW)
    rw [← take_rep (n := n) (by omega) h] at this
    exact this)
  have HPW := Lib.hid (fun (t : Nat) (h : t ≤ n) (W : World) => power_any d t W d1 d2 (by omega))
  have HPB := Lib.hid (fun (t : Nat) (h : t ≤ n) => And.intro (powI_bd d1 d2 t).1 (Int.le_trans ((powI_bd d1 d2 t).2 (by omega)) (powI_4 (show t ≤ 16 by omega))))
  have HKP := Lib.hid (fun (t : Nat) (h : t ≤ n) => kpB_ends (N := N) (D := D) (d := d) (lo := lo) (hi := hi) (t := t) hv (by simp; omega))
  have hr9 : rkN N D d (b ++ List.replicate n (gl, gh)) lo hi n = if stF (kpB N D d (b ++ List.replicate n (gl, gh)) lo hi) 0 (n + 1) ≤ n then (stF (kpB N D d (b ++ List.replicate n (gl, gh)) lo hi) 0 (n + 1) : Int) else -1 := rfl
  generalize rkN N D d (b ++ List.replicate n (gl, gh)) lo hi n = r9 at *
  obtain ⟨P, hP⟩ : ∃ P, kpB N D d (b ++ List.replicate n (gl, gh)) lo hi = P := ⟨_, rfl⟩
  rw [hP] at hr9 HKP
  obtain ⟨S, hS9⟩ : ∃ S, b ++ List.replicate n (gl, gh) = S := ⟨_, rfl⟩
  rw [hS9] at HKP HEN
  have HR9 := Lib.hid hr9
  have HA0 := Lib.hid ((AV.start (N := N) (D := D) (d := d) (gl := gl) (gh := gh) (w := w)).alloc (.cells #[.int .i64 lo, .int .i64 hi] 27))
  have HL0 := Lib.hid (blk_new ((w.alloc (.cells #[.int .i64 N, .int .i64 D, .int .i64 d] 23)).alloc (.cells #[.int .i64 gl, .int .i64 gh] 27)) (.cells #[.int .i64 lo, .int .i64 hi] 27) (w.heap.size + 1 + 1) (by simp))
  clear hs hlv hb hb2 hS hv hr hr9 hP hS9
  go_enter Try.func71, Try.ntmps71
  go_upto_region 2 with (fail)
  generalize World.alloc _ _ = w1 at *
  go_loopw [11] (fun ui wr => ∃ t : Nat, t ≤ n + 1 ∧ ui = .int .i64 t ∧ stF P 0 (n + 1) = stF P t (n + 1 - t) ∧ Below w1.heap.size w1 wr) (fun ui _ => n + 1 - (intOf ui).toNat)
  case atStart => exact ⟨0, by omega, rfl, rfl, Below.refl _ _⟩
  case round =>
    obtain ⟨t, ht, rfl, hst, hbw⟩ := hrel
    have HST := Lib.hid hst
    have HBW := Lib.hid hbw
    have HAW := Lib.hid (HA0.out.next hbw)
    have HLW := Lib.hid ((hbw.block _ (lt_of_block HL0.out)).trans HL0.out)
    clear hst hbw
    by_cases hlt : t ≤ n
    · have hkp := HKP.out t hlt
      have hen0 := HEN.out t hlt false
      have hen1 := HEN.out t hlt true
      have hpb := HPB.out t hlt
      have hpw := HPW.out t hlt
      obtain ⟨lw, hlw⟩ : ∃ z, endN false (S.take (t + 2)) (efL N D d t) = z := ⟨_, rfl⟩
      obtain ⟨hw, hhw⟩ : ∃ z, endN true (S.take (t + 2)) (efL N D d t) = z := ⟨_, rfl⟩
      obtain ⟨dn, hdn⟩ : ∃ z, powI d t = z := ⟨_, rfl⟩
      rw [hlw] at hen0
      rw [hhw] at hen1
      rw [hlw, hhw, hdn] at hkp
      rw [hdn] at hpb hpw
      have HE0 := Lib.hid hen0
      have HE1 := Lib.hid hen1
      have HP := Lib.hid hpw
      have m1 := mul_bd (a := dn) (A := 4294967296) (u := lo) (M := 1000000) (by omega) hpb.2 (by omega) (by omega) (by omega)
      have m2 := mul_bd (a := dn) (A := 4294967296) (u := hi) (M := 1000000) (by omega) hpb.2 (by omega) (by omega) (by omega)
      rw [Int.mul_comm dn lo] at m1
      rw [Int.mul_comm dn hi] at m2
      obtain ⟨p1, hp1⟩ : ∃ z, lo * dn = z := ⟨_, rfl⟩
      obtain ⟨p2, hp2⟩ : ∃ z, hi * dn = z := ⟨_, rfl⟩
      rw [hp1, hp2] at hkp
      rw [hp1] at m1
      rw [hp2] at m2
      have i1 : IntKind.i64.wrap (lo * dn) = p1 := by rw [hp1]; exact IntWalk.i64_in _ (by omega)
      have i2 : IntKind.i64.wrap (hi * dn) = p2 := by rw [hp2]; exact IntWalk.i64_in _ (by omega)
      have HKPT := Lib.hid hkp
      have HS1 := Lib.hid (show n + 1 - t = (n - t) + 1 by omega)
      have s0 := cellOf (o := 0) HAW.out.s rfl
      have s1 := cellOf (o := 1) HAW.out.s rfl
      have s2 := cellOf (o := 2) HAW.out.s rfl
      have g0 := cellOf (o := 0) HAW.out.g rfl
      have g1 := cellOf (o := 1) HAW.out.g rfl
      have l0 := lt_of_block HAW.out.s
      have l1 := lt_of_block HAW.out.g
      clear hlw hhw hdn hen0 hen1 hpb hpw m1 m2 hp1 hp2 hkp
      go_upto_region 5 with (go_at_call 66; refine Calls.mono (HE0.out _ HAW.out.b) ?_; rintro e w3 ⟨u3, rfl, _, hb3⟩; have HA3 := Lib.hid (HAW.out.next hb3); have HB3 := Lib.hid (HBW.out.trans (hb3.mono HBW.out.size)); have HL3 := Lib.hid ((hb3.block _ (lt_of_block HLW.out)).trans HLW.out); clear hb3 s0 s1 s2 g0 g1 l0 l1)
      have s0 := cellOf (o := 0) HA3.out.s rfl
      have s1 := cellOf (o := 1) HA3.out.s rfl
      have s2 := cellOf (o := 2) HA3.out.s rfl
      have g0 := cellOf (o := 0) HA3.out.g rfl
      have g1 := cellOf (o := 1) HA3.out.g rfl
      have l0 := lt_of_block HA3.out.s
      have l1 := lt_of_block HA3.out.g
      go_upto_region 6 with (go_at_call 66; refine Calls.mono (HE1.out _ HA3.out.b) ?_; rintro e w4 ⟨u4, rfl, _, hb4⟩; have HA4 := Lib.hid (HA3.out.next hb4); have HB4 := Lib.hid (HB3.out.trans (hb4.mono HB3.out.size)); have HL4 := Lib.hid ((hb4.block _ (lt_of_block HL3.out)).trans HL3.out); clear hb4 s0 s1 s2 g0 g1 l0 l1)
      have s2 := cellOf (o := 2) HA4.out.s rfl
      have x0 := cellOf (o := 0) HL4.out rfl
      have x1 := cellOf (o := 1) HL4.out rfl
      have l0 := lt_of_block HA4.out.s
      have l2 := lt_of_block HL4.out
      by_cases k1 : lw < p1
      · go_wp2_with (go_at_call 58; refine Calls.mono (HP.out _) ?_; rintro e w5 ⟨rfl, rfl⟩)
        go_ret
        have hp0 : P t = false := by rw [HKPT.out, decide_eq_false (by omega)]; rfl
        have h9 := HR9.out
        rw [HST.out, HS1.out, stF_stop hp0, if_pos hlt] at h9
        exact ⟨by rw [h9]; try rfl, HA4.out.b⟩
      · by_cases k2 : p2 < hw
        · go_wp2_with (go_at_call 58; refine Calls.mono (HP.out _) ?_; rintro e w5 ⟨rfl, rfl⟩)
          go_ret
          have hp0 : P t = false := by rw [HKPT.out, decide_eq_false (show ¬ hw ≤ p2 by omega), Bool.and_false]
          have h9 := HR9.out
          rw [HST.out, HS1.out, stF_stop hp0, if_pos hlt] at h9
          exact ⟨by rw [h9]; try rfl, HA4.out.b⟩
        · go_wp2_with (go_at_call 58; refine Calls.mono (HP.out _) ?_; rintro e w5 ⟨rfl, rfl⟩)
          go_roundw
          case rel =>
            have hp1 : P t = true := by rw [HKPT.out, decide_eq_true (show p1 ≤ lw by omega), decide_eq_true (show hw ≤ p2 by omega)]; rfl
            exact ⟨t + 1, by omega, by go_num, by rw [HST.out, HS1.out, stF_step hp1, show n + 1 - (t + 1) = n - t by omega], HB4.out⟩
          case measure => simp [intOf] <;> omega
    · obtain rfl : t = n + 1 := by omega
      have h9 := HR9.out
      rw [HST.out, Nat.sub_self, show stF P (n + 1) 0 = n + 1 from rfl, if_neg (by omega)] at h9
      have HF9 := Lib.hid h9
      have hnl : ¬ ((n : Int) + 1 ≤ (n : Int)) := by omega
      clear h9 hlt
      go_wp2
      go_ret
      exact ⟨by rw [HF9.out]; try rfl, HAW.out.b⟩
end Go.Proofs.Ytnnmmojlgikdgaa

/- The sets that a call allows: wrong numbers. -/
namespace Go.Proofs.Ytnnmmojlgikdgaa
open Go.RowKit

set_option maxRecDepth 100000 in
set_option maxHeartbeats 4000000 in
theorem allow_bad2 (N D d gl gh nn : Int) (Ab Al : Option Addr) (nb cb nl cl B : Nat) (b l : List (Int × Int)) (w : World) (hb : b.length = nb) (hnb : nb ≤ maxLen) (hl : l.length = nl) (hnl : nl ≤ maxLen) (hB : B ≤ w.heap.size) (hrb : RS w B Ab b) (hrl : RS w B Al l) (hs : slB N D d = true) (hc : chkB b = true) (hv : vS (gl, gh) = true) (hll : l.all vS = true) (hsf : saB b gl gh nn = false) :
    Calls Try.prog 63 #[.agg #[.int .i64 N, .int .i64 D, .int .i64 d], .slice Ab nb cb, .agg #[.int .i64 gl, .int .i64 gh], .int .i64 nn, .slice Al nl cl] w fun e w' => e = .returned (.tuple #[.agg #[.int .i64 0, .int .i64 0, .int .i64 0, .slice none 0 0], .int .i64 1]) ∧ Below w.heap.size w w' := by
  have HA0 := Lib.hid (AW.start (N := N) (D := D) (d := d) (gl := gl) (gh := gh) (w := w))
  have HC := Lib.hid (fun W => slcheck_any N D d W)
  have HCB := Lib.hid (fun (W : World) (hW : Below w.heap.size w W) => check_any Ab nb cb w.heap.size b W hb hnb hW.size ((hrb.more hB).below hW))
  have HSG := Lib.hid (fun (W : World) (g : Nat) (hg : g < W.heap.size) (hr : RS W (g + 1) (some ⟨g, 0, none⟩) [(gl, gh)]) => checkSpans_any (some ⟨g, 0, none⟩) 1 1 (g + 1) [(gl, gh)] W rfl (le_maxLen (by omega)) hg hr)
  simp only [List.all_cons, List.all_nil, Bool.and_true] at HSG
  have HSL := Lib.hid (fun (W : World) (hW : Below w.heap.size w W) => checkSpans_any Al nl cl w.heap.size l W hl hnl hW.size ((hrl.more hB).below hW))
  have HWG := Lib.hid (fun (W : World) (g : Nat) (hr : RI W (g + 1) (some ⟨g, 0, none⟩) [gl, gh]) => within_any (-100) 100 (some ⟨g, 0, none⟩) 2 2 (g + 1) [gl, gh] W rfl (le_maxLen (by omega)) hr)
  have HWN := Lib.hid (fun (W : World) (g : Nat) (hr : RI W (g + 1) (some ⟨g, 0, none⟩) [nn]) => within_any 0 16 (some ⟨g, 0, none⟩) 1 1 (g + 1) [nn] W rfl (le_maxLen (by omega)) hr)
  have HWS := Lib.hid (fun (x1 x2 : Int) (W : World) (g : Nat) (hr : RI W (g + 1) (some ⟨g, 0, none⟩) [x1, x2]) => within_any (-1000) 1000 (some ⟨g, 0, none⟩) 2 2 (g + 1) [x1, x2] W rfl (le_maxLen (by omega)) hr)
  rw [slE_yes hs] at HC
  rw [chkE_yes hc] at HCB
  rw [hv] at HSG
  rw [hll] at HSL
  have HRB := Lib.hid (fun (W : World) (hW : Below w.heap.size w W) => (hrb.more hB).below hW)
  have hn3 : nb ≤ 3 := by unfold chkB at hc; simp at hc; omega
  obtain ⟨r0, hr0⟩ : ∃ r, ((decide (b.length = 2) && wB (-100) 100 [gl, gh]) && decide (0 ≤ nn ∧ nn ≤ 16)) = r := ⟨_, rfl⟩
  have hsa : saB b gl gh nn = (r0 && b.all fun s => wB (-1000) 1000 [s.1, s.2]) := by unfold saB; rw [hr0]
  have HR0 := Lib.hid hr0
  have HSA := Lib.hid hsa
  clear hs hc hv hll hr0 hsa hrb hrl
  subst hb
  go_enter Try.func63, Try.ntmps63
  go_upto_region 1 with (fail)
  generalize World.alloc _ _ = w1 at *
  have s0 := cellOf (o := 0) HA0.out.s rfl
  have s1 := cellOf (o := 1) HA0.out.s rfl
  have s2 := cellOf (o := 2) HA0.out.s rfl
  have g0 := cellOf (o := 0) HA0.out.g rfl
  have g1 := cellOf (o := 1) HA0.out.g rfl
  have l0 := lt_of_block HA0.out.s
  have l1 := lt_of_block HA0.out.g
  have l2 := lt_of_block HA0.out.r
  go_upto_region 2 with (go_at_call 15; refine Calls.mono (HC.out _) ?_; rintro e w2 ⟨rfl, hb2⟩; have HA2 := Lib.hid (HA0.out.next hb2); clear hb2 s0 s1 s2 g0 g1 l0 l1 l2)
  go_upto_region 6 with (first
    | (go_at_call 97; refine Calls.mono (HCB.out _ HA2.out.b) ?_; rintro e w3 ⟨rfl, hb3⟩; have HA3 := Lib.hid (HA2.out.next hb3); clear hb3; have g0 := cellOf (o := 0) HA3.out.g rfl; have g1 := cellOf (o := 1) HA3.out.g rfl; have l1 := lt_of_block HA3.out.g)
    | (go_at_call_of 59 (Value.slice Al nl cl); refine Calls.mono (HSL.out _ HA4.out.b) ?_; rintro e w5 ⟨rfl, hb5⟩; have HA5 := Lib.hid (HA4.out.next hb5); clear hb5)
    | (go_at_call 59; refine Calls.mono (HSG.out _ _ (by simp) (RS.new1 (by simp))) ?_; rintro e w4 ⟨rfl, hb4⟩; have HA4 := Lib.hid ((HA3.out.alloc _).next hb4); clear hb4 g0 g1 l1))
  go_cut [13] (fun u13 wx => u13 = .bool r0 ∧ AW N D d gl gh w wx)
  case first =>
    have g0 := cellOf (o := 0) HA5.out.g rfl
    have g1 := cellOf (o := 1) HA5.out.g rfl
    have l1 := lt_of_block HA5.out.g
    by_cases h2 : b.length = 2
    · obtain ⟨rg, hrg⟩ : ∃ r, wB (-100) 100 [gl, gh] = r := ⟨_, rfl⟩
      obtain ⟨rn, hrn⟩ : ∃ r, decide (0 ≤ nn ∧ nn ≤ 16) = r := ⟨_, rfl⟩
      have hr := HR0.out
      rw [hrg, hrn, decide_eq_true h2, Bool.true_and] at hr
      rw [hrg] at HWG
      rw [wB_one, hrn] at HWN
      have HRR := Lib.hid hr
      have hbi : ((b.length : Int) == 2) = true := by simp; omega
      clear hrg hrn hr h2
      cases rg with
      | false =>
        go_wp2_with (go_at_call 49; refine Calls.mono (HWG.out _ _ (RI.new2 (by simp))) ?_; rintro e w6 ⟨rfl, rfl⟩)
        go_meet
        case rel => exact ⟨by rw [← HRR.out]; rfl, HA5.out.alloc _⟩
      | true =>
        go_wp2_with (first
          | (go_at_call_of 49 (Value.int .i64 0); refine Calls.mono (HWN.out _ _ (RI.new1 (by simp))) ?_; rintro e w7 ⟨rfl, rfl⟩)
          | (go_at_call 49; refine Calls.mono (HWG.out _ _ (RI.new2 (by simp))) ?_; rintro e w6 ⟨rfl, rfl⟩))
        go_meet
        case rel => exact ⟨by rw [← HRR.out]; rfl, (HA5.out.alloc _).alloc _⟩
    · have hr := HR0.out
      rw [decide_eq_false h2] at hr
      have HRR := Lib.hid hr
      have hbi : ((b.length : Int) == 2) = false := by simp; omega
      clear hr h2 g0 g1 l1
      go_wp2
      go_meet
      case rel => exact ⟨by rw [← HRR.out]; rfl, HA5.out⟩
  case rest =>
    obtain ⟨rfl, haw⟩ := hcut
    have HA6 := Lib.hid haw
    clear haw
    go_upto_region 8 with (fail)
    go_loopw [13, 56] (fun ur ui wr => ∃ j : Nat, j ≤ b.length ∧ ui = .int .i64 j ∧ ur = .bool (r0 && (b.take j).all fun s => wB (-1000) 1000 [s.1, s.2]) ∧ Below wc.heap.size wc wr) (fun _ ui _ => b.length - (intOf ui).toNat)
    case atStart => exact ⟨0, Nat.zero_le _, rfl, by simp, Below.refl _ _⟩
    case round =>
      obtain ⟨j, hj, rfl, rfl, hbw⟩ := hrel
      have HAW := Lib.hid (HA6.out.next hbw)
      have HBW := Lib.hid hbw
      clear hbw
      by_cases hlt : j < b.length
      · obtain ⟨bb, off, s, rfl, hbb, hsx, hc1, hc2⟩ := (HRB.out wr HAW.out.b).at_ hlt
        have hlb : bb < wr.heap.size := World.block_lt_of_cell? _ _ hc1
        have htk : (b.take (j + 1)).all (fun s => wB (-1000) 1000 [s.1, s.2]) = ((b.take j).all (fun s => wB (-1000) 1000 [s.1, s.2]) && wB (-1000) 1000 [s.1, s.2]) := by
          rw [List.take_add_one, hsx, List.all_append]
          simp
        obtain ⟨x1, x2⟩ := s
        simp only at hc1 hc2 htk
        obtain ⟨rs, hrs⟩ : ∃ r, wB (-1000) 1000 [x1, x2] = r := ⟨_, rfl⟩
        obtain ⟨rj, hrj⟩ : ∃ r, (r0 && (b.take j).all fun s => wB (-1000) 1000 [s.1, s.2]) = r := ⟨_, rfl⟩
        have HW2 := Lib.hid (fun W g hr => by have := HWS.out x1 x2 W g hr; rw [hrs] at this; exact this)
        have HTK := Lib.hid (show (r0 && (b.take (j + 1)).all fun s => wB (-1000) 1000 [s.1, s.2]) = (rj && rs) by rw [htk, ← Bool.and_assoc, hrj, hrs])
        rw [hrj]
        clear htk hrs hrj hsx hbb
        cases rj with
        | false =>
          go_wp2
          go_roundw
          case rel => exact ⟨j + 1, hlt, by go_num, by rw [HTK.out]; rfl, HBW.out.alloc HBW.out.size _⟩
          case measure => simp [intOf] <;> omega
        | true =>
          go_wp2_with (go_at_call 49; refine Calls.mono (HW2.out _ _ (RI.new2 (by simp))) ?_; rintro e w6 ⟨rfl, rfl⟩)
          go_roundw
          case rel => exact ⟨j + 1, hlt, by go_num, by rw [HTK.out]; rfl, (HBW.out.alloc HBW.out.size _).alloc (by simp; have := HBW.out.size; omega) _⟩
          case measure => simp [intOf] <;> omega
      · obtain rfl : j = b.length := by omega
        rw [List.take_length, ← HSA.out]
        clear hlt
        rw [hsf]
        have r0 := cellOf (o := 0) HAW.out.r rfl
        have f0 := freeOf (o := 0) HAW.out.r
        have r1 := cellOf (o := 1) HAW.out.r rfl
        have f1 := freeOf (o := 1) HAW.out.r
        have r2 := cellOf (o := 2) HAW.out.r rfl
        have f2 := freeOf (o := 2) HAW.out.r
        have r3 := cellOf (o := 3) HAW.out.r rfl
        have f3 := freeOf (o := 3) HAW.out.r
        have l2 := lt_of_block HAW.out.r
        go_wp2
        have hp9 := HAW.out.put 0 0 0 (.slice none 0 0)
        have hq9 := HAW.out.putB 0 0 0 (.slice none 0 0)
        clear r0 r1 r2 r3 f0 f1 f2 f3 l2
        generalize (((World.setCell wr _ _).setCell _ _).setCell _ _).setCell _ _ = w9 at *
        have d0 := cellOf (o := 0) hp9 rfl
        have d1' := cellOf (o := 1) hp9 rfl
        have d2' := cellOf (o := 2) hp9 rfl
        have d3 := cellOf (o := 3) hp9 rfl
        exact bodyPost_ret (v := .tuple #[.agg #[.int .i64 0, .int .i64 0, .int .i64 0, .slice none 0 0], .int .i64 1]) (by simp [results, Try.results63, go_sem, d0, d1', d2', d3]) rfl ⟨rfl, hq9⟩
end Go.Proofs.Ytnnmmojlgikdgaa

/- Keeps of sling. -/
namespace Go.Proofs.Ytnnmmojlgikdgaa
open Go.RowKit

theorem gz_app {l m : List Int} {j : Nat} : gz (l ++ m) j = if j < l.length then gz l j else gz m (j - l.length) := by
  unfold gz
  rw [List.getElem?_append]
  split <;> rfl
theorem gz_rep {n j : Nat} {x : Int} : gz (List.replicate n x) j = if j < n then x else 0 := by
  unfold gz
  rw [List.getElem?_replicate]
  split <;> rfl
theorem numB_sets {a c g : Int} {n : Nat} (ha : -1000 ≤ a ∧ a ≤ 1000) (hc : -1000 ≤ c ∧ c ≤ 1000) (hg : -100 ≤ g ∧ g ≤ 100) : numB ([a, c] ++ List.replicate n g) = true := by
  refine (numB_iff _).2 ⟨⟨?_, ?_⟩, fun j => ?_⟩
  · show -1000 ≤ a ∧ a ≤ 1000; exact ha
  · show -1000 ≤ c ∧ c ≤ 1000; exact hc
  · rw [gz_app, if_neg (by simp), gz_rep]
    split <;> omega
theorem wB_two {lo hi x y : Int} (h : wB lo hi [x, y] = true) : (lo ≤ x ∧ x ≤ hi) ∧ (lo ≤ y ∧ y ≤ hi) := by
  unfold wB at h
  simpa using h
theorem sb_of {b : List (Int × Int)} {gl gh nn : Int} (h : saB b gl gh nn = true) (n : Nat) : SB (b ++ List.replicate n (gl, gh)) := by
  unfold saB at h
  simp only [Bool.and_eq_true, decide_eq_true_eq, List.all_eq_true] at h
  obtain ⟨⟨⟨h2, hg⟩, _⟩, hs⟩ := h
  obtain ⟨⟨a1, a2⟩, ⟨c1, c2⟩, rfl⟩ := list_two h2
  have ka := wB_two (hs (a1, a2) (by simp))
  have kc := wB_two (hs (c1, c2) (by simp))
  have kg := wB_two hg
  refine ⟨?_, ?_⟩
  · rw [List.map_append, List.map_replicate]
    exact numB_sets ka.1 kc.1 kg.1
  · rw [List.map_append, List.map_replicate]
    exact numB_sets ka.2 kc.2 kg.2
theorem sv_of {b : List (Int × Int)} {gl gh : Int} (hc : chkB b = true) (hv : vS (gl, gh) = true) (n : Nat) : ∀ s ∈ b ++ List.replicate n (gl, gh), s.1 ≤ s.2 := fun s hs => by
  rcases List.mem_append.1 hs with h | h
  · unfold chkB at hc
    simp only [Bool.and_eq_true, List.all_eq_true] at hc
    exact (vS_get (hc.2 s h)).1
  · have := List.eq_of_mem_replicate h
    subst this
    exact (vS_get hv).1
theorem alE_zero {N D d gl gh nn : Int} {b l : List (Int × Int)} (h : alE N D d b gl gh nn l = 0) : slB N D d = true ∧ chkB b = true ∧ vS (gl, gh) = true ∧ l.all vS = true ∧ saB b gl gh nn = true := by
  unfold alE at h
  cases h1 : slB N D d <;> rw [h1] at h
  · simp at h
  cases h2 : chkB b <;> rw [h2] at h
  · simp at h
  cases h3 : vS (gl, gh) <;> rw [h3] at h
  · simp at h
  cases h4 : l.all vS <;> rw [h4] at h
  · simp at h
  cases h5 : saB b gl gh nn <;> rw [h5] at h
  · simp at h
  exact ⟨rfl, rfl, rfl, rfl, rfl⟩
theorem allow_no (N D d gl gh nn : Int) (Ab Al : Option Addr) (nb cb nl cl B : Nat) (b l : List (Int × Int)) (w : World) (hb : b.length = nb) (hnb : nb ≤ maxLen) (hl : l.length = nl) (hnl : nl ≤ maxLen) (hB : B ≤ w.heap.size) (hrb : RS w B Ab b) (hrl : RS w B Al l) (E : Int) (hE : alE N D d b gl gh nn l = E) (h0 : E ≠ 0) :
    Calls Try.prog 63 #[.agg #[.int .i64 N, .int .i64 D, .int .i64 d], .slice Ab nb cb, .agg #[.int .i64 gl, .int .i64 gh], .int .i64 nn, .slice Al nl cl] w fun e w' => e = .returned (.tuple #[.agg #[.int .i64 0, .int .i64 0, .int .i64 0, .slice none 0 0], .int .i64 E]) ∧ Below w.heap.size w w' := by
  by_cases h : E = 70 ∨ E = 10
  · exact allow_bad1 N D d gl gh nn Ab Al nb cb nl cl B b l w hb hnb hl hnl hB hrb hrl E hE h
  · have hE' := hE
    unfold alE at hE'
    cases h1 : slB N D d <;> rw [h1] at hE'
    · exact absurd (Or.inl hE'.symm) h
    cases h2 : chkB b <;> rw [h2] at hE'
    · exact absurd (Or.inr hE'.symm) h
    cases h3 : vS (gl, gh) <;> rw [h3] at hE'
    · exact absurd (Or.inr hE'.symm) h
    cases h4 : l.all vS <;> rw [h4] at hE'
    · exact absurd (Or.inr hE'.symm) h
    cases h5 : saB b gl gh nn <;> rw [h5] at hE'
    · obtain rfl : E = 1 := hE'.symm
      exact allow_bad2 N D d gl gh nn Ab Al nb cb nl cl B b l w hb hnb hl hnl hB hrb hrl h1 h2 h3 h4 h5
    · exact absurd hE'.symm h0
/-- Keeps. -/
def kpN (N D d : Int) (b : List (Int × Int)) (gl gh nn lo hi : Int) : (Int × Bool) × Int :=
  if alE N D d b gl gh nn [(lo, hi)] = 0 then (keN N D d (b ++ List.replicate nn.toNat (gl, gh)) lo hi nn.toNat, 0) else ((0, false), alE N D d b gl gh nn [(lo, hi)])
end Go.Proofs.Ytnnmmojlgikdgaa

/- Keeps of sling. -/
namespace Go.Proofs.Ytnnmmojlgikdgaa
open Go.RowKit

set_option maxRecDepth 100000 in
set_option maxHeartbeats 2000000 in
theorem keepsT_any (N D d gl gh nn lo hi : Int) (Ab : Option Addr) (nb cb B : Nat) (b : List (Int × Int)) (w : World) (hb : b.length = nb) (hnb : nb ≤ maxLen) (hB : B ≤ w.heap.size) (hr : RS w B Ab b) :
    Calls Try.prog 28 #[.agg #[.int .i64 N, .int .i64 D, .int .i64 d], .slice Ab nb cb, .agg #[.int .i64 gl, .int .i64 gh], .int .i64 nn, .agg #[.int .i64 lo, .int .i64 hi]] w fun e w' => e = .returned (.tuple #[.int .i64 (kpN N D d b gl gh nn lo hi).1.1, .bool (kpN N D d b gl gh nn lo hi).1.2, .int .i64 (kpN N D d b gl gh nn lo hi).2]) ∧ Below w.heap.size w w' := by
  have HA0 := Lib.hid ((AV.start (N := N) (D := D) (d := d) (gl := gl) (gh := gh) (w := w)).alloc (.cells #[.int .i64 lo, .int .i64 hi] 27))
  have HL0 := Lib.hid (blk_new ((w.alloc (.cells #[.int .i64 N, .int .i64 D, .int .i64 d] 23)).alloc (.cells #[.int .i64 gl, .int .i64 gh] 27)) (.cells #[.int .i64 lo, .int .i64 hi] 27) (w.heap.size + 1 + 1) (by simp))
  unfold kpN
  by_cases h0 : alE N D d b gl gh nn [(lo, hi)] = 0
  · rw [if_pos h0]
    obtain ⟨hs, hc, hv, hll, hsa⟩ := alE_zero h0
    have hnn : 0 ≤ nn ∧ nn ≤ 16 := by unfold saB at hsa; simp at hsa; exact hsa.1.2
    have hb2 : b.length = 2 := by unfold saB at hsa; simp at hsa; exact hsa.1.1.1
    have HAL := Lib.hid (fun (W : World) (hW : Below w.heap.size w W) (g : Nat) (hg : g < W.heap.size) (hq : RS W W.heap.size (some ⟨g, 0, none⟩) [(lo, hi)]) => allow_ok N D d gl gh nn Ab (some ⟨g, 0, none⟩) nb cb 1 1 W.heap.size b [(lo, hi)] W hb hnb rfl (le_maxLen (by omega)) (Nat.le_refl _) (((hr.below (hW.mono hB)).more (Nat.le_trans hB hW.size))) hq hs hc hv hll hsa)
    have HKE := Lib.hid (fun (A : Option Addr) (c : Nat) (W : World) (hcc : nn.toNat + 2 ≤ c) (hq : RS W W.heap.size A (b ++ List.replicate nn.toNat (gl, gh))) => keeps_any N D d lo hi A nn.toNat (nn.toNat + 2) c W.heap.size (b ++ List.replicate nn.toNat (gl, gh)) W hs (by simpa using hll) rfl (by omega) (by simp; omega) hcc (sb_of hsa _) (Nat.le_refl _) hq)
    obtain ⟨r9, hr9⟩ : ∃ r, keN N D d (b ++ List.replicate nn.toNat (gl, gh)) lo hi nn.toNat = r := ⟨_, rfl⟩
    rw [hr9] at HKE ⊢
    obtain ⟨rt, ri⟩ := r9
    simp only at HKE ⊢
    clear hr9 h0 hs hc hv hll hsa hnn hb2 hr hb
    go_enter Try.func28, Try.ntmps28
    go_upto_region 1 with (fail)
    generalize World.alloc _ _ = w1 at *
    have s0 := cellOf (o := 0) HA0.out.s rfl
    have s1 := cellOf (o := 1) HA0.out.s rfl
    have s2 := cellOf (o := 2) HA0.out.s rfl
    have g0 := cellOf (o := 0) HA0.out.g rfl
    have g1 := cellOf (o := 1) HA0.out.g rfl
    have x0 := cellOf (o := 0) HL0.out rfl
    have x1 := cellOf (o := 1) HL0.out rfl
    have l0 := lt_of_block HA0.out.s
    have l1 := lt_of_block HA0.out.g
    have l2 := lt_of_block HL0.out
    have HA1 := Lib.hid (HA0.out.alloc (.cells #[.int .i64 lo, .int .i64 hi] 27))
    have HLR := Lib.hid (show RS (w1.alloc (.cells #[.int .i64 lo, .int .i64 hi] 27)) (w1.alloc (.cells #[.int .i64 lo, .int .i64 hi] 27)).heap.size (some ⟨w1.heap.size, 0, none⟩) [(lo, hi)] from (RS.new1 rfl).more (by simp))
    have HLS := Lib.hid (show w1.heap.size < (w1.alloc (.cells #[.int .i64 lo, .int .i64 hi] 27)).heap.size by simp)
    go_upto_region 2 with (go_at_call 63; refine Calls.mono (HAL.out _ HA1.out.b w1.heap.size HLS.out HLR.out) ?_; rintro e w3 ⟨A, c, rfl, hcc, hq3, hb3⟩; have HA3 := Lib.hid (HA1.out.next hb3); have HQ3 := Lib.hid hq3; have HCC := Lib.hid hcc; have HL3 := Lib.hid ((hb3.block _ (lt_of_block (blk_old (.cells #[.int .i64 lo, .int .i64 hi] 27) HL0.out))).trans (blk_old (.cells #[.int .i64 lo, .int .i64 hi] 27) HL0.out)); clear hb3 hq3 hcc s0 s1 s2 g0 g1 x0 x1 l0 l1 l2)
    obtain ⟨m, hm⟩ : ∃ m, nn.toNat + 2 = m := ⟨_, rfl⟩
    have HM := Lib.hid hm
    rw [hm] at ⊢
    clear hm
    have HA4 := Lib.hid (HA3.out.alloc (.cells #[.int .i64 N, .int .i64 D, .int .i64 d, .slice A m c] 101))
    have HL4 := Lib.hid (blk_old (.cells #[.int .i64 N, .int .i64 D, .int .i64 d, .slice A m c] 101) HL3.out)
    have bq := blk_new w3 (.cells #[.int .i64 N, .int .i64 D, .int .i64 d, .slice A m c] 101) _ rfl
    have HQ4 := Lib.hid ((HQ3.out.below ((Below.refl w3.heap.size w3).alloc (Nat.le_refl _) (.cells #[.int .i64 N, .int .i64 D, .int .i64 d, .slice A m c] 101))).more (by simp : w3.heap.size ≤ (w3.alloc (.cells #[.int .i64 N, .int .i64 D, .int .i64 d, .slice A m c] 101)).heap.size))
    obtain ⟨q, hq⟩ : ∃ q, w3.heap.size = q := ⟨_, rfl⟩
    rw [hq] at bq ⊢
    clear hq
    generalize World.alloc w3 _ = w4 at *
    have k0 := cellOf (o := 0) bq rfl
    have k1 := cellOf (o := 1) bq rfl
    have k2 := cellOf (o := 2) bq rfl
    have k3 := cellOf (o := 3) bq rfl
    have x0 := cellOf (o := 0) HL4.out rfl
    have x1 := cellOf (o := 1) HL4.out rfl
    have lq := lt_of_block bq
    have l2 := lt_of_block HL4.out
    clear bq
    have HK4 := Lib.hid (HKE.out A c w4 HCC.out HQ4.out)
    rw [HM.out] at HK4
    go_wp2_with (go_at_call 68; refine Calls.mono HK4.out ?_; rintro e w5 ⟨rfl, hb5⟩; have HB5 := Lib.hid (HA4.out.b.trans (hb5.mono HA4.out.b.size)); clear hb5)
    go_ret3
    exact ⟨rfl, HB5.out⟩
  · rw [if_neg h0]
    have HAL := Lib.hid (fun (W : World) (hW : Below w.heap.size w W) (g : Nat) (hg : g < W.heap.size) (hq : RS W W.heap.size (some ⟨g, 0, none⟩) [(lo, hi)]) => allow_no N D d gl gh nn Ab (some ⟨g, 0, none⟩) nb cb 1 1 W.heap.size b [(lo, hi)] W hb hnb rfl (le_maxLen (by omega)) (Nat.le_refl _) (((hr.below (hW.mono hB)).more (Nat.le_trans hB hW.size))) hq _ rfl h0)
    have h0' : (alE N D d b gl gh nn [(lo, hi)] != 0) = true := by rw [bne_iff_ne]; exact h0
    generalize alE N D d b gl gh nn [(lo, hi)] = E at *
    clear h0 hr hb
    go_enter Try.func28, Try.ntmps28
    go_upto_region 1 with (fail)
    generalize World.alloc _ _ = w1 at *
    have s0 := cellOf (o := 0) HA0.out.s rfl
    have s1 := cellOf (o := 1) HA0.out.s rfl
    have s2 := cellOf (o := 2) HA0.out.s rfl
    have g0 := cellOf (o := 0) HA0.out.g rfl
    have g1 := cellOf (o := 1) HA0.out.g rfl
    have x0 := cellOf (o := 0) HL0.out rfl
    have x1 := cellOf (o := 1) HL0.out rfl
    have l0 := lt_of_block HA0.out.s
    have l1 := lt_of_block HA0.out.g
    have l2 := lt_of_block HL0.out
    have HA1 := Lib.hid (HA0.out.alloc (.cells #[.int .i64 lo, .int .i64 hi] 27))
    have HLR := Lib.hid (show RS (w1.alloc (.cells #[.int .i64 lo, .int .i64 hi] 27)) (w1.alloc (.cells #[.int .i64 lo, .int .i64 hi] 27)).heap.size (some ⟨w1.heap.size, 0, none⟩) [(lo, hi)] from (RS.new1 rfl).more (by simp))
    have HLS := Lib.hid (show w1.heap.size < (w1.alloc (.cells #[.int .i64 lo, .int .i64 hi] 27)).heap.size by simp)
    go_wp2_with (go_at_call 63; refine Calls.mono (HAL.out _ HA1.out.b w1.heap.size HLS.out HLR.out) ?_; rintro e w3 ⟨rfl, hb3⟩; have HA3 := Lib.hid ((HA1.out.next hb3).alloc (.cells #[.int .i64 0, .int .i64 0, .int .i64 0, .slice none 0 0] 101)); clear hb3)
    go_ret3
    exact ⟨rfl, HA3.out.b⟩
end Go.Proofs.Ytnnmmojlgikdgaa

/- Plain mathematics: with smaller sets what was kept is kept. -/
namespace Go.Proofs.Ytnnmmojlgikdgaa

/-- Each span in another one. -/
def subS : List (Int × Int) → List (Int × Int) → Prop
  | s :: S, t :: T => (t.1 ≤ s.1 ∧ s.2 ≤ t.2) ∧ subS S T
  | [], [] => True
  | _, _ => False
theorem subS.len : ∀ {S T : List (Int × Int)}, subS S T → S.length = T.length
  | [], [], _ => rfl
  | _ :: S, _ :: T, h => by simp [subS.len h.2]
  | [], _ :: _, h => absurd h (by simp [subS])
  | _ :: _, [], h => absurd h (by simp [subS])
theorem subS.refl : ∀ S : List (Int × Int), subS S S
  | [] => trivial
  | _ :: S => ⟨⟨Int.le_refl _, Int.le_refl _⟩, subS.refl S⟩
theorem subS.app : ∀ {S T : List (Int × Int)} {S' T' : List (Int × Int)}, subS S T → subS S' T' → subS (S ++ S') (T ++ T')
  | [], [], _, _, _, h => h
  | _ :: S, _ :: T, _, _, h, h' => ⟨h.1, subS.app h.2 h'⟩
  | [], _ :: _, _, _, h, _ => absurd h (by simp [subS])
  | _ :: _, [], _, _, h, _ => absurd h (by simp [subS])
theorem subS.rep {s t : Int × Int} (h : t.1 ≤ s.1 ∧ s.2 ≤ t.2) : ∀ n, subS (List.replicate n s) (List.replicate n t)
  | 0 => trivial
  | n + 1 => ⟨h, subS.rep h n⟩
theorem subS.take : ∀ {S T : List (Int × Int)} (n : Nat), subS S T → subS (S.take n) (T.take n)
  | [], [], n, _ => by simp [subS]
  | _ :: S, _ :: T, 0, h => trivial
  | _ :: S, _ :: T, n + 1, h => ⟨h.1, subS.take n h.2⟩
  | [], _ :: _, _, h => absurd h (by simp [subS])
  | _ :: _, [], _, h => absurd h (by simp [subS])
theorem inSp.sub : ∀ {x : List Int} {S T : List (Int × Int)}, inSp x S → subS S T → inSp x T
  | [], [], [], _, _ => trivial
  | a :: x, s :: S, t :: T, h, h' => ⟨⟨Int.le_trans h'.1.1 h.1.1, Int.le_trans h.1.2 h'.1.2⟩, inSp.sub h.2 h'.2⟩
  | [], _ :: _, _, h, _ => absurd h (by simp [inSp])
  | _ :: _, [], _, h, _ => absurd h (by simp [inSp])
  | [], [], _ :: _, _, h => absurd h (by simp [subS])
  | _ :: _, _ :: _, [], _, h => absurd h (by simp [subS])
theorem wit_in (high : Bool) : ∀ (S : List (Int × Int)) (E : List Int), (∀ s ∈ S, s.1 ≤ s.2) → S.length = E.length → inSp (witL high S E) S
  | [], [], _, _ => trivial
  | s :: S, e :: E, h, hl => by
    refine ⟨?_, wit_in high S E (fun t ht => h t (List.mem_cons_of_mem _ ht)) (by simpa using hl)⟩
    have := h s List.mem_cons_self
    unfold witE
    split
    · exact ⟨this, Int.le_refl _⟩
    · exact ⟨Int.le_refl _, this⟩
  | [], _ :: _, _, hl => by simp at hl
  | _ :: _, [], _, hl => by simp at hl
/-- The ends of smaller sets lie between those of greater ones. -/
theorem end_sub {S T : List (Int × Int)} {E : List Int} (h : subS S T) (hv : ∀ s ∈ S, s.1 ≤ s.2) (hl : S.length = E.length) (high : Bool) : endN false T E ≤ endN high S E ∧ endN high S E ≤ endN true T E :=
  dot_wit _ T E ((wit_in high S E hv hl).sub h) (by rw [← h.len]; exact hl)
theorem kpB_sub {N D d lo hi : Int} {S T : List (Int × Int)} {t : Nat} (h : subS S T) (hv : ∀ s ∈ S, s.1 ≤ s.2) (hl : t + 2 ≤ S.length) (hk : kpB N D d T lo hi t = true) : kpB N D d S lo hi t = true := by
  have e : (S.take (t + 2)).length = (efL N D d t).length := by rw [efL_len]; simp; omega
  have a := end_sub (h.take (t + 2)) (fun s hs => hv s (List.mem_of_mem_take hs)) e false
  have b := end_sub (h.take (t + 2)) (fun s hs => hv s (List.mem_of_mem_take hs)) e true
  unfold kpB inF at hk ⊢
  simp only [Bool.and_eq_true, decide_eq_true_eq] at hk ⊢
  omega
/-- Kept behind each of k ticks. -/
theorem keN_all {N D d lo hi : Int} {S : List (Int × Int)} {k : Nat} : (keN N D d S lo hi k).2 = true ↔ ∀ t, t ≤ k → kpB N D d S lo hi t = true := by
  have sp := stF_spec (kpB N D d S lo hi) (k + 1) 0
  have bd := stF_bd (kpB N D d S lo hi) (k + 1) 0
  unfold keN
  constructor
  · intro h t ht
    split at h
    · cases h
    · exact sp.1 t (Nat.zero_le _) (by omega)
  · intro h
    split
    · rename_i hc
      have := sp.2 (by omega)
      rw [h _ hc] at this
      cases this
    · rfl
theorem keN_sub {N D d lo hi : Int} {S T : List (Int × Int)} {k : Nat} (h : subS S T) (hv : ∀ s ∈ S, s.1 ≤ s.2) (hl : S.length = k + 2) (hk : (keN N D d T lo hi k).2 = true) : (keN N D d S lo hi k).2 = true :=
  keN_all.2 fun t ht => kpB_sub h hv (by omega) (keN_all.1 hk t ht)
end Go.Proofs.Ytnnmmojlgikdgaa

/- Gust's closure. -/
namespace Go.Proofs.Ytnnmmojlgikdgaa
open Go.RowKit

theorem saB_gust {b : List (Int × Int)} {n m : Int} (h : saB b 0 0 m = true) (h0 : 0 ≤ n) (h1 : n ≤ 100) : saB b (-n) n m = true := by
  unfold saB wB at h ⊢
  simp only [Bool.and_eq_true, List.all_cons, List.all_nil, Bool.and_true, decide_eq_true_eq] at h ⊢
  exact ⟨⟨⟨h.1.1.1, ⟨by omega, by omega⟩⟩, h.1.2⟩, h.2⟩
theorem vS_gust {n : Int} (h0 : 0 ≤ n) (h1 : n ≤ 100) : vS (-n, n) = true := vS_mk (by omega) (by omega) (by omega)
/-- With gusts up to so much the limit is kept. -/
def guB (N D d : Int) (b : List (Int × Int)) (m : Nat) (lo hi n : Int) : Bool := (keN N D d (b ++ List.replicate m (-n, n)) lo hi m).2
theorem guB_mono {N D d lo hi : Int} {b : List (Int × Int)} {m : Nat} (hc : chkB b = true) (hb : b.length = 2) {i j : Int} (h0 : 0 ≤ i) (hij : i ≤ j) (hj : j ≤ 100) (h : guB N D d b m lo hi j = true) : guB N D d b m lo hi i = true :=
  keN_sub (subS.app (subS.refl b) (subS.rep ⟨by show -j ≤ -i; omega, hij⟩ m)) (sv_of hc (vS_gust h0 (by omega)) m) (by simp; omega) h

set_option maxRecDepth 100000 in
set_option maxHeartbeats 2000000 in
theorem gust1_answers (N D d lo hi : Int) (Ab : Option Addr) (nb cb m B : Nat) (b : List (Int × Int)) (w : World) (gS gB gN gL : Nat) (hb : b.length = nb) (hnb : nb ≤ maxLen) (hB : B ≤ w.heap.size) (hr : RS w B Ab b) (hs : slB N D d = true) (hc : chkB b = true) (hl : vS (lo, hi) = true) (hsa : saB b 0 0 m = true)
    (s0 : w.cell? ⟨gS, 0, none⟩ = some (.int .i64 N)) (s1 : w.cell? ⟨gS, 1, none⟩ = some (.int .i64 D)) (s2 : w.cell? ⟨gS, 2, none⟩ = some (.int .i64 d)) (b0 : w.cell? ⟨gB, 0, none⟩ = some (.slice Ab nb cb)) (n0 : w.cell? ⟨gN, 0, none⟩ = some (.int .i64 m)) (x0 : w.cell? ⟨gL, 0, none⟩ = some (.int .i64 lo)) (x1 : w.cell? ⟨gL, 1, none⟩ = some (.int .i64 hi)) :
    Answers 73 #[.pointer (some ⟨gS, 0, none⟩), .pointer (some ⟨gB, 0, none⟩), .pointer (some ⟨gN, 0, none⟩), .pointer (some ⟨gL, 0, none⟩)] 0 100 (guB N D d b m lo hi) w := by
  refine ⟨Try.call73, fun W n hW h0 h1 => ?_⟩
  have hm : m ≤ 16 := by unfold saB at hsa; simp at hsa; omega
  have hb2 : b.length = 2 := by unfold saB at hsa; simp at hsa; exact hsa.1.1.1
  have HAL := Lib.hid (fun (V : World) (hV : Below W.heap.size W V) => allow_ok N D d (-n) n m Ab none nb cb 0 0 V.heap.size b [] V hb hnb rfl (le_maxLen (by omega)) (Nat.le_refl _) ((((hr.below (hW.mono hB)).more (Nat.le_trans hB hW.size)).below hV).more hV.size) (fun h => absurd h (by simp)) hs hc (vS_gust h0 h1) rfl (saB_gust hsa h0 h1))
  simp only [Int.toNat_natCast] at HAL
  have HKE := Lib.hid (fun (A : Option Addr) (c : Nat) (V : World) (hcc : m + 2 ≤ c) (hq : RS V V.heap.size A (b ++ List.replicate m (-n, n))) => keeps_any N D d lo hi A m (m + 2) c V.heap.size (b ++ List.replicate m (-n, n)) V hs hl rfl hm (by simp; omega) hcc (sb_of (saB_gust hsa h0 h1) m) (Nat.le_refl _) hq)
  have hg : guB N D d b m lo hi n = (keN N D d (b ++ List.replicate m (-n, n)) lo hi m).2 := rfl
  obtain ⟨r9, hr9⟩ : ∃ r, keN N D d (b ++ List.replicate m (-n, n)) lo hi m = r := ⟨_, rfl⟩
  rw [hr9] at HKE hg
  obtain ⟨rt, ri⟩ := r9
  simp only at HKE hg
  have i1 : IntKind.i64.wrap (-n) = -n := IntWalk.i64_in _ (by omega)
  have q0 := cell_keep hW s0
  have q1 := cell_keep hW s1
  have q2 := cell_keep hW s2
  have q3 := cell_keep hW b0
  have q4 := cell_keep hW n0
  have q5 := cell_keep hW x0
  have q6 := cell_keep hW x1
  show Calls Try.prog 73 #[.int .i64 n, .pointer (some ⟨gS, 0, none⟩), .pointer (some ⟨gB, 0, none⟩), .pointer (some ⟨gN, 0, none⟩), .pointer (some ⟨gL, 0, none⟩)] W fun e w' => e = .returned (.bool (guB N D d b m lo hi n)) ∧ Below W.heap.size W w'
  rw [hg]
  have HX := Lib.hid (And.intro q5 q6)
  clear hg hr9 hr hb hs hc hl hsa s0 s1 s2 b0 n0 x0 x1 hW hb2
  go_enter Try.func73, Try.ntmps73
  go_upto_region 2 with (go_at_call 63; refine Calls.mono (HAL.out _ (Below.refl _ _)) ?_; rintro e w3 ⟨A, c, rfl, hcc, hq3, hb3⟩; have HB3 := Lib.hid hb3; have HQ3 := Lib.hid hq3; have HCC := Lib.hid hcc; have HX3 := Lib.hid (And.intro (cell_keep hb3 HX.out.1) (cell_keep hb3 HX.out.2)); clear hb3 hq3 hcc q0 q1 q2 q3 q4 q5 q6)
  have HB4 := Lib.hid (HB3.out.alloc HB3.out.size (.cells #[.int .i64 N, .int .i64 D, .int .i64 d, .slice A (m + 2) c] 101))
  have bq := blk_new w3 (.cells #[.int .i64 N, .int .i64 D, .int .i64 d, .slice A (m + 2) c] 101) _ rfl
  have HQ4 := Lib.hid ((HQ3.out.below ((Below.refl w3.heap.size w3).alloc (Nat.le_refl _) (.cells #[.int .i64 N, .int .i64 D, .int .i64 d, .slice A (m + 2) c] 101))).more (by simp : w3.heap.size ≤ (w3.alloc (.cells #[.int .i64 N, .int .i64 D, .int .i64 d, .slice A (m + 2) c] 101)).heap.size))
  have x0 := cell_keep ((Below.refl w3.heap.size w3).alloc (Nat.le_refl _) (.cells #[.int .i64 N, .int .i64 D, .int .i64 d, .slice A (m + 2) c] 101)) HX3.out.1
  have x1 := cell_keep ((Below.refl w3.heap.size w3).alloc (Nat.le_refl _) (.cells #[.int .i64 N, .int .i64 D, .int .i64 d, .slice A (m + 2) c] 101)) HX3.out.2
  obtain ⟨q, hq⟩ : ∃ q, w3.heap.size = q := ⟨_, rfl⟩
  rw [hq] at bq ⊢
  clear hq
  generalize World.alloc w3 _ = w4 at *
  have k0 := cellOf (o := 0) bq rfl
  have k1 := cellOf (o := 1) bq rfl
  have k2 := cellOf (o := 2) bq rfl
  have k3 := cellOf (o := 3) bq rfl
  have lq := lt_of_block bq
  have l2 := World.block_lt_of_cell? _ _ x0
  clear bq
  have HK4 := Lib.hid (HKE.out A c w4 HCC.out HQ4.out)
  go_wp2_with (go_at_call 68; refine Calls.mono HK4.out ?_; rintro e w5 ⟨rfl, hb5⟩; have HB5 := Lib.hid (HB4.out.trans (hb5.mono HB4.out.size)); clear hb5)
  go_ret
  exact ⟨rfl, HB5.out⟩
end Go.Proofs.Ytnnmmojlgikdgaa

/- Plain mathematics: the greatest gusts. -/
namespace Go.Proofs.Ytnnmmojlgikdgaa

/-- The greatest number up to k with a property, or -1. -/
def dnI (p : Int → Bool) : Nat → Int
  | 0 => if p 0 then 0 else -1
  | k + 1 => if p ((k + 1 : Nat) : Int) then ((k + 1 : Nat) : Int) else dnI p k
theorem dnI_bd (p : Int → Bool) : ∀ k, -1 ≤ dnI p k ∧ dnI p k ≤ k
  | 0 => by unfold dnI; split <;> omega
  | k + 1 => by
    have := dnI_bd p k
    unfold dnI
    split <;> omega
theorem dnI_spec (p : Int → Bool) : ∀ k : Nat, (∀ j : Int, dnI p k < j → j ≤ k → p j = false) ∧ (0 ≤ dnI p k → p (dnI p k) = true)
  | 0 => by
    unfold dnI
    split
    · rename_i h
      exact ⟨fun j a b => by omega, fun _ => h⟩
    · rename_i h
      refine ⟨fun j a b => ?_, fun h => by omega⟩
      obtain rfl : j = 0 := by omega
      simpa using h
  | k + 1 => by
    obtain ⟨a, b⟩ := dnI_spec p k
    unfold dnI
    split
    · rename_i h
      exact ⟨fun j c e => by omega, fun _ => h⟩
    · rename_i h
      refine ⟨fun j c e => ?_, b⟩
      by_cases hj : j = ((k + 1 : Nat) : Int)
      · subst hj; simpa using h
      · exact a j c (by omega)
theorem last_dn {p : Int → Bool} {k : Nat} (mono : ∀ i j, 0 ≤ i → i ≤ j → j ≤ (k : Int) → p j = true → p i = true) : lastN p 0 k = (dnI p k, decide (0 ≤ dnI p k)) := by
  obtain ⟨s1, s2, s3, s4⟩ := firB_spec (fun n => !p n) ((k : Int) + 1).toNat 0
  have d1 := dnI_bd p k
  obtain ⟨d2, d3⟩ := dnI_spec p k
  unfold lastN
  simp only [Int.sub_zero] at *
  have key : firB (fun n => !p n) 0 ((k : Int) + 1).toNat = dnI p k + 1 := by
    generalize firB (fun n => !p n) 0 ((k : Int) + 1).toNat = m at *
    by_cases h1 : m < dnI p k + 1
    · have h2 := s4 (by omega)
      have h3 := mono m (dnI p k) (by omega) (by omega) (by omega) (d3 (by omega))
      rw [h3] at h2
      cases h2
    · by_cases h2 : dnI p k + 1 < m
      · have h3 := s3 (dnI p k + 1) (by omega) h2
        rw [d2 (dnI p k + 1) (by omega) (by omega)] at h3
        cases h3
      · omega
  rw [key]
  have e : decide (0 < dnI p k + 1) = decide (0 ≤ dnI p k) := by
    rw [decide_eq_decide]; omega
  simp only [Int.add_sub_cancel, e]
end Go.Proofs.Ytnnmmojlgikdgaa

/- Gust of sling. -/
namespace Go.Proofs.Ytnnmmojlgikdgaa
open Go.RowKit

/-- The boxes of Gust. -/
structure GW (N D d lo hi nn : Int) (Ab : Option Addr) (nb cb : Nat) (w W : World) : Prop where
  s : W.heap[w.heap.size]? = some (.cells #[.int .i64 N, .int .i64 D, .int .i64 d] 23 (0, 0))
  b : W.heap[w.heap.size + 1]? = some (.cells #[.slice Ab nb cb] 41 (0, 0))
  n : W.heap[w.heap.size + 1 + 1]? = some (.cells #[.int .i64 nn] 3 (0, 0))
  l : W.heap[w.heap.size + 1 + 1 + 1]? = some (.cells #[.int .i64 lo, .int .i64 hi] 27 (0, 0))
  w0 : Below w.heap.size w W
section
variable {N D d lo hi nn : Int} {Ab : Option Addr} {nb cb : Nat} {w W W' : World}
theorem GW.next (h : GW N D d lo hi nn Ab nb cb w W) (hb : Below W.heap.size W W') : GW N D d lo hi nn Ab nb cb w W' :=
  ⟨(hb.block _ (lt_of_block h.s)).trans h.s, (hb.block _ (lt_of_block h.b)).trans h.b, (hb.block _ (lt_of_block h.n)).trans h.n, (hb.block _ (lt_of_block h.l)).trans h.l, h.w0.trans (hb.mono h.w0.size)⟩
theorem GW.alloc (h : GW N D d lo hi nn Ab nb cb w W) (o : Obj) : GW N D d lo hi nn Ab nb cb w (W.alloc o) := h.next ((Below.refl _ _).alloc (Nat.le_refl _) _)
theorem GW.start : GW N D d lo hi nn Ab nb cb w ((((w.alloc (.cells #[.int .i64 N, .int .i64 D, .int .i64 d] 23)).alloc (.cells #[.slice Ab nb cb] 41)).alloc (.cells #[.int .i64 nn] 3)).alloc (.cells #[.int .i64 lo, .int .i64 hi] 27)) :=
  ⟨blk_old _ (blk_old _ (blk_old _ (blk_new _ _ _ rfl))), blk_old _ (blk_old _ (blk_new _ _ _ (by simp))), blk_old _ (blk_new _ _ _ (by simp)), blk_new _ _ _ (by simp), by go_grown⟩
end
def guN (N D d : Int) (b : List (Int × Int)) (nn lo hi : Int) : Int × Int :=
  if alE N D d b 0 0 nn [(lo, hi)] = 0 then (if 0 ≤ dnI (guB N D d b nn.toNat lo hi) 100 then (dnI (guB N D d b nn.toNat lo hi) 100, 0) else (0, 3)) else (0, alE N D d b 0 0 nn [(lo, hi)])

set_option maxRecDepth 100000 in
set_option maxHeartbeats 2000000 in
theorem gustT_any (N D d nn lo hi : Int) (Ab : Option Addr) (nb cb B : Nat) (b : List (Int × Int)) (w : World) (hb : b.length = nb) (hnb : nb ≤ maxLen) (hB : B ≤ w.heap.size) (hr : RS w B Ab b) :
    Calls Try.prog 30 #[.agg #[.int .i64 N, .int .i64 D, .int .i64 d], .slice Ab nb cb, .int .i64 nn, .agg #[.int .i64 lo, .int .i64 hi]] w fun e w' => e = .returned (.tuple #[.int .i64 (guN N D d b nn lo hi).1, .int .i64 (guN N D d b nn lo hi).2]) ∧ Below w.heap.size w w' := by
  have HA0 := Lib.hid (GW.start (N := N) (D := D) (d := d) (lo := lo) (hi := hi) (nn := nn) (Ab := Ab) (nb := nb) (cb := cb) (w := w))
  unfold guN
  by_cases h0 : alE N D d b 0 0 nn [(lo, hi)] = 0
  · rw [if_pos h0]
    obtain ⟨hs, hc, hv, hll, hsa⟩ := alE_zero h0
    have hnn : 0 ≤ nn ∧ nn ≤ 16 := by unfold saB at hsa; simp at hsa; exact hsa.1.2
    have hb2 : b.length = 2 := by unfold saB at hsa; simp at hsa; exact hsa.1.1.1
    have HAL := Lib.hid (fun (W : World) (hW : Below w.heap.size w W) (g : Nat) (hg : g < W.heap.size) (hq : RS W W.heap.size (some ⟨g, 0, none⟩) [(lo, hi)]) => allow_ok N D d 0 0 nn Ab (some ⟨g, 0, none⟩) nb cb 1 1 W.heap.size b [(lo, hi)] W hb hnb rfl (le_maxLen (by omega)) (Nat.le_refl _) (((hr.below (hW.mono hB)).more (Nat.le_trans hB hW.size))) hq hs hc hv hll hsa)
    obtain ⟨m, rfl⟩ : ∃ m : Nat, nn = (m : Int) := ⟨nn.toNat, by omega⟩
    rw [Int.toNat_natCast]
    simp only [Int.toNat_natCast] at HAL
    have HLA := Lib.hid (fun (W : World) (hW : GW N D d lo hi (m : Int) Ab nb cb w W) =>
      last_any 73 #[.pointer (some ⟨w.heap.size, 0, none⟩), .pointer (some ⟨w.heap.size + 1, 0, none⟩), .pointer (some ⟨w.heap.size + 1 + 1, 0, none⟩), .pointer (some ⟨w.heap.size + 1 + 1 + 1, 0, none⟩)] 0 100 (guB N D d b m lo hi) W (by omega) (by omega) (by omega) (fun i j a b c d => guB_mono hc hb2 a b c d) (gust1_answers N D d lo hi Ab nb cb m w.heap.size b W _ _ _ _ hb hnb hW.w0.size ((hr.more hB).below hW.w0) hs hc (by simpa using hll) hsa (cellOf (o := 0) hW.s rfl) (cellOf (o := 1) hW.s rfl) (cellOf (o := 2) hW.s rfl) (cellOf (o := 0) hW.b rfl) (cellOf (o := 0) hW.n rfl) (cellOf (o := 0) hW.l rfl) (cellOf (o := 1) hW.l rfl)))
    have hdn := last_dn (p := guB N D d b m lo hi) (k := 100) (fun i j a b c d => guB_mono hc hb2 a b c d)
    rw [show ((100 : Nat) : Int) = 100 from rfl] at hdn
    rw [hdn] at HLA
    generalize dnI (guB N D d b m lo hi) 100 = r at *
    clear hdn h0 hs hc hv hll hsa hnn hb2 hr hb
    by_cases hr0 : 0 ≤ r
    · rw [if_pos hr0]
      rw [decide_eq_true hr0] at HLA
      clear hr0
      go_enter Try.func30, Try.ntmps30
      go_upto_region 1 with (fail)
      generalize World.alloc _ _ = w1 at *
      have s0 := cellOf (o := 0) HA0.out.s rfl
      have s1 := cellOf (o := 1) HA0.out.s rfl
      have s2 := cellOf (o := 2) HA0.out.s rfl
      have b0 := cellOf (o := 0) HA0.out.b rfl
      have n0 := cellOf (o := 0) HA0.out.n rfl
      have x0 := cellOf (o := 0) HA0.out.l rfl
      have x1 := cellOf (o := 1) HA0.out.l rfl
      have l0 := lt_of_block HA0.out.s
      have l1 := lt_of_block HA0.out.b
      have l2 := lt_of_block HA0.out.n
      have l3 := lt_of_block HA0.out.l
      have HA1 := Lib.hid (HA0.out.alloc (.cells #[.int .i64 lo, .int .i64 hi] 27))
      have HLR := Lib.hid (show RS (w1.alloc (.cells #[.int .i64 lo, .int .i64 hi] 27)) (w1.alloc (.cells #[.int .i64 lo, .int .i64 hi] 27)).heap.size (some ⟨w1.heap.size, 0, none⟩) [(lo, hi)] from (RS.new1 rfl).more (by simp))
      have HLS := Lib.hid (show w1.heap.size < (w1.alloc (.cells #[.int .i64 lo, .int .i64 hi] 27)).heap.size by simp)
      go_upto_region 4 with (go_at_call 63; refine Calls.mono (HAL.out _ HA1.out.w0 w1.heap.size HLS.out HLR.out) ?_; rintro e w3 ⟨A, c, rfl, hcc, hq3, hb3⟩; have HA3 := Lib.hid ((HA1.out.next hb3).alloc (.cells #[.int .i64 N, .int .i64 D, .int .i64 d, .slice A (m + 2) c] 101)); clear hb3 hq3 hcc s0 s1 s2 b0 n0 x0 x1 l0 l1 l2 l3)
      generalize World.alloc w3 _ = w4 at *
      go_wp2_with (go_at_call 72; refine Calls.mono (HLA.out _ HA3.out) ?_; rintro e w5 ⟨rfl, hb5⟩; have HB5 := Lib.hid (HA3.out.w0.trans (hb5.mono HA3.out.w0.size)); clear hb5)
      go_ret2
      exact ⟨rfl, HB5.out⟩
    · rw [if_neg hr0]
      rw [decide_eq_false hr0] at HLA
      clear hr0
      go_enter Try.func30, Try.ntmps30
      go_upto_region 1 with (fail)
      generalize World.alloc _ _ = w1 at *
      have s0 := cellOf (o := 0) HA0.out.s rfl
      have s1 := cellOf (o := 1) HA0.out.s rfl
      have s2 := cellOf (o := 2) HA0.out.s rfl
      have b0 := cellOf (o := 0) HA0.out.b rfl
      have n0 := cellOf (o := 0) HA0.out.n rfl
      have x0 := cellOf (o := 0) HA0.out.l rfl
      have x1 := cellOf (o := 1) HA0.out.l rfl
      have l0 := lt_of_block HA0.out.s
      have l1 := lt_of_block HA0.out.b
      have l2 := lt_of_block HA0.out.n
      have l3 := lt_of_block HA0.out.l
      have HA1 := Lib.hid (HA0.out.alloc (.cells #[.int .i64 lo, .int .i64 hi] 27))
      have HLR := Lib.hid (show RS (w1.alloc (.cells #[.int .i64 lo, .int .i64 hi] 27)) (w1.alloc (.cells #[.int .i64 lo, .int .i64 hi] 27)).heap.size (some ⟨w1.heap.size, 0, none⟩) [(lo, hi)] from (RS.new1 rfl).more (by simp))
      have HLS := Lib.hid (show w1.heap.size < (w1.alloc (.cells #[.int .i64 lo, .int .i64 hi] 27)).heap.size by simp)
      go_upto_region 4 with (go_at_call 63; refine Calls.mono (HAL.out _ HA1.out.w0 w1.heap.size HLS.out HLR.out) ?_; rintro e w3 ⟨A, c, rfl, hcc, hq3, hb3⟩; have HA3 := Lib.hid ((HA1.out.next hb3).alloc (.cells #[.int .i64 N, .int .i64 D, .int .i64 d, .slice A (m + 2) c] 101)); clear hb3 hq3 hcc s0 s1 s2 b0 n0 x0 x1 l0 l1 l2 l3)
      generalize World.alloc w3 _ = w4 at *
      go_wp2_with (go_at_call 72; refine Calls.mono (HLA.out _ HA3.out) ?_; rintro e w5 ⟨rfl, hb5⟩; have HB5 := Lib.hid (HA3.out.w0.trans (hb5.mono HA3.out.w0.size)); clear hb5)
      go_ret2
      exact ⟨rfl, HB5.out⟩
  · rw [if_neg h0]
    have HAL := Lib.hid (fun (W : World) (hW : Below w.heap.size w W) (g : Nat) (hg : g < W.heap.size) (hq : RS W W.heap.size (some ⟨g, 0, none⟩) [(lo, hi)]) => allow_no N D d 0 0 nn Ab (some ⟨g, 0, none⟩) nb cb 1 1 W.heap.size b [(lo, hi)] W hb hnb rfl (le_maxLen (by omega)) (Nat.le_refl _) (((hr.below (hW.mono hB)).more (Nat.le_trans hB hW.size))) hq _ rfl h0)
    have h0' : (alE N D d b 0 0 nn [(lo, hi)] != 0) = true := by rw [bne_iff_ne]; exact h0
    generalize alE N D d b 0 0 nn [(lo, hi)] = E at *
    clear h0 hr hb
    go_enter Try.func30, Try.ntmps30
    go_upto_region 1 with (fail)
    generalize World.alloc _ _ = w1 at *
    have s0 := cellOf (o := 0) HA0.out.s rfl
    have s1 := cellOf (o := 1) HA0.out.s rfl
    have s2 := cellOf (o := 2) HA0.out.s rfl
    have b0 := cellOf (o := 0) HA0.out.b rfl
    have n0 := cellOf (o := 0) HA0.out.n rfl
    have x0 := cellOf (o := 0) HA0.out.l rfl
    have x1 := cellOf (o := 1) HA0.out.l rfl
    have l0 := lt_of_block HA0.out.s
    have l1 := lt_of_block HA0.out.b
    have l2 := lt_of_block HA0.out.n
    have l3 := lt_of_block HA0.out.l
    have HA1 := Lib.hid (HA0.out.alloc (.cells #[.int .i64 lo, .int .i64 hi] 27))
    have HLR := Lib.hid (show RS (w1.alloc (.cells #[.int .i64 lo, .int .i64 hi] 27)) (w1.alloc (.cells #[.int .i64 lo, .int .i64 hi] 27)).heap.size (some ⟨w1.heap.size, 0, none⟩) [(lo, hi)] from (RS.new1 rfl).more (by simp))
    have HLS := Lib.hid (show w1.heap.size < (w1.alloc (.cells #[.int .i64 lo, .int .i64 hi] 27)).heap.size by simp)
    go_wp2_with (go_at_call 63; refine Calls.mono (HAL.out _ HA1.out.w0 w1.heap.size HLS.out HLR.out) ?_; rintro e w3 ⟨rfl, hb3⟩; have HA3 := Lib.hid ((HA1.out.next hb3).alloc (.cells #[.int .i64 0, .int .i64 0, .int .i64 0, .slice none 0 0] 101)); clear hb3)
    go_ret2
    exact ⟨rfl, HA3.out.w0⟩
end Go.Proofs.Ytnnmmojlgikdgaa

/- swashplatelaw01.SpansValues returns true at every input, and the input reads as it did: no condition. -/
import Derived.Test.YtjdahphnmeaolaaCopy
import Derived.Test.YtjdahphnmeaolaaAtS
import Derived.Test.YtjdahphnmeaolaaSame
import Derived.Test.YtjdahphnmeaolaaGuard
import Derived.Test.YtjdahphnmeaolaaWorks
import Derived.Test.YtjdahphnmeaolaaKnot
namespace Go.Proofs.Ytjdahphnmeaolaa
open Go.RowKit

/-- The three arguments' boxes. -/
structure VS (w W : World) (AX : Option Addr) (nx cx : Nat) (AY : Option Addr) (ny cy : Nat) (AV : Option Addr) (nv cv : Nat) (x y k0 k1 : Int) : Prop where
  t0 : W.cell? ⟨w.heap.size, 0, none⟩ = some (.slice AX nx cx)
  t1 : W.cell? ⟨w.heap.size, 1, none⟩ = some (.slice AY ny cy)
  t2 : W.cell? ⟨w.heap.size, 2, none⟩ = some (.slice AV nv cv)
  p0 : W.cell? ⟨w.heap.size + 1, 0, none⟩ = some (.int .i64 x)
  p1 : W.cell? ⟨w.heap.size + 1, 1, none⟩ = some (.int .i64 y)
  n0 : W.cell? ⟨w.heap.size + 1 + 1, 0, none⟩ = some (.int .i64 k0)
  n1 : W.cell? ⟨w.heap.size + 1 + 1, 1, none⟩ = some (.int .i64 k1)
  l : w.heap.size + 1 + 1 < W.heap.size
  b : Below w.heap.size w W
theorem VS.next {w W W' : World} {AX AY AV : Option Addr} {nx cx ny cy nv cv : Nat} {x y k0 k1 : Int} (h : VS w W AX nx cx AY ny cy AV nv cv x y k0 k1) (hb : Below W.heap.size W W') : VS w W' AX nx cx AY ny cy AV nv cv x y k0 k1 :=
  ⟨cell_keep hb h.t0, cell_keep hb h.t1, cell_keep hb h.t2, cell_keep hb h.p0, cell_keep hb h.p1, cell_keep hb h.n0, cell_keep hb h.n1, Nat.lt_of_lt_of_le h.l hb.size, h.b.trans (hb.mono h.b.size)⟩
theorem VS.start (w : World) (AX AY AV : Option Addr) (nx cx ny cy nv cv : Nat) (x y k0 k1 : Int) (T T' T'' : TypeId) :
    VS w (((w.alloc (.cells #[.slice AX nx cx, .slice AY ny cy, .slice AV nv cv] T)).alloc (.cells #[.int .i64 x, .int .i64 y] T')).alloc (.cells #[.int .i64 k0, .int .i64 k1] T'')) AX nx cx AY ny cy AV nv cv x y k0 k1 :=
  ⟨by go_simp, by go_simp, by go_simp, by go_simp, by go_simp, by go_simp, by go_simp, by simp, by go_grown⟩

def QV (g M : Nat) (AX' : Option Addr) (nx cx' : Nat) (AY' : Option Addr) (ny cy' : Nat) (AV' : Option Addr) (nv cv' : Nat) (bx ox cx by_ oy cy ki kk : Nat) (xi yk v : Int) (j : Nat) (u : Value) (W : World) : Prop :=
  match j with
  | 0 => u = .agg #[.slice AX' nx cx', .slice AY' ny cy', .slice AV' nv cv']
  | 1 => u = .pointer (some ⟨g, 0, none⟩)
  | 2 => u = .slice (some ⟨bx, ox, none⟩) nx cx
  | 3 => u = .pointer (some ⟨g + 1 + 1, 0, none⟩)
  | 4 => u = .int .i64 (ki : Nat)
  | 5 => u = .pointer (some ⟨bx, ox + ki, none⟩)
  | 6 => u = .int .i64 xi
  | 7 => u = .pointer (some ⟨g, 1, none⟩)
  | 8 => u = .slice (some ⟨by_, oy, none⟩) ny cy
  | 9 => u = .pointer (some ⟨g + 1 + 1, 1, none⟩)
  | 10 => u = .int .i64 (kk : Nat)
  | 11 => u = .pointer (some ⟨by_, oy + kk, none⟩)
  | 12 => u = .int .i64 yk
  | 13 => u = .tuple #[.agg #[.int .i64 v, .int .i64 v], .int .i64 0]
  | 14 => u = .tuple #[.agg #[.int .i64 v, .int .i64 v], .int .i64 0]
  | 15 => u = .agg #[.int .i64 v, .int .i64 v]
  | 16 => u = .int .i64 0
  | 17 => ∃ q, u = .pointer (some ⟨q, 0, none⟩) ∧ M ≤ q ∧ q < W.heap.size ∧ W.frozen? ⟨q, 0, none⟩ = false ∧ W.frozen? ⟨q, 1, none⟩ = false ∧ ∃ u0 u1, W.cell? ⟨q, 0, none⟩ = some u0 ∧ W.cell? ⟨q, 1, none⟩ = some u1
  | 19 => u = .int .i64 0
  | _ => True
theorem qv_stays (g M : Nat) (AX' : Option Addr) (nx cx' : Nat) (AY' : Option Addr) (ny cy' : Nat) (AV' : Option Addr) (nv cv' : Nat) (bx ox cx by_ oy cy ki kk : Nat) (xi yk v : Int) : Stays (QV g M AX' nx cx' AY' ny cy' AV' nv cv' bx ox cx by_ oy cy ki kk xi yk v) := fun j u W W' h hb => by
  unfold QV at h ⊢
  split at h
  all_goals first
    | exact h
    | (obtain ⟨q, e, h1, h2, h3, h4, u0, u1, h5, h6⟩ := h
       exact ⟨q, e, h1, Nat.lt_of_lt_of_le h2 hb.size, (hb.frozen (p := ⟨q, 0, none⟩) h2).trans h3, (hb.frozen (p := ⟨q, 1, none⟩) h2).trans h4, u0, u1, cell_keep hb h5, cell_keep hb h6⟩)

/-- The region that makes a result's box and fills it. -/
def RW (Q : Nat → Value → World → Prop) (W0 : World) (v : Int) (val : Nat → Value) (L : Array Bool) (W : World) : Prop :=
  RQ Q W0 val L W ∧ (L.getD 18 false = true → ∃ g, val 17 = .pointer (some ⟨g, 0, none⟩) ∧ W.cell? ⟨g, 0, none⟩ = some (.int .i64 v) ∧ W.cell? ⟨g, 1, none⟩ = some (.int .i64 v))
theorem RW.step {Q : Nat → Value → World → Prop} {W0 W W' : World} {v : Int} {val : Nat → Value} {L : Array Bool} {i : Nat} {u : Value} (h : RW Q W0 v val L W) (hQ : Stays Q) (hb : Below W.heap.size W W') (hq : Q i u W') (h1 : i ≠ 17) (h2 : i ≠ 18) :
    RW Q W0 v (upd val i u) (L.setIfInBounds i true) W' :=
  ⟨h.1.step hQ hb hq, fun hl => by
    rw [getD_set_other h2] at hl
    obtain ⟨g, e, c0, c1⟩ := h.2 hl
    exact ⟨g, by rw [upd_other (fun e => h1 e.symm)]; exact e, cell_keep hb c0, cell_keep hb c1⟩⟩
theorem RW.step17 {Q : Nat → Value → World → Prop} {W0 W W' : World} {v : Int} {val : Nat → Value} {L : Array Bool} {u : Value} (h : RW Q W0 v val L W) (hQ : Stays Q) (hb : Below W.heap.size W W') (hq : Q 17 u W') (hl : L.getD 18 false = false) :
    RW Q W0 v (upd val 17 u) (L.setIfInBounds 17 true) W' :=
  ⟨h.1.step hQ hb hq, fun h18 => by
    rw [getD_set_other (by decide), hl] at h18
    cases h18⟩
theorem RW.step18 {Q : Nat → Value → World → Prop} {W0 W : World} {v : Int} {val : Nat → Value} {L : Array Bool} {q : Nat} (h : RW Q W0 v val L W) (hQ : ∀ j u, j ≠ 18 → Q j u W → Q j u ((W.setCell ⟨q, 0, none⟩ (.int .i64 v)).setCell ⟨q, 1, none⟩ (.int .i64 v))) (hv : val 17 = .pointer (some ⟨q, 0, none⟩)) (hM : W0.heap.size ≤ q)
    (h0 : (W.cell? ⟨q, 0, none⟩).isSome = true) (h1 : (W.cell? ⟨q, 1, none⟩).isSome = true) (hT : ∀ u W', Q 18 u W') :
    RW Q W0 v (upd val 18 undef) (L.setIfInBounds 18 true) ((W.setCell ⟨q, 0, none⟩ (.int .i64 v)).setCell ⟨q, 1, none⟩ (.int .i64 v)) :=
  ⟨⟨(h.1.1.setCell (p := ⟨q, 0, none⟩) hM _).setCell (p := ⟨q, 1, none⟩) hM _, fun j hj => by
    by_cases e : j = 18
    · subst e
      exact hT _ _
    · rw [upd_other e]
      rw [getD_set_other (fun h => e h.symm)] at hj
      exact hQ j _ e (h.1.2 j hj)⟩, fun _ => ⟨q, by rw [upd_other (by decide)]; exact hv,
      by rw [World.cell?_setCell_other _ _ _ _ (by simp)]; exact World.cell?_setCell_same' _ _ _ h0,
      World.cell?_setCell_same' _ _ _ (by rw [World.cell?_setCell_other _ _ _ _ (by simp)]; exact h1)⟩⟩
theorem qv_set (g M : Nat) (AX' : Option Addr) (nx cx' : Nat) (AY' : Option Addr) (ny cy' : Nat) (AV' : Option Addr) (nv cv' : Nat) (bx ox cx by_ oy cy ki kk : Nat) (xi yk v v' : Int) (q : Nat) (W : World) (j : Nat) (u : Value) (h : QV g M AX' nx cx' AY' ny cy' AV' nv cv' bx ox cx by_ oy cy ki kk xi yk v j u W) :
    QV g M AX' nx cx' AY' ny cy' AV' nv cv' bx ox cx by_ oy cy ki kk xi yk v j u ((W.setCell ⟨q, 0, none⟩ (.int .i64 v')).setCell ⟨q, 1, none⟩ (.int .i64 v')) := by
  unfold QV at h ⊢
  split at h
  all_goals first
    | exact h
    | (obtain ⟨q', e, a1, a2, a3, a4, u0, u1, a5, a6⟩ := h
       refine ⟨q', e, a1, by simpa [World.setCell] using a2, by simpa [go_sem] using a3, by simpa [go_sem] using a4, ?_⟩
       have hc : ∀ (W1 : World) (p : Addr) (z : Value) (r : Addr), (W1.cell? r).isSome = true → ((W1.setCell p z).cell? r).isSome = true := fun W1 p z r hr => by
         by_cases hp : p = r
         · subst hp
           rw [World.cell?_setCell_same' _ _ _ hr]
           rfl
         · rw [World.cell?_setCell_other _ _ _ _ hp]
           exact hr
       obtain ⟨z0, hz0⟩ := Option.isSome_iff_exists.1 (hc _ ⟨q, 1, none⟩ (.int .i64 v') _ (hc W ⟨q, 0, none⟩ (.int .i64 v') ⟨q', 0, none⟩ (by rw [a5]; rfl)))
       obtain ⟨z1, hz1⟩ := Option.isSome_iff_exists.1 (hc _ ⟨q, 1, none⟩ (.int .i64 v') _ (hc W ⟨q, 0, none⟩ (.int .i64 v') ⟨q', 1, none⟩ (by rw [a6]; rfl)))
       exact ⟨z0, z1, hz0, hz1⟩)

set_option maxRecDepth 100000 in
set_option maxHeartbeats 4000000 in
theorem law_values (AX AY AV : Option Addr) (nx cx ny cy nv cv B : Nat) (X Y : List Int) (V : List (List Int)) (x y k0 k1 : Int) (w : World) (hx : X.length = nx) (hy : Y.length = ny) (hv : V.length = nv) (hmx : nx ≤ maxLen) (hmy : ny ≤ maxLen) (hmv : nv ≤ maxLen) (hmr : ∀ r ∈ V, r.length ≤ maxLen)
    (hB : B ≤ w.heap.size) (h : TB w B AX AY AV X Y V) :
    Calls Try.prog 9 #[.agg #[.slice AX nx cx, .slice AY ny cy, .slice AV nv cv], .agg #[.int .i64 x, .int .i64 y], .agg #[.int .i64 k0, .int .i64 k1]] w fun e w' => e = .returned (.bool true) ∧ Below w.heap.size w w' := by
  subst hx hy hv
  have HWK := Lib.hid works_any
  have HT := Lib.hid h
  have HFAR := Lib.hid (fun (W : World) (hW : Below w.heap.size w W) => far_any AX AY AV _ cx _ cy _ cv B X Y V W rfl rfl rfl hmx hmy hmv (by have := hW.size; omega) (h.below (hW.mono hB)))
  have S0 := VS.start w AX AY AV X.length cx Y.length cy V.length cv x y k0 k1 27 57 41
  have HS0 := Lib.hid S0
  clear h S0
  cases hf : farB X Y V with
  | true =>
    have HF := Lib.hid hf
    clear hf
    go_enter Try.func9, Try.ntmps9
    go_wp2_with (first
      | (go_at_call 17; refine Calls.mono (HFAR.out _ (by go_grown)) ?_; rintro e w4 ⟨rfl, hb4⟩; rw [HF.out])
      | (go_at_call 18; refine Calls.mono (HWK.out _) ?_; rintro e w5 ⟨rfl, hb5⟩))
    go_ret
    have hb : Below w.heap.size w w4 := Below.trans (by go_grown) (hb4.mono (by simp <;> omega))
    exact ⟨rfl, hb.trans (hb5.mono hb.size)⟩
  | false =>
  obtain ⟨f1, f2, f3, f4⟩ := farB_no hf
  have hnx : X.length ≤ 1000000 := by omega
  have hny : Y.length ≤ 1000000 := by omega
  have hnv : V.length ≤ 1000000 := by omega
  have hnr : ∀ r ∈ V, r.length ≤ 1000000 := fun r hr => by have := f4 r hr; omega
  have HF := Lib.hid hf
  clear hf f1 f2 f3 f4
  have HCP := Lib.hid (fun (W : World) (hW : Below w.heap.size w W) => copy_any AX AY AV _ cx _ cy _ cv B X Y V W rfl rfl rfl hnx hny hnv hnr (by have := hW.size; omega) (HT.out.below (hW.mono hB)))
  have HRA := Lib.hid (fun (W : World) (hW : Below w.heap.size w W) => rat_s AX AY AV _ cx _ cy _ cv B X Y V x y W rfl rfl rfl hmx hmy hmv hmr (by have := hW.size; omega) (HT.out.below (hW.mono hB)))
  have HRC := Lib.hid (fun (W : World) (hW : Below w.heap.size w W) => rct_any AX AY AV _ cx _ cy _ cv B X Y V W rfl rfl rfl hmx hmy hmv hmr (by have := hW.size; omega) (HT.out.below (hW.mono hB)))
  go_enter Try.func9, Try.ntmps9
  go_upto_region 3 with (go_at_call 17; refine Calls.mono (HFAR.out _ (by go_grown)) ?_; rintro e w1 ⟨rfl, hb1⟩; rw [HF.out])
  have S1 := HS0.out.next hb1
  have HS1 := Lib.hid S1
  obtain ⟨t0, t1, t2, p0, p1, n0, n1, l1, _⟩ := S1
  clear hb1 HS0 HFAR
  go_upto_region 4 with (go_at_call 23; refine Calls.mono (HCP.out _ HS1.out.b) ?_; rintro e w2 ⟨AX', cx', AY', cy', AV', cv', rfl, htb, hb2⟩)
  have S3 := (HS1.out.next hb2).next ((Below.refl _ _).alloc (Nat.le_refl _) (.cells #[.slice AX' X.length cx', .slice AY' Y.length cy', .slice AV' V.length cv'] 27))
  have htb3 := htb.below ((Below.refl w2.heap.size w2).alloc (Nat.le_refl _) (.cells #[.slice AX' X.length cx', .slice AY' Y.length cy', .slice AV' V.length cv'] 27))
  have g0 : (w2.alloc (.cells #[.slice AX' X.length cx', .slice AY' Y.length cy', .slice AV' V.length cv'] 27)).cell? ⟨w2.heap.size, 0, none⟩ = some (.slice AX' X.length cx') := by go_simp
  have g1 : (w2.alloc (.cells #[.slice AX' X.length cx', .slice AY' Y.length cy', .slice AV' V.length cv'] 27)).cell? ⟨w2.heap.size, 1, none⟩ = some (.slice AY' Y.length cy') := by go_simp
  have g2 : (w2.alloc (.cells #[.slice AX' X.length cx', .slice AY' Y.length cy', .slice AV' V.length cv'] 27)).cell? ⟨w2.heap.size, 2, none⟩ = some (.slice AV' V.length cv') := by go_simp
  have hz2 : w2.heap.size ≤ (w2.alloc (.cells #[.slice AX' X.length cx', .slice AY' Y.length cy', .slice AV' V.length cv'] 27)).heap.size := by simp
  generalize hW3 : w2.alloc (.cells #[.slice AX' X.length cx', .slice AY' Y.length cy', .slice AV' V.length cv'] 27) = w3 at *
  have HS3 := Lib.hid S3
  have HG3 := Lib.hid (htb3.more hz2)
  generalize w2.heap.size = gg at *
  clear hW3 hb2 htb htb3 t0 t1 t2 p0 p1 n0 n1 l1 HS1 hz2
  obtain ⟨t0, t1, t2, p0, p1, n0, n1, l3, _⟩ := S3
  have HAT0 := Lib.hid (fun (W : World) (hW : Below w3.heap.size w3 W) (x y : Int) => at_s AX' AY' AV' _ cx' _ cy' _ cv' _ X Y V x y W rfl rfl rfl hmx hmy hmv hmr hW.size (HG3.out.below hW))
  go_upto_region 5 with (go_at_call 45; refine Calls.mono (HAT0.out _ (Below.refl _ _) x y) ?_; rintro e w4 ⟨rfl, hb4⟩)
  generalize hA : atS X Y V x y = a at *
  obtain ⟨⟨a0, a1⟩, ae⟩ := a
  have hb5 := Below.trans hb4 (((Below.refl w4.heap.size w4).alloc (Nat.le_refl _) (.cells #[.int .i64 a0, .int .i64 a1] 37)).mono hb4.size)
  have c0 : (w4.alloc (.cells #[.int .i64 a0, .int .i64 a1] 37)).cell? ⟨w4.heap.size, 0, none⟩ = some (.int .i64 a0) := by go_simp
  have c1 : (w4.alloc (.cells #[.int .i64 a0, .int .i64 a1] 37)).cell? ⟨w4.heap.size, 1, none⟩ = some (.int .i64 a1) := by go_simp
  generalize hW5 : w4.alloc (.cells #[.int .i64 a0, .int .i64 a1] 37) = w5 at *
  generalize w4.heap.size = ga at *
  have g0 := cell_keep hb5 g0
  have g1 := cell_keep hb5 g1
  have g2 := cell_keep hb5 g2
  have S5 := HS3.out.next hb5
  have HS5 := Lib.hid S5
  have HB5 := Lib.hid hb5
  clear hW5 hb4 hb5 t0 t1 t2 p0 p1 n0 n1 l3
  obtain ⟨t0, t1, t2, p0, p1, n0, n1, l5, _⟩ := S5
  go_upto_region 6 with (go_at_call 46; refine Calls.mono (HRA.out _ HS5.out.b) ?_; rintro e w6 ⟨rfl, hb6⟩)
  have hb7 := Below.trans hb6 (((Below.refl w6.heap.size w6).alloc (Nat.le_refl _) (.cells #[.int .i64 a0, .int .i64 a1] 37)).mono hb6.size)
  have d0 : (w6.alloc (.cells #[.int .i64 a0, .int .i64 a1] 37)).cell? ⟨w6.heap.size, 0, none⟩ = some (.int .i64 a0) := by go_simp
  have d1 : (w6.alloc (.cells #[.int .i64 a0, .int .i64 a1] 37)).cell? ⟨w6.heap.size, 1, none⟩ = some (.int .i64 a1) := by go_simp
  generalize hW7 : w6.alloc (.cells #[.int .i64 a0, .int .i64 a1] 37) = w7 at *
  generalize w6.heap.size = gb at *
  have g0 := cell_keep hb7 g0
  have g1 := cell_keep hb7 g1
  have g2 := cell_keep hb7 g2
  have c0 := cell_keep hb7 c0
  have c1 := cell_keep hb7 c1
  have S7 := HS5.out.next hb7
  have HS7 := Lib.hid S7
  have HB7 := Lib.hid (HB5.out.trans (hb7.mono HB5.out.size))
  have HSM := Lib.hid (sameTable_yes AX' AY' AV' AX AY AV _ cx' _ cy' _ cv' cx cy cv X Y V w7 rfl rfl rfl hnx hny hnv hnr ((HG3.out.below HB7.out).more HB7.out.size) ((HT.out.below (S7.b.mono hB)).more (Nat.le_trans hB S7.b.size)))
  clear hW7 hb6 hb7 t0 t1 t2 p0 p1 n0 n1 l5 HS5 HB5 HS3 hA HRA
  obtain ⟨t0, t1, t2, p0, p1, n0, n1, l7, _⟩ := S7
  go_upto_region 8 with (go_at_call 47; refine Calls.mono HSM.out ?_; rintro e w8 ⟨rfl, hb8⟩)
  have g0 := cell_keep hb8 g0
  have g1 := cell_keep hb8 g1
  have g2 := cell_keep hb8 g2
  have S8 := HS7.out.next hb8
  have HS8 := Lib.hid S8
  have HB8 := Lib.hid (HB7.out.trans (hb8.mono HB7.out.size))
  clear hb8 c0 c1 d0 d1 t0 t1 t2 p0 p1 n0 n1 l7 HS7 HB7 HSM
  obtain ⟨t0, t1, t2, p0, p1, n0, n1, l8, _⟩ := S8
  have i1 : IntKind.i64.wrap ((X.length : Int) - 1) = (X.length : Int) - 1 := IntWalk.i64_in _ (by omega)
  have i2 : IntKind.i64.wrap ((Y.length : Int) - 1) = (Y.length : Int) - 1 := IntWalk.i64_in _ (by omega)
  cases hct : ctB X Y V with
  | false =>
    have HE := Lib.hid (ctE_no hct)
    clear hct
    go_wp2_with (first
      | (go_at_call 24; refine Calls.mono (HRC.out _ HS8.out.b) ?_; rintro e w9 ⟨rfl, hb9⟩; rw [HE.out]; have HB9 := Lib.hid (HS8.out.b.trans (hb9.mono HS8.out.b.size)); clear hb9)
      | (go_at_call 18; refine Calls.mono (HWK.out _) ?_; rintro e w5 ⟨rfl, hb5⟩))
    go_ret
    exact ⟨rfl, HB9.out.trans (hb5.mono HB9.out.size)⟩
  | true =>
  have HE := Lib.hid (ctE_yes hct)
  by_cases hk0 : 0 ≤ k0 ∧ k0 ≤ (X.length : Int) - 1
  rotate_left
  · have HF0 := Lib.hid (from_no (a := k0) (b := 0) (c := (X.length : Int) - 1) hk0)
    clear hct hk0
    go_wp2_with (first
      | (go_at_call 24; refine Calls.mono (HRC.out _ HS8.out.b) ?_; rintro e w9 ⟨rfl, hb9⟩; rw [HE.out]; have S9 := HS8.out.next hb9; have HS9 := Lib.hid S9; obtain ⟨q0, q1, q2, q3, q4, q5, q6, l9, _⟩ := S9; clear hb9 t0 t1 t2 p0 p1 n0 n1 l8)
      | (go_at_call 48; refine Calls.mono (HF0.out _) ?_; rintro e w10 ⟨rfl, rfl⟩)
      | (go_at_call 18; refine Calls.mono (HWK.out _) ?_; rintro e w5 ⟨rfl, hb5⟩))
    go_ret
    exact ⟨rfl, HS9.out.b.trans (hb5.mono HS9.out.b.size)⟩
  by_cases hk1 : 0 ≤ k1 ∧ k1 ≤ (Y.length : Int) - 1
  rotate_left
  · have HF0 := Lib.hid (from_yes (a := k0) (b := 0) (c := (X.length : Int) - 1) hk0.1 hk0.2)
    have HF1 := Lib.hid (from_no (a := k1) (b := 0) (c := (Y.length : Int) - 1) hk1)
    clear hct hk0 hk1
    go_wp2_with (first
      | (go_at_call 24; refine Calls.mono (HRC.out _ HS8.out.b) ?_; rintro e w9 ⟨rfl, hb9⟩; rw [HE.out]; have S9 := HS8.out.next hb9; have HS9 := Lib.hid S9; obtain ⟨q0, q1, q2, q3, q4, q5, q6, l9, _⟩ := S9; clear hb9 t0 t1 t2 p0 p1 n0 n1 l8)
      | (go_at_call_of 48 (Value.int .i64 k0); refine Calls.mono (HF0.out _) ?_; rintro e w10 ⟨rfl, rfl⟩)
      | (go_at_call_of 48 (Value.int .i64 k1); refine Calls.mono (HF1.out _) ?_; rintro e w11 ⟨rfl, rfl⟩)
      | (go_at_call 18; refine Calls.mono (HWK.out _) ?_; rintro e w5 ⟨rfl, hb5⟩))
    go_ret
    exact ⟨rfl, HS9.out.b.trans (hb5.mono HS9.out.b.size)⟩
  have HF0 := Lib.hid (from_yes (a := k0) (b := 0) (c := (X.length : Int) - 1) hk0.1 hk0.2)
  have HF1 := Lib.hid (from_yes (a := k1) (b := 0) (c := (Y.length : Int) - 1) hk1.1 hk1.2)
  obtain ⟨ki, rfl⟩ := Int.eq_ofNat_of_zero_le hk0.1
  obtain ⟨kk, rfl⟩ := Int.eq_ofNat_of_zero_le hk1.1
  have hki : ki < X.length := by omega
  have hkk : kk < Y.length := by omega
  obtain ⟨ha, hb, hlv, _⟩ := ctB_get hct
  obtain ⟨r1, r2⟩ := row_get hct (i := ki) hki
  have hxo := knot_on ha hki
  have hyo := knot_on hb hkk
  have hAT : atS X Y V (gz X ki) (gz Y kk) = ((gz (gr V ki) kk, gz (gr V ki) kk), 0) := by
    unfold atS
    obtain ⟨d1, d2⟩ := atD_bd ha hb hxo hyo
    rw [hct, onB_on.2 hxo, onB_on.2 hyo, knot_atN ha hb hki hkk, fl_mul d1, cl_mul d1]
    rfl
  have HAK := Lib.hid (And.intro hAT (And.intro hlv r1))
  clear hct hk0 hk1 ha hb hlv r1 r2 hxo hyo hAT
  go_upto_region 10 with (first
    | (go_at_call 24; refine Calls.mono (HRC.out _ HS8.out.b) ?_; rintro e w9 ⟨rfl, hb9⟩; rw [HE.out]; have S9 := HS8.out.next hb9; have HS9 := Lib.hid S9; obtain ⟨q0, q1, q2, q3, q4, q5, q6, l9, _⟩ := S9; have j0 := cell_keep hb9 g0; have j1 := cell_keep hb9 g1; have j2 := cell_keep hb9 g2; have HB9 := Lib.hid (HB8.out.trans (hb9.mono HB8.out.size)); clear hb9 t0 t1 t2 p0 p1 n0 n1 l8 g0 g1 g2)
    | (go_at_call_of 48 (Value.int .i64 (ki : Int)); refine Calls.mono (HF0.out _) ?_; rintro e w10 ⟨rfl, rfl⟩)
    | (go_at_call_of 48 (Value.int .i64 (kk : Int)); refine Calls.mono (HF1.out _) ?_; rintro e w11 ⟨rfl, rfl⟩))
  obtain ⟨hAT, hlv, hrl⟩ := HAK.out
  have HTW := Lib.hid (HT.out.below (HS9.out.b.mono hB))
  obtain ⟨bx, ox, xi, hAX, hbx, hxi, hcx⟩ := HTW.out.x.at_ (k := ki) hki
  obtain ⟨by_, oy, yk, hAY, hby, hyk, hcy⟩ := HTW.out.y.at_ (k := kk) hkk
  obtain ⟨bv, ov, r, A1, c1, hAV, hbv, hr, hcr, hri⟩ := HTW.out.v.at_ (k := ki) (by omega)
  rw [gr_of hr] at hrl hAT
  obtain ⟨br, or_, v, hA1, hbr, hvv, hcv⟩ := hri.at_ (k := kk) (by omega)
  rw [gz_of hvv, gz_of hxi, gz_of hyk] at hAT
  have HAT := Lib.hid (fun (W : World) (hW : Below w9.heap.size w9 W) => ((by have := at_s AX' AY' AV' _ cx' _ cy' _ cv' _ X Y V xi yk W rfl rfl rfl hmx hmy hmv hmr (Nat.le_trans HB9.out.size hW.size) (HG3.out.below (HB9.out.trans (hW.mono HB9.out.size))); rw [hAT] at this; exact this) : Calls Try.prog 45 #[.agg #[.slice AX' X.length cx', .slice AY' Y.length cy', .slice AV' V.length cv'], .int .i64 xi, .int .i64 yk] W fun e w' => e = .returned (.tuple #[.agg #[.int .i64 v, .int .i64 v], .int .i64 0]) ∧ Below W.heap.size W w'))
  have e1 : (ki : Int) < X.length := by omega
  have e2 : (kk : Int) < Y.length := by omega
  have e3 : (ki : Int) < V.length := by omega
  have e4 : (kk : Int) < r.length := by omega
  subst hAX hAY hAV hA1
  clear hAT hlv hrl hxi hyk hr hri hvv HAK HCP HRC HAT0 HG3 HF HF0 HF1 HE i1 i2 hki hkk HB8 HS8
  go_quiet (fail)
  have hbq : Below w9.heap.size w9 (w9.drewN nq) := below_drewN (Below.refl _ _) nq
  have SQ := HS9.out.next hbq
  have j0 := cell_keep hbq j0
  have j1 := cell_keep hbq j1
  have j2 := cell_keep hbq j2
  have hcx := cell_keep hbq hcx
  have hcy := cell_keep hbq hcy
  have HAT := Lib.hid (fun (W : World) (hW : Below (w9.drewN nq).heap.size (w9.drewN nq) W) => HAT.out W (hbq.trans (hW.mono hbq.size)))
  generalize hwq : w9.drewN nq = wq at *
  have HSQ := Lib.hid SQ
  clear hwq hbq hcr hcv q0 q1 q2 q3 q4 q5 q6 l9
  obtain ⟨t0, t1, t2, p0, p1, n0, n1, lq, _⟩ := SQ
  go_upto_region 11 with fail
  have hst := qv_stays w.heap.size wq.heap.size AX' X.length cx' AY' Y.length cy' AV' V.length cv' bx ox cx by_ oy cy ki kk xi yk v
  have hst17 := fun (q : Nat) (W : World) (j : Nat) (u : Value) => qv_set w.heap.size wq.heap.size AX' X.length cx' AY' Y.length cy' AV' V.length cv' bx ox cx by_ oy cy ki kk xi yk v v q W j u
  refine wpIn_wide.1 (region_inv2 (n := 9) (by kernel_rfl) (RW (QV w.heap.size wq.heap.size AX' X.length cx' AY' Y.length cy' AV' V.length cv' bx ox cx by_ oy cy ki kk xi yk v) wq v) (by kernel_rfl) rfl ⟨RQ.start _ _ _, by intro hl; rw [getD_replicate_no] at hl; cases hl⟩ ?hstep ?hend)
  case hstep =>
    intro i' o ho val L b' x hF hR hpre hl
    match i', ho with
    | 0, ho =>
      simp at ho
      subst ho
      refine step_plain rfl ?_
      have e7 := hF.was 7 (by kernel_rfl) rfl
      have hgoal : ∀ u W', Below x.heap.size x W' → QV w.heap.size wq.heap.size AX' X.length cx' AY' Y.length cy' AV' V.length cv' bx ox cx by_ oy cy ki kk xi yk v 0 u W' → RW (QV w.heap.size wq.heap.size AX' X.length cx' AY' Y.length cy' AV' V.length cv' bx ox cx by_ oy cy ki kk xi yk v) wq v (upd val 0 u) (L.setIfInBounds 0 true) W' := fun u W' hb hq => hR.step hst hb hq (by decide) (by decide)
      have q0 := cell_keep hR.1.1 t0
      have q1 := cell_keep hR.1.1 t1
      have q2 := cell_keep hR.1.1 n0
      have q3 := cell_keep hR.1.1 n1
      have q4 := cell_keep hR.1.1 j0
      have q5 := cell_keep hR.1.1 j1
      have q6 := cell_keep hR.1.1 j2
      have q7 := cell_keep hR.1.1 hcx
      have q8 := cell_keep hR.1.1 hcy
      clear hF hpre hl hR
      go_simp
      exact ⟨_, rfl, hgoal _ _ (Below.refl _ _) rfl⟩
    | 1, ho =>
      simp at ho
      subst ho
      refine step_plain rfl ?_
      have e3 := hF.was 3 (by kernel_rfl) rfl
      have hgoal : ∀ u W', Below x.heap.size x W' → QV w.heap.size wq.heap.size AX' X.length cx' AY' Y.length cy' AV' V.length cv' bx ox cx by_ oy cy ki kk xi yk v 1 u W' → RW (QV w.heap.size wq.heap.size AX' X.length cx' AY' Y.length cy' AV' V.length cv' bx ox cx by_ oy cy ki kk xi yk v) wq v (upd val 1 u) (L.setIfInBounds 1 true) W' := fun u W' hb hq => hR.step hst hb hq (by decide) (by decide)
      clear hF hpre hl hR
      go_simp
      exact ⟨_, rfl, hgoal _ _ (Below.refl _ _) rfl⟩
    | 2, ho =>
      simp at ho
      subst ho
      refine step_plain rfl ?_
      have e88 := hF.gave 1 rfl (hpre ⟨1, .data⟩ (by simp) rfl) rfl
      have v1 := hR.1.2 1 (hpre ⟨1, .data⟩ (by simp) rfl)
      rw [show val 1 = .pointer (some ⟨w.heap.size, 0, none⟩) from v1] at e88
      clear v1
      have hgoal : ∀ u W', Below x.heap.size x W' → QV w.heap.size wq.heap.size AX' X.length cx' AY' Y.length cy' AV' V.length cv' bx ox cx by_ oy cy ki kk xi yk v 2 u W' → RW (QV w.heap.size wq.heap.size AX' X.length cx' AY' Y.length cy' AV' V.length cv' bx ox cx by_ oy cy ki kk xi yk v) wq v (upd val 2 u) (L.setIfInBounds 2 true) W' := fun u W' hb hq => hR.step hst hb hq (by decide) (by decide)
      have q0 := cell_keep hR.1.1 t0
      have q1 := cell_keep hR.1.1 t1
      have q2 := cell_keep hR.1.1 n0
      have q3 := cell_keep hR.1.1 n1
      have q4 := cell_keep hR.1.1 j0
      have q5 := cell_keep hR.1.1 j1
      have q6 := cell_keep hR.1.1 j2
      have q7 := cell_keep hR.1.1 hcx
      have q8 := cell_keep hR.1.1 hcy
      clear hF hpre hl hR
      go_simp
      exact ⟨_, rfl, hgoal _ _ (Below.refl _ _) rfl⟩
    | 3, ho =>
      simp at ho
      subst ho
      refine step_plain rfl ?_
      have e5 := hF.was 5 (by kernel_rfl) rfl
      have hgoal : ∀ u W', Below x.heap.size x W' → QV w.heap.size wq.heap.size AX' X.length cx' AY' Y.length cy' AV' V.length cv' bx ox cx by_ oy cy ki kk xi yk v 3 u W' → RW (QV w.heap.size wq.heap.size AX' X.length cx' AY' Y.length cy' AV' V.length cv' bx ox cx by_ oy cy ki kk xi yk v) wq v (upd val 3 u) (L.setIfInBounds 3 true) W' := fun u W' hb hq => hR.step hst hb hq (by decide) (by decide)
      clear hF hpre hl hR
      go_simp
      exact ⟨_, rfl, hgoal _ _ (Below.refl _ _) rfl⟩
    | 4, ho =>
      simp at ho
      subst ho
      refine step_plain rfl ?_
      have e90 := hF.gave 3 rfl (hpre ⟨3, .data⟩ (by simp) rfl) rfl
      have v3 := hR.1.2 3 (hpre ⟨3, .data⟩ (by simp) rfl)
      rw [show val 3 = .pointer (some ⟨w.heap.size + 1 + 1, 0, none⟩) from v3] at e90
      clear v3
      have hgoal : ∀ u W', Below x.heap.size x W' → QV w.heap.size wq.heap.size AX' X.length cx' AY' Y.length cy' AV' V.length cv' bx ox cx by_ oy cy ki kk xi yk v 4 u W' → RW (QV w.heap.size wq.heap.size AX' X.length cx' AY' Y.length cy' AV' V.length cv' bx ox cx by_ oy cy ki kk xi yk v) wq v (upd val 4 u) (L.setIfInBounds 4 true) W' := fun u W' hb hq => hR.step hst hb hq (by decide) (by decide)
      have q0 := cell_keep hR.1.1 t0
      have q1 := cell_keep hR.1.1 t1
      have q2 := cell_keep hR.1.1 n0
      have q3 := cell_keep hR.1.1 n1
      have q4 := cell_keep hR.1.1 j0
      have q5 := cell_keep hR.1.1 j1
      have q6 := cell_keep hR.1.1 j2
      have q7 := cell_keep hR.1.1 hcx
      have q8 := cell_keep hR.1.1 hcy
      clear hF hpre hl hR
      go_simp
      exact ⟨_, rfl, hgoal _ _ (Below.refl _ _) rfl⟩
    | 5, ho =>
      simp at ho
      subst ho
      refine step_plain rfl ?_
      have e89 := hF.gave 2 rfl (hpre ⟨2, .data⟩ (by simp) rfl) rfl
      have v2 := hR.1.2 2 (hpre ⟨2, .data⟩ (by simp) rfl)
      rw [show val 2 = .slice (some ⟨bx, ox, none⟩) X.length cx from v2] at e89
      clear v2
      have e91 := hF.gave 4 rfl (hpre ⟨4, .data⟩ (by simp) rfl) rfl
      have v4 := hR.1.2 4 (hpre ⟨4, .data⟩ (by simp) rfl)
      rw [show val 4 = .int .i64 (ki : Nat) from v4] at e91
      clear v4
      have hgoal : ∀ u W', Below x.heap.size x W' → QV w.heap.size wq.heap.size AX' X.length cx' AY' Y.length cy' AV' V.length cv' bx ox cx by_ oy cy ki kk xi yk v 5 u W' → RW (QV w.heap.size wq.heap.size AX' X.length cx' AY' Y.length cy' AV' V.length cv' bx ox cx by_ oy cy ki kk xi yk v) wq v (upd val 5 u) (L.setIfInBounds 5 true) W' := fun u W' hb hq => hR.step hst hb hq (by decide) (by decide)
      clear hF hpre hl hR
      go_simp
      exact ⟨_, rfl, hgoal _ _ (Below.refl _ _) rfl⟩
    | 6, ho =>
      simp at ho
      subst ho
      refine step_plain rfl ?_
      have e92 := hF.gave 5 rfl (hpre ⟨5, .data⟩ (by simp) rfl) rfl
      have v5 := hR.1.2 5 (hpre ⟨5, .data⟩ (by simp) rfl)
      rw [show val 5 = .pointer (some ⟨bx, ox + ki, none⟩) from v5] at e92
      clear v5
      have hgoal : ∀ u W', Below x.heap.size x W' → QV w.heap.size wq.heap.size AX' X.length cx' AY' Y.length cy' AV' V.length cv' bx ox cx by_ oy cy ki kk xi yk v 6 u W' → RW (QV w.heap.size wq.heap.size AX' X.length cx' AY' Y.length cy' AV' V.length cv' bx ox cx by_ oy cy ki kk xi yk v) wq v (upd val 6 u) (L.setIfInBounds 6 true) W' := fun u W' hb hq => hR.step hst hb hq (by decide) (by decide)
      have q0 := cell_keep hR.1.1 t0
      have q1 := cell_keep hR.1.1 t1
      have q2 := cell_keep hR.1.1 n0
      have q3 := cell_keep hR.1.1 n1
      have q4 := cell_keep hR.1.1 j0
      have q5 := cell_keep hR.1.1 j1
      have q6 := cell_keep hR.1.1 j2
      have q7 := cell_keep hR.1.1 hcx
      have q8 := cell_keep hR.1.1 hcy
      clear hF hpre hl hR
      go_simp
      exact ⟨_, rfl, hgoal _ _ (Below.refl _ _) rfl⟩
    | 7, ho =>
      simp at ho
      subst ho
      refine step_plain rfl ?_
      have e3 := hF.was 3 (by kernel_rfl) rfl
      have hgoal : ∀ u W', Below x.heap.size x W' → QV w.heap.size wq.heap.size AX' X.length cx' AY' Y.length cy' AV' V.length cv' bx ox cx by_ oy cy ki kk xi yk v 7 u W' → RW (QV w.heap.size wq.heap.size AX' X.length cx' AY' Y.length cy' AV' V.length cv' bx ox cx by_ oy cy ki kk xi yk v) wq v (upd val 7 u) (L.setIfInBounds 7 true) W' := fun u W' hb hq => hR.step hst hb hq (by decide) (by decide)
      clear hF hpre hl hR
      go_simp
      exact ⟨_, rfl, hgoal _ _ (Below.refl _ _) rfl⟩
    | 8, ho =>
      simp at ho
      subst ho
      refine step_plain rfl ?_
      have e94 := hF.gave 7 rfl (hpre ⟨7, .data⟩ (by simp) rfl) rfl
      have v7 := hR.1.2 7 (hpre ⟨7, .data⟩ (by simp) rfl)
      rw [show val 7 = .pointer (some ⟨w.heap.size, 1, none⟩) from v7] at e94
      clear v7
      have hgoal : ∀ u W', Below x.heap.size x W' → QV w.heap.size wq.heap.size AX' X.length cx' AY' Y.length cy' AV' V.length cv' bx ox cx by_ oy cy ki kk xi yk v 8 u W' → RW (QV w.heap.size wq.heap.size AX' X.length cx' AY' Y.length cy' AV' V.length cv' bx ox cx by_ oy cy ki kk xi yk v) wq v (upd val 8 u) (L.setIfInBounds 8 true) W' := fun u W' hb hq => hR.step hst hb hq (by decide) (by decide)
      have q0 := cell_keep hR.1.1 t0
      have q1 := cell_keep hR.1.1 t1
      have q2 := cell_keep hR.1.1 n0
      have q3 := cell_keep hR.1.1 n1
      have q4 := cell_keep hR.1.1 j0
      have q5 := cell_keep hR.1.1 j1
      have q6 := cell_keep hR.1.1 j2
      have q7 := cell_keep hR.1.1 hcx
      have q8 := cell_keep hR.1.1 hcy
      clear hF hpre hl hR
      go_simp
      exact ⟨_, rfl, hgoal _ _ (Below.refl _ _) rfl⟩
    | 9, ho =>
      simp at ho
      subst ho
      refine step_plain rfl ?_
      have e5 := hF.was 5 (by kernel_rfl) rfl
      have hgoal : ∀ u W', Below x.heap.size x W' → QV w.heap.size wq.heap.size AX' X.length cx' AY' Y.length cy' AV' V.length cv' bx ox cx by_ oy cy ki kk xi yk v 9 u W' → RW (QV w.heap.size wq.heap.size AX' X.length cx' AY' Y.length cy' AV' V.length cv' bx ox cx by_ oy cy ki kk xi yk v) wq v (upd val 9 u) (L.setIfInBounds 9 true) W' := fun u W' hb hq => hR.step hst hb hq (by decide) (by decide)
      clear hF hpre hl hR
      go_simp
      exact ⟨_, rfl, hgoal _ _ (Below.refl _ _) rfl⟩
    | 10, ho =>
      simp at ho
      subst ho
      refine step_plain rfl ?_
      have e96 := hF.gave 9 rfl (hpre ⟨9, .data⟩ (by simp) rfl) rfl
      have v9 := hR.1.2 9 (hpre ⟨9, .data⟩ (by simp) rfl)
      rw [show val 9 = .pointer (some ⟨w.heap.size + 1 + 1, 1, none⟩) from v9] at e96
      clear v9
      have hgoal : ∀ u W', Below x.heap.size x W' → QV w.heap.size wq.heap.size AX' X.length cx' AY' Y.length cy' AV' V.length cv' bx ox cx by_ oy cy ki kk xi yk v 10 u W' → RW (QV w.heap.size wq.heap.size AX' X.length cx' AY' Y.length cy' AV' V.length cv' bx ox cx by_ oy cy ki kk xi yk v) wq v (upd val 10 u) (L.setIfInBounds 10 true) W' := fun u W' hb hq => hR.step hst hb hq (by decide) (by decide)
      have q0 := cell_keep hR.1.1 t0
      have q1 := cell_keep hR.1.1 t1
      have q2 := cell_keep hR.1.1 n0
      have q3 := cell_keep hR.1.1 n1
      have q4 := cell_keep hR.1.1 j0
      have q5 := cell_keep hR.1.1 j1
      have q6 := cell_keep hR.1.1 j2
      have q7 := cell_keep hR.1.1 hcx
      have q8 := cell_keep hR.1.1 hcy
      clear hF hpre hl hR
      go_simp
      exact ⟨_, rfl, hgoal _ _ (Below.refl _ _) rfl⟩
    | 11, ho =>
      simp at ho
      subst ho
      refine step_plain rfl ?_
      have e95 := hF.gave 8 rfl (hpre ⟨8, .data⟩ (by simp) rfl) rfl
      have v8 := hR.1.2 8 (hpre ⟨8, .data⟩ (by simp) rfl)
      rw [show val 8 = .slice (some ⟨by_, oy, none⟩) Y.length cy from v8] at e95
      clear v8
      have e97 := hF.gave 10 rfl (hpre ⟨10, .data⟩ (by simp) rfl) rfl
      have v10 := hR.1.2 10 (hpre ⟨10, .data⟩ (by simp) rfl)
      rw [show val 10 = .int .i64 (kk : Nat) from v10] at e97
      clear v10
      have hgoal : ∀ u W', Below x.heap.size x W' → QV w.heap.size wq.heap.size AX' X.length cx' AY' Y.length cy' AV' V.length cv' bx ox cx by_ oy cy ki kk xi yk v 11 u W' → RW (QV w.heap.size wq.heap.size AX' X.length cx' AY' Y.length cy' AV' V.length cv' bx ox cx by_ oy cy ki kk xi yk v) wq v (upd val 11 u) (L.setIfInBounds 11 true) W' := fun u W' hb hq => hR.step hst hb hq (by decide) (by decide)
      clear hF hpre hl hR
      go_simp
      exact ⟨_, rfl, hgoal _ _ (Below.refl _ _) rfl⟩
    | 12, ho =>
      simp at ho
      subst ho
      refine step_plain rfl ?_
      have e98 := hF.gave 11 rfl (hpre ⟨11, .data⟩ (by simp) rfl) rfl
      have v11 := hR.1.2 11 (hpre ⟨11, .data⟩ (by simp) rfl)
      rw [show val 11 = .pointer (some ⟨by_, oy + kk, none⟩) from v11] at e98
      clear v11
      have hgoal : ∀ u W', Below x.heap.size x W' → QV w.heap.size wq.heap.size AX' X.length cx' AY' Y.length cy' AV' V.length cv' bx ox cx by_ oy cy ki kk xi yk v 12 u W' → RW (QV w.heap.size wq.heap.size AX' X.length cx' AY' Y.length cy' AV' V.length cv' bx ox cx by_ oy cy ki kk xi yk v) wq v (upd val 12 u) (L.setIfInBounds 12 true) W' := fun u W' hb hq => hR.step hst hb hq (by decide) (by decide)
      have q0 := cell_keep hR.1.1 t0
      have q1 := cell_keep hR.1.1 t1
      have q2 := cell_keep hR.1.1 n0
      have q3 := cell_keep hR.1.1 n1
      have q4 := cell_keep hR.1.1 j0
      have q5 := cell_keep hR.1.1 j1
      have q6 := cell_keep hR.1.1 j2
      have q7 := cell_keep hR.1.1 hcx
      have q8 := cell_keep hR.1.1 hcy
      clear hF hpre hl hR
      go_simp
      exact ⟨_, rfl, hgoal _ _ (Below.refl _ _) rfl⟩
    | 13, ho =>
      simp at ho
      subst ho
      refine step_plain rfl ?_
      have e87 := hF.gave 0 rfl (hpre ⟨0, .data⟩ (by simp) rfl) rfl
      have v0 := hR.1.2 0 (hpre ⟨0, .data⟩ (by simp) rfl)
      rw [show val 0 = .agg #[.slice AX' X.length cx', .slice AY' Y.length cy', .slice AV' V.length cv'] from v0] at e87
      clear v0
      have e93 := hF.gave 6 rfl (hpre ⟨6, .data⟩ (by simp) rfl) rfl
      have v6 := hR.1.2 6 (hpre ⟨6, .data⟩ (by simp) rfl)
      rw [show val 6 = .int .i64 xi from v6] at e93
      clear v6
      have e99 := hF.gave 12 rfl (hpre ⟨12, .data⟩ (by simp) rfl) rfl
      have v12 := hR.1.2 12 (hpre ⟨12, .data⟩ (by simp) rfl)
      rw [show val 12 = .int .i64 yk from v12] at e99
      clear v12
      have hgoal : ∀ u W', Below x.heap.size x W' → QV w.heap.size wq.heap.size AX' X.length cx' AY' Y.length cy' AV' V.length cv' bx ox cx by_ oy cy ki kk xi yk v 13 u W' → RW (QV w.heap.size wq.heap.size AX' X.length cx' AY' Y.length cy' AV' V.length cv' bx ox cx by_ oy cy ki kk xi yk v) wq v (upd val 13 u) (L.setIfInBounds 13 true) W' := fun u W' hb hq => hR.step hst hb hq (by decide) (by decide)
      have q0 := cell_keep hR.1.1 t0
      have q1 := cell_keep hR.1.1 t1
      have q2 := cell_keep hR.1.1 n0
      have q3 := cell_keep hR.1.1 n1
      have q4 := cell_keep hR.1.1 j0
      have q5 := cell_keep hR.1.1 j1
      have q6 := cell_keep hR.1.1 j2
      have q7 := cell_keep hR.1.1 hcx
      have q8 := cell_keep hR.1.1 hcy
      have hM := Lib.hid hR.1.1
      clear hF hpre hl hR
      go_simp
      refine ⟨trivial, ?_⟩
      refine CallsIn.mono (callsIn_wide.2 (HAT.out _ hM.out)) ?_
      rintro e y9 ⟨rfl, hb9⟩
      exact ⟨_, rfl, hgoal _ _ hb9 rfl⟩
    | 14, ho =>
      simp at ho
      subst ho
      refine step_plain rfl ?_
      have e100 := hF.gave 13 rfl (hpre ⟨13, .data⟩ (by simp) rfl) rfl
      have v13 := hR.1.2 13 (hpre ⟨13, .data⟩ (by simp) rfl)
      rw [show val 13 = .tuple #[.agg #[.int .i64 v, .int .i64 v], .int .i64 0] from v13] at e100
      clear v13
      have hgoal : ∀ u W', Below x.heap.size x W' → QV w.heap.size wq.heap.size AX' X.length cx' AY' Y.length cy' AV' V.length cv' bx ox cx by_ oy cy ki kk xi yk v 14 u W' → RW (QV w.heap.size wq.heap.size AX' X.length cx' AY' Y.length cy' AV' V.length cv' bx ox cx by_ oy cy ki kk xi yk v) wq v (upd val 14 u) (L.setIfInBounds 14 true) W' := fun u W' hb hq => hR.step hst hb hq (by decide) (by decide)
      clear hF hpre hl hR
      go_simp
      exact ⟨_, rfl, hgoal _ _ (Below.refl _ _) rfl⟩
    | 15, ho =>
      simp at ho
      subst ho
      refine step_plain rfl ?_
      have e86 := hF.gave 14 rfl (hpre ⟨14, .data⟩ (by simp) rfl) rfl
      have v14 := hR.1.2 14 (hpre ⟨14, .data⟩ (by simp) rfl)
      rw [show val 14 = .tuple #[.agg #[.int .i64 v, .int .i64 v], .int .i64 0] from v14] at e86
      clear v14
      have hgoal : ∀ u W', Below x.heap.size x W' → QV w.heap.size wq.heap.size AX' X.length cx' AY' Y.length cy' AV' V.length cv' bx ox cx by_ oy cy ki kk xi yk v 15 u W' → RW (QV w.heap.size wq.heap.size AX' X.length cx' AY' Y.length cy' AV' V.length cv' bx ox cx by_ oy cy ki kk xi yk v) wq v (upd val 15 u) (L.setIfInBounds 15 true) W' := fun u W' hb hq => hR.step hst hb hq (by decide) (by decide)
      clear hF hpre hl hR
      go_simp
      exact ⟨_, rfl, hgoal _ _ (Below.refl _ _) rfl⟩
    | 16, ho =>
      simp at ho
      subst ho
      refine step_plain rfl ?_
      have e86 := hF.gave 14 rfl (hpre ⟨14, .data⟩ (by simp) rfl) rfl
      have v14 := hR.1.2 14 (hpre ⟨14, .data⟩ (by simp) rfl)
      rw [show val 14 = .tuple #[.agg #[.int .i64 v, .int .i64 v], .int .i64 0] from v14] at e86
      clear v14
      have hgoal : ∀ u W', Below x.heap.size x W' → QV w.heap.size wq.heap.size AX' X.length cx' AY' Y.length cy' AV' V.length cv' bx ox cx by_ oy cy ki kk xi yk v 16 u W' → RW (QV w.heap.size wq.heap.size AX' X.length cx' AY' Y.length cy' AV' V.length cv' bx ox cx by_ oy cy ki kk xi yk v) wq v (upd val 16 u) (L.setIfInBounds 16 true) W' := fun u W' hb hq => hR.step hst hb hq (by decide) (by decide)
      clear hF hpre hl hR
      go_simp
      exact ⟨_, rfl, hgoal _ _ (Below.refl _ _) rfl⟩
    | 17, ho =>
      simp at ho
      subst ho
      refine step_plain rfl ?_
      have l18 := hF.later hl 18 rfl (e := ⟨17, .data⟩) (by simp) rfl rfl
      have hgoal : ∀ u W', Below x.heap.size x W' → QV w.heap.size wq.heap.size AX' X.length cx' AY' Y.length cy' AV' V.length cv' bx ox cx by_ oy cy ki kk xi yk v 17 u W' → RW (QV w.heap.size wq.heap.size AX' X.length cx' AY' Y.length cy' AV' V.length cv' bx ox cx by_ oy cy ki kk xi yk v) wq v (upd val 17 u) (L.setIfInBounds 17 true) W' := fun u W' hb hq => hR.step17 hst hb hq l18
      have hz := hR.1.1.size
      have hn : (x.alloc (.cells #[.int .i64 0, .int .i64 0] 37)).heap[x.heap.size]? = some (.cells #[.int .i64 0, .int .i64 0] 37 (0, 0)) := by show (x.heap.push _)[x.heap.size]? = _; simp
      have hf := fun o => block_frozen (o := o) hn
      have hcc := fun o => block_cell (o := o) hn
      have HN := Lib.hid (And.intro hf hcc)
      clear hF hpre hl hR l18 hn hf hcc
      go_simp
      refine ⟨_, rfl, hgoal _ _ ((Below.refl _ _).alloc (Nat.le_refl _) _) ⟨_, rfl, hz, by simp, HN.out.1 0, HN.out.1 1, _, _, (HN.out.2 0).trans rfl, (HN.out.2 1).trans rfl⟩⟩
    | 18, ho =>
      simp at ho
      subst ho
      refine step_plain rfl ?_
      have e13 := hF.gave 17 rfl (hpre ⟨17, .data⟩ (by simp) rfl) rfl
      have v17 := hR.1.2 17 (hpre ⟨17, .data⟩ (by simp) rfl)
      have e101 := hF.gave 15 rfl (hpre ⟨15, .data⟩ (by simp) rfl) rfl
      have v15 := hR.1.2 15 (hpre ⟨15, .data⟩ (by simp) rfl)
      rw [show val 15 = .agg #[.int .i64 v, .int .i64 v] from v15] at e101
      clear v15
      obtain ⟨q, v17e, hMq, hqx, hf0, hf1, u0, u1, hc0, hc1⟩ := v17
      have hgoal := hR.step18 (q := q) (fun j u _ => hst17 q x j u) v17e hMq (by rw [hc0]; rfl) (by rw [hc1]; rfl) (fun _ _ => trivial)
      rw [v17e] at e13
      clear hF hpre hl hR
      go_simp
      exact ⟨undef, hgoal⟩
    | 19, ho =>
      simp at ho
      subst ho
      refine step_plain rfl ?_
      have e102 := hF.gave 16 rfl (hpre ⟨16, .data⟩ (by simp) rfl) rfl
      have v16 := hR.1.2 16 (hpre ⟨16, .data⟩ (by simp) rfl)
      rw [show val 16 = .int .i64 0 from v16] at e102
      clear v16
      have hgoal : ∀ u W', Below x.heap.size x W' → QV w.heap.size wq.heap.size AX' X.length cx' AY' Y.length cy' AV' V.length cv' bx ox cx by_ oy cy ki kk xi yk v 19 u W' → RW (QV w.heap.size wq.heap.size AX' X.length cx' AY' Y.length cy' AV' V.length cv' bx ox cx by_ oy cy ki kk xi yk v) wq v (upd val 19 u) (L.setIfInBounds 19 true) W' := fun u W' hb hq => hR.step hst hb hq (by decide) (by decide)
      clear hF hpre hl hR
      go_simp
      exact ⟨_, rfl, hgoal _ _ (Below.refl _ _) rfl⟩
    | i + 20, ho => simp at ho
  case hend =>
    intro val L b' x' hF hall hR
    have e := hF.all (by kernel_rfl) hall
    have v12 := hR.1.2 12 (hall 12 (by decide))
    have v17 := hR.1.2 17 (hall 17 (by decide))
    have v19 := hR.1.2 19 (hall 19 (by decide))
    obtain ⟨g9, e17, cc0, cc1⟩ := hR.2 (hall 18 (by decide))
    have HX := Lib.hid (HSQ.out.b.trans (hR.1.1.mono HSQ.out.b.size))
    clear hF hall hR
    subst e
    simp [final, dstOf, List.range, List.range.loop]
    rw [e17, show val 19 = .int .i64 0 from v19]
    clear v12 v17 v19 e17
    generalize val 0 = v0, val 1 = v1, val 2 = v2, val 3 = v3, val 4 = v4, val 5 = v5, val 6 = v6, val 7 = v7, val 8 = v8, val 9 = v9, val 10 = v10, val 11 = v11, val 12 = v12, val 13 = v13, val 14 = v14, val 15 = v15, val 16 = v16
    go_wp2_with (go_at_call 18; refine Calls.mono (HWK.out _) ?_; rintro e w5 ⟨rfl, hb5⟩)
    go_ret
    exact ⟨rfl, HX.out.trans (hb5.mono HX.out.size)⟩

end Go.Proofs.Ytjdahphnmeaolaa

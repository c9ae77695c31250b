/- works(). -/
import Derived.Test.YtjdahphnmeaolaaGst
namespace Go.Proofs.Ytjdahphnmeaolaa
open Go.RowKit

def GivesTable (w : World) (X Y : List Int) (V : List (List Int)) (e : Ending) (w' : World) : Prop :=
  ∃ AX AY AV cx cy cv, e = .returned (.agg #[.slice AX X.length cx, .slice AY Y.length cy, .slice AV V.length cv]) ∧ TB w' w'.heap.size AX AY AV X Y V ∧ Below w.heap.size w w'

def exX : List Int := [0, 10, 20]
def exY : List Int := [0, 5]
def exV : List (List Int) := [[0, 10], [20, 30], [10, 50]]

theorem RI.two {w : World} {B b : Nat} {x y : Int} (hb : b < B) (h0 : w.cell? ⟨b, 0, none⟩ = some (.int .i64 x)) (h1 : w.cell? ⟨b, 1, none⟩ = some (.int .i64 y)) : RI w B (some ⟨b, 0, none⟩) [x, y] := fun _ =>
  ⟨_, _, rfl, hb, fun j u hu => by
    match j, hu with
    | 0, hu => simp at hu; subst hu; exact h0
    | 1, hu => simp at hu; subst hu; exact h1
    | j + 2, hu => simp at hu⟩
theorem RI.three {w : World} {B b : Nat} {x y z : Int} (hb : b < B) (h0 : w.cell? ⟨b, 0, none⟩ = some (.int .i64 x)) (h1 : w.cell? ⟨b, 1, none⟩ = some (.int .i64 y)) (h2 : w.cell? ⟨b, 2, none⟩ = some (.int .i64 z)) : RI w B (some ⟨b, 0, none⟩) [x, y, z] := fun _ =>
  ⟨_, _, rfl, hb, fun j u hu => by
    match j, hu with
    | 0, hu => simp at hu; subst hu; exact h0
    | 1, hu => simp at hu; subst hu; exact h1
    | 2, hu => simp at hu; subst hu; exact h2
    | j + 3, hu => simp at hu⟩
theorem RR.three {w : World} {B b : Nat} {r0 r1 r2 : List Int} {A0 A1 A2 : Option Addr} {c0 c1 c2 : Nat} (hb : b < B) (h0 : w.cell? ⟨b, 0, none⟩ = some (.slice A0 r0.length c0)) (h1 : w.cell? ⟨b, 1, none⟩ = some (.slice A1 r1.length c1)) (h2 : w.cell? ⟨b, 2, none⟩ = some (.slice A2 r2.length c2))
    (g0 : RI w B A0 r0) (g1 : RI w B A1 r1) (g2 : RI w B A2 r2) : RR w B (some ⟨b, 0, none⟩) [r0, r1, r2] := fun _ =>
  ⟨_, _, rfl, hb, fun j u hu => by
    match j, hu with
    | 0, hu => simp at hu; subst hu; exact ⟨_, _, h0, g0⟩
    | 1, hu => simp at hu; subst hu; exact ⟨_, _, h1, g1⟩
    | 2, hu => simp at hu; subst hu; exact ⟨_, _, h2, g2⟩
    | j + 3, hu => simp at hu⟩

theorem example_any (w : World) : Calls Try.prog 64 #[] w (GivesTable w exX exY exV) := by
  go_enter Try.func64, Try.ntmps64
  go_wp2
  refine bodyPost_ret (v := .agg #[.slice (some ⟨w.heap.size + 1, 0, none⟩) 3 3, .slice (some ⟨w.heap.size + 1 + 1, 0, none⟩) 2 2, .slice (some ⟨w.heap.size + 1 + 1 + 1 + 1 + 1 + 1, 0, none⟩) 3 3]) (by simp [results, Try.results64, go_sem]) rfl ?_
  refine ⟨_, _, _, _, _, _, rfl, ⟨?_, ?_, ?_⟩, by go_grown⟩
  · exact RI.three (by simp <;> omega) (by go_simp) (by go_simp) (by go_simp)
  · exact RI.two (by simp <;> omega) (by go_simp) (by go_simp)
  · exact RR.three (A0 := some ⟨w.heap.size + 1 + 1 + 1, 0, none⟩) (A1 := some ⟨w.heap.size + 1 + 1 + 1 + 1, 0, none⟩) (A2 := some ⟨w.heap.size + 1 + 1 + 1 + 1 + 1, 0, none⟩) (c0 := 2) (c1 := 2) (c2 := 2)
      (by simp) (by go_simp) (by go_simp) (by go_simp) (RI.two (by simp <;> omega) (by go_simp) (by go_simp)) (RI.two (by simp <;> omega) (by go_simp) (by go_simp)) (RI.two (by simp <;> omega) (by go_simp) (by go_simp))

theorem ex_bound : bndL (cornersL exX exY exV (endsL exX 5 15) (endsL exY 0 5)) = (10, 40) := by decide
theorem ex_greatest : grS exX exY exV 0 5 29 = (9, 0) := by decide
theorem ex_cbE : cbE exX exY exV 5 15 0 5 = 0 := by decide
theorem ex_rows : ∀ r ∈ exV, r.length ≤ maxLen := by
  intro r hr
  simp [exV] at hr
  rcases hr with rfl | rfl | rfl <;> exact le_maxLen (by simp)

theorem works_any (w : World) : Calls Try.prog 18 #[] w fun e w' => e = .returned (.bool true) ∧ Below w.heap.size w w' := by
  have hb : ∀ (AX AY AV : Option Addr) (cx cy cv : Nat) (W : World), TB W W.heap.size AX AY AV exX exY exV → Calls Try.prog 49 #[.agg #[.slice AX exX.length cx, .slice AY exY.length cy, .slice AV exV.length cv], .agg #[.int .i64 5, .int .i64 15], .agg #[.int .i64 0, .int .i64 5]] W fun e w' =>
      e = .returned (.tuple #[.agg #[.int .i64 10, .int .i64 40], .int .i64 0]) ∧ Below W.heap.size W w' := fun AX AY AV cx cy cv W h => by
    have := bound_ok AX AY AV _ cx _ cy _ cv W.heap.size exX exY exV 5 15 0 5 W rfl rfl rfl (le_maxLen (by decide)) (le_maxLen (by decide)) (le_maxLen (by decide)) ex_rows (Nat.le_refl _) h ex_cbE
    rw [ex_bound] at this
    exact this
  have hg : ∀ (AX AY AV : Option Addr) (cx cy cv : Nat) (W : World), TB W W.heap.size AX AY AV exX exY exV → Calls Try.prog 55 #[.agg #[.slice AX exX.length cx, .slice AY exY.length cy, .slice AV exV.length cv], .agg #[.int .i64 0, .int .i64 5], .int .i64 29] W fun e w' =>
      e = .returned (.tuple #[.int .i64 9, .int .i64 0]) ∧ Below W.heap.size W w' := fun AX AY AV cx cy cv W h => by
    have := greatest_any AX AY AV _ cx _ cy _ cv W.heap.size exX exY exV 0 5 29 W rfl rfl rfl (le_maxLen (by decide)) (le_maxLen (by decide)) (le_maxLen (by decide)) ex_rows (Nat.le_refl _) h
    rw [ex_greatest] at this
    exact this
  have HB := Lib.hid hb
  have HG := Lib.hid hg
  have HE := Lib.hid example_any
  clear hb hg
  go_enter Try.func18, Try.ntmps18
  go_upto_region 2 with (first
    | (go_at_call 64; refine Calls.mono (HE.out _) ?_; rintro e wA ⟨AX, AY, AV, cx, cy, cv, rfl, hT, hb1⟩; have HT := Lib.hid hT; have HB1 := Lib.hid hb1; clear hT hb1)
    | (go_at_call 49; refine Calls.mono (HB.out _ _ _ _ _ _ _ HT.out) ?_; rintro e wB ⟨rfl, hb2⟩; have HB2 := Lib.hid hb2; clear hb2))
  have hbw : Below w.heap.size w wB := HB1.out.trans (HB2.out.mono HB1.out.size)
  have HBW := Lib.hid hbw
  clear hbw
  go_wp2_with (first
    | (go_at_call 64; refine Calls.mono (HE.out _) ?_; rintro e wC ⟨AX', AY', AV', cx', cy', cv', rfl, hT', hb3⟩; have HT' := Lib.hid hT'; have t0 : wC.cell? ⟨wB.heap.size, 0, none⟩ = some (.int .i64 10) := cell_keep hb3 (by go_simp); have t1 : wC.cell? ⟨wB.heap.size, 1, none⟩ = some (.int .i64 40) := cell_keep hb3 (by go_simp); have hz3 := hb3.size; simp at hz3; have HB3 := Lib.hid hb3; clear hT' hb3)
    | (go_at_call 55; refine Calls.mono (HG.out _ _ _ _ _ _ _ HT'.out) ?_; rintro e wD ⟨rfl, hb4⟩; replace t0 := cell_keep hb4 t0; replace t1 := cell_keep hb4 t1; have HB4 := Lib.hid hb4; clear hb4))
  go_ret
  have h3 : wB.heap.size ≤ wC.heap.size := by omega
  have hA : Below wB.heap.size wB (wB.alloc (.cells #[.int .i64 10, .int .i64 40] 37)) := (Below.refl _ _).alloc (Nat.le_refl _) _
  have hC : Below wB.heap.size wB wC := hA.trans (HB3.out.mono (by simp))
  exact ⟨rfl, HBW.out.trans ((hC.trans (HB4.out.mono h3)).mono HBW.out.size)⟩

end Go.Proofs.Ytjdahphnmeaolaa

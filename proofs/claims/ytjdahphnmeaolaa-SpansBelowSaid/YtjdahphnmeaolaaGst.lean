/- spans.Greatest. -/
import Derived.Test.YtjdahphnmeaolaaUnder
namespace Go.Proofs.Ytjdahphnmeaolaa
open Go.RowKit

theorem unL_bd (size : Int) (Y : List Int) (V : List (List Int)) (i : Nat) (limit : Int) (l : List Int) : 0 ≤ (unL size Y V i limit l).1 ∧ (unL size Y V i limit l).2 ≤ size := by
  have key : ∀ (l : List Int) (s : Int × Int), 0 ≤ s.1 → s.2 ≤ size → 0 ≤ (l.foldl (unStep size Y V i limit) s).1 ∧ (l.foldl (unStep size Y V i limit) s).2 ≤ size := by
    intro l
    induction l with
    | nil => intro s h1 h2; exact ⟨h1, h2⟩
    | cons x l ih => intro s h1 h2; exact ih _ (by unfold unStep; simp only; omega) (by unfold unStep; simp only; omega)
  exact key l _ (Int.le_refl _) (Int.le_refl _)

def grSpan (X Y : List Int) (V : List (List Int)) (y1 y2 lim : Int) (i : Nat) : Int × Int := unL (gz X (i + 1) - gz X i) Y V i lim (endsL Y y1 y2)
def grGo (X Y : List Int) (V : List (List Int)) (y1 y2 lim : Int) : Nat → Int × Int
  | 0 => (0, 3)
  | m + 1 => if (grSpan X Y V y1 y2 lim m).1 ≤ (grSpan X Y V y1 y2 lim m).2 then (gz X m + (grSpan X Y V y1 y2 lim m).2, 0) else grGo X Y V y1 y2 lim m
def grS (X Y : List Int) (V : List (List Int)) (y1 y2 limit : Int) : Int × Int :=
  if ctB X Y V then (if [(y1, y2)].all vS then (if onB Y [y1, y2] then grGo X Y V y1 y2 (min (max limit (-1000001)) 1000000) (X.length - 1) else (0, 1)) else (0, 10)) else (0, 11)

set_option maxHeartbeats 1000000 in
theorem greatest_any (AX AY AV : Option Addr) (nx cx ny cy nv cv B : Nat) (X Y : List Int) (V : List (List Int)) (y1 y2 limit : Int) (w : World) (hx : X.length = nx) (hy : Y.length = ny) (hv : V.length = nv) (hnx : nx ≤ maxLen) (hny : ny ≤ maxLen) (hnv : nv ≤ maxLen) (hnr : ∀ r ∈ V, r.length ≤ maxLen)
    (hB : B ≤ w.heap.size) (h : TB w B AX AY AV X Y V) :
    Calls Try.prog 55 #[.agg #[.slice AX nx cx, .slice AY ny cy, .slice AV nv cv], .agg #[.int .i64 y1, .int .i64 y2], .int .i64 limit] w fun e w' => e = .returned (.tuple #[.int .i64 (grS X Y V y1 y2 limit).1, .int .i64 (grS X Y V y1 y2 limit).2]) ∧ Below w.heap.size w w' := by
  subst hx hy hv
  have hT := Lib.hid h
  have hR := Lib.hid hnr
  clear h hnr
  cases h1 : ctB X Y V with
  | false =>
    have e0 : grS X Y V y1 y2 limit = (0, 11) := by unfold grS; rw [h1]; rfl
    rw [e0]
    have e1 : ctE X Y V = 11 := ctE_no h1
    clear e0
    go_enter Try.func55, Try.ntmps55
    go_wp2_with (go_at_call 22; refine Calls.mono (checkTable_any AX AY AV _ _ _ _ _ _ B X Y V _ rfl rfl rfl hnx hny hnv hR.out ?c1 (hT.out.below ?c2)) ?_; (case c1 => (simp; omega)); (case c2 => go_grown); rintro e w1 ⟨rfl, hb1⟩)
    refine bodyPost_ret (v := .tuple #[.int .i64 0, .int .i64 11]) (by simp [results, Try.results55, go_sem]) rfl ?_
    exact ⟨rfl, Below.trans (by go_grown) (hb1.mono (by simp; omega))⟩
  | true =>
  have e1 : ctE X Y V = 0 := ctE_yes h1
  cases h2 : [(y1, y2)].all vS with
  | false =>
    have e0 : grS X Y V y1 y2 limit = (0, 10) := by unfold grS; rw [h1, h2]; rfl
    rw [e0]
    clear e0
    have H2 := Lib.hid h2
    clear h2
    go_enter Try.func55, Try.ntmps55
    go_wp2_with (first
      | (go_at_call 22; refine Calls.mono (checkTable_any AX AY AV _ _ _ _ _ _ B X Y V _ rfl rfl rfl hnx hny hnv hR.out ?c1 (hT.out.below ?c2)) ?_; (case c1 => (simp; omega)); (case c2 => go_grown); rintro e w1 ⟨rfl, hb1⟩; obtain ⟨hc1, hf1⟩ := bcell hb1; have hz1 := hb1.size; simp at hz1; have hz2 : w.heap.size < w1.heap.size := (by omega); have hz3 : w.heap.size + 1 < w1.heap.size := (by omega))
      | (go_at_call 65; refine Calls.mono (valid_any _ _ _ _ [(y1, y2)] _ rfl (le_maxLen (by simp)) ?c3 (RS.new1 rfl)) ?_; (case c3 => simp); rintro e w2 ⟨rfl, hb2⟩; rw [H2.out]))
    refine bodyPost_ret (v := .tuple #[.int .i64 0, .int .i64 10]) (by simp [results, Try.results55, go_sem]) rfl ?_
    exact ⟨rfl, (Below.trans (by go_grown) (hb1.mono (by simp; omega))).trans (Below.trans (by go_grown) (hb2.mono (by simp; omega)))⟩
  | true =>
  obtain ⟨hl1, hl3, hl2, hl4⟩ := ctB_len h1
  cases h3 : onB Y [y1, y2] with
  | false =>
    have e0 : grS X Y V y1 y2 limit = (0, 1) := by unfold grS; rw [h1, h2, h3]; rfl
    rw [e0]
    clear e0
    go_enter Try.func55, Try.ntmps55
    go_wp2_with (first
      | (go_at_call 22; refine Calls.mono (checkTable_any AX AY AV _ _ _ _ _ _ B X Y V _ rfl rfl rfl hnx hny hnv hR.out ?c1 (hT.out.below ?c2)) ?_; (case c1 => (simp; omega)); (case c2 => go_grown); rintro e w1 ⟨rfl, hb1⟩; obtain ⟨hc1, hf1⟩ := bcell hb1; have hz1 := hb1.size; simp at hz1; have hz2 : w.heap.size < w1.heap.size := (by omega); have hz3 : w.heap.size + 1 < w1.heap.size := (by omega); have hbb1 : Below w.heap.size w w1 := (Below.trans (by go_grown) (hb1.mono (by simp; omega))))
      | (go_at_call 65; refine Calls.mono (valid_any _ _ _ _ [(y1, y2)] _ rfl (le_maxLen (by simp)) ?c3 (RS.new1 rfl)) ?_; (case c3 => simp); rintro e w2 ⟨rfl, hb2⟩; obtain ⟨hc2, hf2⟩ := bcell hb2; have hy1 := hb2.size; simp at hy1; have hy2 : w.heap.size < w2.heap.size := (by omega); have hy3 : w.heap.size + 1 < w2.heap.size := (by omega); have hbb2 : Below w.heap.size w w2 := (hbb1.trans (Below.trans (by go_grown) (hb2.mono (by simp; omega)))))
      | (go_at_call 89; refine Calls.mono (onAxis_any AY _ _ _ _ _ B _ Y [y1, y2] _ rfl hny hl2 rfl (le_maxLen (by simp)) (hT.out.y.below ?c5) (RI.new2 rfl)) ?_; (case c5 => exact (Below.trans (hbb2.mono hB) (by go_grown))); rintro e w4 ⟨rfl, hb4⟩; have hbb4 : Below w.heap.size w w4 := (hbb2.trans (Below.trans (by go_grown) (hb4.mono (by simp; omega))))))
    refine bodyPost_ret (v := .tuple #[.int .i64 0, .int .i64 1]) (by simp [results, Try.results55, go_sem]) rfl ?_
    exact ⟨rfl, hbb4⟩
  | true =>
    have e0 : grS X Y V y1 y2 limit = grGo X Y V y1 y2 (min (max limit (-1000001)) 1000000) (X.length - 1) := by unfold grS; rw [h1, h2, h3]; rfl
    rw [e0]
    clear e0
    have hon : On Y y1 ∧ On Y y2 := by
      simp [onB, wB] at h3
      exact ⟨⟨h3.1.1, h3.1.2⟩, ⟨h3.2.1, h3.2.2⟩⟩
    obtain ⟨ho1, ho2⟩ := hon
    go_enter Try.func55, Try.ntmps55
    go_wp2_with (first
      | (go_at_call 22; refine Calls.mono (checkTable_any AX AY AV _ _ _ _ _ _ B X Y V _ rfl rfl rfl hnx hny hnv hR.out ?c1 (hT.out.below ?c2)) ?_; (case c1 => (simp; omega)); (case c2 => go_grown); rintro e w1 ⟨rfl, hb1⟩; obtain ⟨hc1, hf1⟩ := bcell hb1; have hz1 := hb1.size; simp at hz1; have hz2 : w.heap.size < w1.heap.size := (by omega); have hz3 : w.heap.size + 1 < w1.heap.size := (by omega); have hbb1 : Below w.heap.size w w1 := (Below.trans (by go_grown) (hb1.mono (by simp; omega))))
      | (go_at_call 65; refine Calls.mono (valid_any _ _ _ _ [(y1, y2)] _ rfl (le_maxLen (by simp)) ?c3 (RS.new1 rfl)) ?_; (case c3 => simp); rintro e w2 ⟨rfl, hb2⟩; obtain ⟨hc2, hf2⟩ := bcell hb2; have hy1 := hb2.size; simp at hy1; have hy2 : w.heap.size < w2.heap.size := (by omega); have hy3 : w.heap.size + 1 < w2.heap.size := (by omega); have hbb2 : Below w.heap.size w w2 := (hbb1.trans (Below.trans (by go_grown) (hb2.mono (by simp; omega)))))
      | (go_at_call 89; refine Calls.mono (onAxis_any AY _ _ _ _ _ B _ Y [y1, y2] _ rfl hny hl2 rfl (le_maxLen (by simp)) (hT.out.y.below ?c5) (RI.new2 rfl)) ?_; (case c5 => exact (Below.trans (hbb2.mono hB) (by go_grown))); rintro e w4 ⟨rfl, hb4⟩; obtain ⟨hc4, hf4⟩ := bcell hb4; have hv1 := hb4.size; simp at hv1; have hv2 : w.heap.size < w4.heap.size := (by omega); have hv3 : w.heap.size + 1 < w4.heap.size := (by omega); have hbb4 : Below w.heap.size w w4 := (hbb2.trans (Below.trans (by go_grown) (hb4.mono (by simp; omega))))))
    clear hc1 hf1 hc2 hf2 hc4 hf4
    have t0 : w1.cell? ⟨w.heap.size, 0, none⟩ = some (.slice AX X.length cx) := cell_keep hb1 (by go_simp)
    have t1 : w1.cell? ⟨w.heap.size, 1, none⟩ = some (.slice AY Y.length cy) := cell_keep hb1 (by go_simp)
    have t2 : w1.cell? ⟨w.heap.size, 2, none⟩ = some (.slice AV V.length cv) := cell_keep hb1 (by go_simp)
    have t3 : w1.cell? ⟨w.heap.size + 1, 0, none⟩ = some (.int .i64 y1) := cell_keep hb1 (by go_simp)
    have t4 : w1.cell? ⟨w.heap.size + 1, 1, none⟩ = some (.int .i64 y2) := cell_keep hb1 (by go_simp)
    replace t0 : w2.cell? ⟨w.heap.size, 0, none⟩ = some (.slice AX X.length cx) := cell_keep hb2 (by go_simp)
    replace t1 : w2.cell? ⟨w.heap.size, 1, none⟩ = some (.slice AY Y.length cy) := cell_keep hb2 (by go_simp)
    replace t2 : w2.cell? ⟨w.heap.size, 2, none⟩ = some (.slice AV V.length cv) := cell_keep hb2 (by go_simp)
    replace t3 : w2.cell? ⟨w.heap.size + 1, 0, none⟩ = some (.int .i64 y1) := cell_keep hb2 (by go_simp)
    replace t4 : w2.cell? ⟨w.heap.size + 1, 1, none⟩ = some (.int .i64 y2) := cell_keep hb2 (by go_simp)
    replace t0 : w4.cell? ⟨w.heap.size, 0, none⟩ = some (.slice AX X.length cx) := cell_keep hb4 (by go_simp)
    replace t1 : w4.cell? ⟨w.heap.size, 1, none⟩ = some (.slice AY Y.length cy) := cell_keep hb4 (by go_simp)
    replace t2 : w4.cell? ⟨w.heap.size, 2, none⟩ = some (.slice AV V.length cv) := cell_keep hb4 (by go_simp)
    replace t3 : w4.cell? ⟨w.heap.size + 1, 0, none⟩ = some (.int .i64 y1) := cell_keep hb4 (by go_simp)
    replace t4 : w4.cell? ⟨w.heap.size + 1, 1, none⟩ = some (.int .i64 y2) := cell_keep hb4 (by go_simp)
    clear hb1 hb2 hb4 hbb1 hbb2 hz1 hz2 hz3 hy1 hy2 hy3 hv1
    obtain ⟨ha, -, -, -⟩ := ctB_get h1
    obtain ⟨-, -, q3, q4⟩ := axB_get ha
    have hlm : -1000001 ≤ min (max limit (-1000001)) 1000000 ∧ min (max limit (-1000001)) 1000000 ≤ 1000000 := by omega
    generalize hlim : min (max limit (-1000001)) 1000000 = lim at *
    have HLIM := Lib.hid hlim
    clear hlim
    generalize hlim2 : max limit (-1000001) = lim2
    obtain ⟨hlm1, hlm2⟩ := hlm
    clear hlim2
    go_loopw [9] (fun j wr => ∃ m : Nat, m + 1 ≤ X.length ∧ j = .int .i64 ((m : Int) - 1) ∧ grGo X Y V y1 y2 lim (X.length - 1) = grGo X Y V y1 y2 lim m ∧ Below w4.heap.size w4 wr) (fun j _ => (intOf j + 1).toNat)
    case atStart => exact ⟨X.length - 1, by omega, by congr 1; omega, rfl, Below.refl _ _⟩
    case round =>
      obtain ⟨m, hm, rfl, hgr, hbr⟩ := hrel
      have hbw : Below w.heap.size w wr := hbb4.trans (hbr.mono (by omega))
      have hsr := hbr.size
      replace t0 := cell_keep hbr t0
      replace t1 := cell_keep hbr t1
      replace t2 := cell_keep hbr t2
      replace t3 := cell_keep hbr t3
      replace t4 := cell_keep hbr t4
      have HG := Lib.hid hgr
      have HBR := Lib.hid hbr
      have HBW := Lib.hid hbw
      have HBB := Lib.hid hbb4
      clear hgr hbr hbw hbb4
      cases m with
      | zero =>
        go_wp2
        refine bodyPost_ret (v := .tuple #[.int .i64 0, .int .i64 3]) (by simp [results, Try.results55, go_sem]) rfl ?_
        rw [HLIM.out, HG.out]
        exact ⟨rfl, HBW.out⟩
      | succ m =>
        have c0 : (((m + 1 : Nat) : Int) - 1) = (m : Int) := by omega
        rw [c0]
        have c1 : (0 : Int) ≤ (m : Int) := by omega
        have hund := under_any AX AY AV _ cx _ cy _ cv B X Y V (m : Int) y1 y2 lim wr rfl rfl rfl (by have := HBW.out.size; omega) (hT.out.below (HBW.out.mono hB)) h1 c1 (by omega) ho1 ho2 (by omega) (by omega)
        rw [Int.toNat_natCast] at hund
        obtain ⟨bx, ox, x, rfl, hbx, hx, hcx⟩ := hT.out.x.at_ (k := m) (by omega)
        have hcx' : wr.cell? ⟨bx, ox + m, none⟩ = some (.int .i64 x) := (HBW.out.cell (p := ⟨bx, ox + m, none⟩) (by simp; omega)).trans hcx
        have ex : gz X m = x := gz_of hx
        obtain ⟨u5, u6⟩ := wB_mem q3 hx
        obtain ⟨b1, b2⟩ := unL_bd (gz X (m + 1) - gz X m) Y V m lim (endsL Y y1 y2)
        have sd := stN_get q4 (m := m) (by omega)
        obtain ⟨bx', ox', x', hA, _, hx', _⟩ := hT.out.x.at_ (k := m + 1) (by omega)
        have ex' : gz X (m + 1) = x' := gz_of hx'
        have sd' : 1 ≤ x' - x ∧ x' - x ≤ 10000 := by rw [hx, hx'] at sd; exact sd
        have hgg : grGo X Y V y1 y2 lim (m + 1) = if (grSpan X Y V y1 y2 lim m).1 ≤ (grSpan X Y V y1 y2 lim m).2 then (gz X m + (grSpan X Y V y1 y2 lim m).2, 0) else grGo X Y V y1 y2 lim m := rfl
        have hsp : grSpan X Y V y1 y2 lim m = unL (gz X (m + 1) - gz X m) Y V m lim (endsL Y y1 y2) := rfl
        rw [hsp] at hgg
        rw [ex, ex'] at hund b1 b2 hgg
        generalize unL (x' - x) Y V m lim (endsL Y y1 y2) = sp at hund b1 b2 hgg
        obtain ⟨s0, s1⟩ := sp
        simp only at hund b1 b2 hgg
        have HUN := Lib.hid hund
        have HGG := Lib.hid hgg
        have f1 : (m : Int) < X.length := by omega
        clear hund hgg hsp ex ex' hx hx' sd hA c0 hcx q3 q4
        by_cases hs : s0 ≤ s1
        · have f2 : IntKind.i64.wrap (x + s1) = x + s1 := IntWalk.i64_in _ (by omega)
          go_wp2_with (go_at_call 101; refine Calls.mono HUN.out ?_; rintro e w5 ⟨rfl, hb5⟩; have hz5 := hb5.size; have y0 := cell_keep hb5 t0; have y1' := cell_keep hb5 t1; have y2' := cell_keep hb5 t2; have y3 := cell_keep hb5 hcx'; have hl0 := World.block_lt_of_cell? w5 _ y0; have hl3 := World.block_lt_of_cell? w5 _ y3; simp only at hl0 hl3)
          go_quiet (fail)
          go_wp2
          refine bodyPost_ret (v := .tuple #[.int .i64 (x + s1), .int .i64 0]) (by simp [results, Try.results55, go_sem]) rfl ?_
          rw [HLIM.out, HG.out, HGG.out, if_pos (by omega)]
          exact ⟨rfl, HBW.out.trans (Below.trans (hb5.mono HBW.out.size) (below_drewN ((Below.refl _ _).alloc (by omega) _) _))⟩
        · go_wp2_with (go_at_call 101; refine Calls.mono HUN.out ?_; rintro e w5 ⟨rfl, hb5⟩; have hz5 := hb5.size)
          go_roundw
          case rel => exact ⟨m, by omega, by go_num, by rw [HG.out, HGG.out, if_neg (by omega)], HBR.out.trans (Below.trans (hb5.mono HBR.out.size) (by go_grown))⟩
          case measure => simp [intOf]

end Go.Proofs.Ytjdahphnmeaolaa

/- spans.checkBox. -/
import Derived.Test.YtjdahphnmeaolaaEnds
namespace Go.Proofs.Ytjdahphnmeaolaa
open Go.RowKit

theorem RS.new2 {w : World} {x y x' y' : Int} {T : TypeId} {m : Nat × Nat} {b : Nat} (hb : w.heap.size = b) : RS (w.alloc (.cells #[.int .i64 x, .int .i64 y, .int .i64 x', .int .i64 y'] T m)) (b + 1) (some ⟨b, 0, none⟩) [(x, y), (x', y')] := fun _ =>
  ⟨_, _, rfl, by omega, fun j p hp => by
    subst hb
    match j, hp with
    | 0, hp => simp at hp; subst hp; rw [cell_newest, cell_newest]; exact ⟨rfl, rfl⟩
    | 1, hp => simp at hp; subst hp; rw [cell_newest, cell_newest]; exact ⟨rfl, rfl⟩
    | j + 2, hp => simp at hp⟩
theorem RS.new1 {w : World} {x y : Int} {T : TypeId} {m : Nat × Nat} {b : Nat} (hb : w.heap.size = b) : RS (w.alloc (.cells #[.int .i64 x, .int .i64 y] T m)) (b + 1) (some ⟨b, 0, none⟩) [(x, y)] := fun _ =>
  ⟨_, _, rfl, by omega, fun j p hp => by
    subst hb
    match j, hp with
    | 0, hp => simp at hp; subst hp; rw [cell_newest, cell_newest]; exact ⟨rfl, rfl⟩
    | j + 1, hp => simp at hp⟩

/-- checkBox's answer. -/
def cbE (X Y : List Int) (V : List (List Int)) (x1 x2 y1 y2 : Int) : Int :=
  if ctB X Y V then (if [(x1, x2), (y1, y2)].all vS then (if onB X [x1, x2] then (if onB Y [y1, y2] then 0 else 1) else 1) else 10) else 11

theorem ctB_len {X Y : List Int} {V : List (List Int)} (h : ctB X Y V = true) : 2 ≤ X.length ∧ X.length ≤ 12 ∧ 2 ≤ Y.length ∧ Y.length ≤ 12 := by
  obtain ⟨a, b, _, _⟩ := ctB_get h
  obtain ⟨c, d, _⟩ := axB_get a
  obtain ⟨e, f, _⟩ := axB_get b
  exact ⟨c, d, e, f⟩

set_option maxHeartbeats 1000000 in
theorem checkBox_any (AX AY AV : Option Addr) (nx cx ny cy nv cv B : Nat) (X Y : List Int) (V : List (List Int)) (x1 x2 y1 y2 : Int) (w : World) (hx : X.length = nx) (hy : Y.length = ny) (hv : V.length = nv) (hnx : nx ≤ maxLen) (hny : ny ≤ maxLen) (hnv : nv ≤ maxLen) (hnr : ∀ r ∈ V, r.length ≤ maxLen)
    (hB : B ≤ w.heap.size) (h : TB w B AX AY AV X Y V) :
    Calls Try.prog 95 #[.agg #[.slice AX nx cx, .slice AY ny cy, .slice AV nv cv], .agg #[.int .i64 x1, .int .i64 x2], .agg #[.int .i64 y1, .int .i64 y2]] w fun e w' => e = .returned (.int .i64 (cbE X Y V x1 x2 y1 y2)) ∧ Below w.heap.size w w' := by
  subst hx hy hv
  have hT := Lib.hid h
  have hR := Lib.hid hnr
  clear h hnr
  cases h1 : ctB X Y V with
  | false =>
    have e0 : cbE X Y V x1 x2 y1 y2 = 11 := by unfold cbE; rw [h1]; rfl
    rw [e0]
    have e1 : ctE X Y V = 11 := ctE_no h1
    clear e0
    go_enter Try.func95, Try.ntmps95
    go_wp2_with (go_at_call 22; refine Calls.mono (checkTable_any AX AY AV _ _ _ _ _ _ B X Y V _ rfl rfl rfl hnx hny hnv hR.out ?c1 (hT.out.below ?c2)) ?_; (case c1 => (simp; omega)); (case c2 => go_grown); rintro e w1 ⟨rfl, hb1⟩)
    go_ret
    exact ⟨rfl, Below.trans (by go_grown) (hb1.mono (by simp; omega))⟩
  | true =>
  have e1 : ctE X Y V = 0 := ctE_yes h1
  cases h2 : [(x1, x2), (y1, y2)].all vS with
  | false =>
    have e0 : cbE X Y V x1 x2 y1 y2 = 10 := by unfold cbE; rw [h1, h2]; rfl
    rw [e0]
    clear e0
    have H2 := Lib.hid h2
    clear h2
    go_enter Try.func95, Try.ntmps95
    go_wp2_with (first
      | (go_at_call 22; refine Calls.mono (checkTable_any AX AY AV _ _ _ _ _ _ B X Y V _ rfl rfl rfl hnx hny hnv hR.out ?c1 (hT.out.below ?c2)) ?_; (case c1 => (simp; omega)); (case c2 => go_grown); rintro e w1 ⟨rfl, hb1⟩; obtain ⟨hc1, hf1⟩ := bcell hb1; have hz1 := hb1.size; simp at hz1; have hz2 : w.heap.size < w1.heap.size := (by omega); have hz3 : w.heap.size + 1 < w1.heap.size := (by omega); have hz4 : w.heap.size + 1 + 1 < w1.heap.size := (by omega))
      | (go_at_call 65; refine Calls.mono (valid_any _ _ _ _ [(x1, x2), (y1, y2)] _ rfl (le_maxLen (by simp)) ?c3 (RS.new2 rfl)) ?_; (case c3 => simp); rintro e w2 ⟨rfl, hb2⟩; rw [H2.out]))
    go_ret
    exact ⟨rfl, (Below.trans (by go_grown) (hb1.mono (by simp; omega))).trans (Below.trans (by go_grown) (hb2.mono (by simp; omega)))⟩
  | true =>
  obtain ⟨hl1, _, hl2, _⟩ := ctB_len h1
  cases h3 : onB X [x1, x2] with
  | false =>
    have e0 : cbE X Y V x1 x2 y1 y2 = 1 := by unfold cbE; rw [h1, h2, h3]; rfl
    rw [e0]
    clear e0
    go_enter Try.func95, Try.ntmps95
    go_wp2_with (first
      | (go_at_call 22; refine Calls.mono (checkTable_any AX AY AV _ _ _ _ _ _ B X Y V _ rfl rfl rfl hnx hny hnv hR.out ?c1 (hT.out.below ?c2)) ?_; (case c1 => (simp; omega)); (case c2 => go_grown); rintro e w1 ⟨rfl, hb1⟩; obtain ⟨hc1, hf1⟩ := bcell hb1; have hz1 := hb1.size; simp at hz1; have hz2 : w.heap.size < w1.heap.size := (by omega); have hz3 : w.heap.size + 1 < w1.heap.size := (by omega); have hz4 : w.heap.size + 1 + 1 < w1.heap.size := (by omega); have hbb1 : Below w.heap.size w w1 := (Below.trans (by go_grown) (hb1.mono (by simp; omega))))
      | (go_at_call 65; refine Calls.mono (valid_any _ _ _ _ [(x1, x2), (y1, y2)] _ rfl (le_maxLen (by simp)) ?c3 (RS.new2 rfl)) ?_; (case c3 => simp); rintro e w2 ⟨rfl, hb2⟩; obtain ⟨hc2, hf2⟩ := bcell hb2; have hy1 := hb2.size; simp at hy1; have hy2 : w.heap.size < w2.heap.size := (by omega); have hy3 : w.heap.size + 1 < w2.heap.size := (by omega); have hy4 : w.heap.size + 1 + 1 < w2.heap.size := (by omega); have hbb2 : Below w.heap.size w w2 := (hbb1.trans (Below.trans (by go_grown) (hb2.mono (by simp; omega)))))
      | (go_at_call_of 89 (Value.slice AX X.length cx); refine Calls.mono (onAxis_any AX _ _ _ _ _ B _ X [x1, x2] _ rfl hnx hl1 rfl (le_maxLen (by simp)) (hT.out.x.below ?c4) (RI.new2 rfl)) ?_; (case c4 => exact (Below.trans (hbb2.mono hB) (by go_grown))); rintro e w3 ⟨rfl, hb3⟩; obtain ⟨hc3, hf3⟩ := bcell hb3; have hv1 := hb3.size; simp at hv1; have hv2 : w.heap.size < w3.heap.size := (by omega); have hv3 : w.heap.size + 1 < w3.heap.size := (by omega); have hv4 : w.heap.size + 1 + 1 < w3.heap.size := (by omega); have hbb3 : Below w.heap.size w w3 := (hbb2.trans (Below.trans (by go_grown) (hb3.mono (by simp; omega))))))
    go_ret
    exact ⟨rfl, hbb3⟩
  | true =>
  cases h4 : onB Y [y1, y2] with
  | false =>
    have e0 : cbE X Y V x1 x2 y1 y2 = 1 := by unfold cbE; rw [h1, h2, h3, h4]; rfl
    rw [e0]
    clear e0
    go_enter Try.func95, Try.ntmps95
    go_wp2_with (first
      | (go_at_call 22; refine Calls.mono (checkTable_any AX AY AV _ _ _ _ _ _ B X Y V _ rfl rfl rfl hnx hny hnv hR.out ?c1 (hT.out.below ?c2)) ?_; (case c1 => (simp; omega)); (case c2 => go_grown); rintro e w1 ⟨rfl, hb1⟩; obtain ⟨hc1, hf1⟩ := bcell hb1; have hz1 := hb1.size; simp at hz1; have hz2 : w.heap.size < w1.heap.size := (by omega); have hz3 : w.heap.size + 1 < w1.heap.size := (by omega); have hz4 : w.heap.size + 1 + 1 < w1.heap.size := (by omega); have hbb1 : Below w.heap.size w w1 := (Below.trans (by go_grown) (hb1.mono (by simp; omega))))
      | (go_at_call 65; refine Calls.mono (valid_any _ _ _ _ [(x1, x2), (y1, y2)] _ rfl (le_maxLen (by simp)) ?c3 (RS.new2 rfl)) ?_; (case c3 => simp); rintro e w2 ⟨rfl, hb2⟩; obtain ⟨hc2, hf2⟩ := bcell hb2; have hy1 := hb2.size; simp at hy1; have hy2 : w.heap.size < w2.heap.size := (by omega); have hy3 : w.heap.size + 1 < w2.heap.size := (by omega); have hy4 : w.heap.size + 1 + 1 < w2.heap.size := (by omega); have hbb2 : Below w.heap.size w w2 := (hbb1.trans (Below.trans (by go_grown) (hb2.mono (by simp; omega)))))
      | (go_at_call_of 89 (Value.slice AX X.length cx); refine Calls.mono (onAxis_any AX _ _ _ _ _ B _ X [x1, x2] _ rfl hnx hl1 rfl (le_maxLen (by simp)) (hT.out.x.below ?c4) (RI.new2 rfl)) ?_; (case c4 => exact (Below.trans (hbb2.mono hB) (by go_grown))); rintro e w3 ⟨rfl, hb3⟩; obtain ⟨hc3, hf3⟩ := bcell hb3; have hv1 := hb3.size; simp at hv1; have hv2 : w.heap.size < w3.heap.size := (by omega); have hv3 : w.heap.size + 1 < w3.heap.size := (by omega); have hv4 : w.heap.size + 1 + 1 < w3.heap.size := (by omega); have hbb3 : Below w.heap.size w w3 := (hbb2.trans (Below.trans (by go_grown) (hb3.mono (by simp; omega)))))
      | (go_at_call 89; refine Calls.mono (onAxis_any AY _ _ _ _ _ B _ Y [y1, y2] _ rfl hny hl2 rfl (le_maxLen (by simp)) (hT.out.y.below ?c5) (RI.new2 rfl)) ?_; (case c5 => exact (Below.trans (hbb3.mono hB) (by go_grown))); rintro e w4 ⟨rfl, hb4⟩; have hbb4 : Below w.heap.size w w4 := (hbb3.trans (Below.trans (by go_grown) (hb4.mono (by simp; omega))))))
    go_ret
    exact ⟨rfl, hbb4⟩
  | true =>
    have e0 : cbE X Y V x1 x2 y1 y2 = 0 := by unfold cbE; rw [h1, h2, h3, h4]; rfl
    rw [e0]
    clear e0
    go_enter Try.func95, Try.ntmps95
    go_wp2_with (first
      | (go_at_call 22; refine Calls.mono (checkTable_any AX AY AV _ _ _ _ _ _ B X Y V _ rfl rfl rfl hnx hny hnv hR.out ?c1 (hT.out.below ?c2)) ?_; (case c1 => (simp; omega)); (case c2 => go_grown); rintro e w1 ⟨rfl, hb1⟩; obtain ⟨hc1, hf1⟩ := bcell hb1; have hz1 := hb1.size; simp at hz1; have hz2 : w.heap.size < w1.heap.size := (by omega); have hz3 : w.heap.size + 1 < w1.heap.size := (by omega); have hz4 : w.heap.size + 1 + 1 < w1.heap.size := (by omega); have hbb1 : Below w.heap.size w w1 := (Below.trans (by go_grown) (hb1.mono (by simp; omega))))
      | (go_at_call 65; refine Calls.mono (valid_any _ _ _ _ [(x1, x2), (y1, y2)] _ rfl (le_maxLen (by simp)) ?c3 (RS.new2 rfl)) ?_; (case c3 => simp); rintro e w2 ⟨rfl, hb2⟩; obtain ⟨hc2, hf2⟩ := bcell hb2; have hy1 := hb2.size; simp at hy1; have hy2 : w.heap.size < w2.heap.size := (by omega); have hy3 : w.heap.size + 1 < w2.heap.size := (by omega); have hy4 : w.heap.size + 1 + 1 < w2.heap.size := (by omega); have hbb2 : Below w.heap.size w w2 := (hbb1.trans (Below.trans (by go_grown) (hb2.mono (by simp; omega)))))
      | (go_at_call_of 89 (Value.slice AX X.length cx); refine Calls.mono (onAxis_any AX _ _ _ _ _ B _ X [x1, x2] _ rfl hnx hl1 rfl (le_maxLen (by simp)) (hT.out.x.below ?c4) (RI.new2 rfl)) ?_; (case c4 => exact (Below.trans (hbb2.mono hB) (by go_grown))); rintro e w3 ⟨rfl, hb3⟩; obtain ⟨hc3, hf3⟩ := bcell hb3; have hv1 := hb3.size; simp at hv1; have hv2 : w.heap.size < w3.heap.size := (by omega); have hv3 : w.heap.size + 1 < w3.heap.size := (by omega); have hv4 : w.heap.size + 1 + 1 < w3.heap.size := (by omega); have hbb3 : Below w.heap.size w w3 := (hbb2.trans (Below.trans (by go_grown) (hb3.mono (by simp; omega)))))
      | (go_at_call 89; refine Calls.mono (onAxis_any AY _ _ _ _ _ B _ Y [y1, y2] _ rfl hny hl2 rfl (le_maxLen (by simp)) (hT.out.y.below ?c5) (RI.new2 rfl)) ?_; (case c5 => exact (Below.trans (hbb3.mono hB) (by go_grown))); rintro e w4 ⟨rfl, hb4⟩; have hbb4 : Below w.heap.size w w4 := (hbb3.trans (Below.trans (by go_grown) (hb4.mono (by simp; omega))))))
    go_ret
    exact ⟨rfl, hbb4⟩

end Go.Proofs.Ytjdahphnmeaolaa

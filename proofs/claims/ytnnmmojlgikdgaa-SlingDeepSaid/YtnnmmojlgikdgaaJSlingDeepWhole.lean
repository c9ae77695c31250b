/- swashplatelaw07.SlingDeep returns true at every input, and the input reads as it did: no condition. -/
import Derived.Test.YtnnmmojlgikdgaaM7

/- The law of the depths. -/
namespace Go.Proofs.Ytnnmmojlgikdgaa
open Go.RowKit

def atF (X Y : List Int) (V : List (List Int)) (len y1 wt : Int) (k : Nat) : Bool := (List.range k).all fun j => decide (wt ≤ fl (atN X Y V len (y1 + j)) (atD X Y len (y1 + j)))
theorem atF_succ (X Y : List Int) (V : List (List Int)) (len y1 wt : Int) (k : Nat) : atF X Y V len y1 wt (k + 1) = (atF X Y V len y1 wt k && decide (wt ≤ fl (atN X Y V len (y1 + k)) (atD X Y len (y1 + k)))) := by
  unfold atF
  rw [List.range_succ, List.all_append]
  simp
theorem HZ.bea_at {X Y : List Int} {V : List (List Int)} {cable y1 y2 len wt : Int} (h : HZ X Y V cable y1 y2) (l0 : 0 ≤ len) (l1 : len ≤ cable) (hw : wt ≤ 1000000) : beaB X Y V len y1 y2 wt = atF X Y V len y1 wt (y2 - y1 + 1).toNat := by
  obtain ⟨hy, _, _⟩ := vS_get h.ys
  rw [Bool.eq_iff_iff]
  unfold beaB atF
  rw [loS_ok (h.cb l0 (Int.le_refl len) l1)]
  simp only [decide_eq_true_eq, List.all_eq_true, List.mem_range]
  constructor
  · intro hb j hj
    have := (inside (V := V) h.ct (h.on l0 l1) (h.on l0 l1) h.o1 h.o2 (Int.le_refl len) (Int.le_refl len) (show y1 ≤ y1 + (j : Int) by omega) (show y1 + (j : Int) ≤ y2 by omega)).1
    omega
  · intro ha
    refine (bnd_least (cornersL X Y V (endsL X len len) (endsL Y y1 y2)) (1000000, -1000000) wt (max (bndL (cornersL X Y V (endsL X len len) (endsL Y y1 y2))).2 0) hw (by simp only; omega) fun c hc => ?_).1
    have htop := ((bnd_fold (cornersL X Y V (endsL X len len) (endsL Y y1 y2)) (1000000, -1000000)).2 c hc).2
    refine ⟨?_, Int.le_trans htop (Int.le_max_left _ _)⟩
    obtain ⟨a, b, hA, hB, rfl⟩ := corner_of hc
    have ra : a = len := by
      unfold endsL at hA
      simp only [List.mem_cons, List.mem_append, List.mem_filter, Bool.and_eq_true, decide_eq_true_eq] at hA
      rcases hA with rfl | ⟨_, p, q⟩ | hA
      · rfl
      · omega
      · split at hA
        · omega
        · simp at hA
    have rb : y1 ≤ b ∧ b ≤ y2 := by
      unfold endsL at hB
      simp only [List.mem_cons, List.mem_append, List.mem_filter, Bool.and_eq_true, decide_eq_true_eq] at hB
      rcases hB with rfl | ⟨_, p, q⟩ | hB
      · exact ⟨Int.le_refl _, hy⟩
      · omega
      · split at hB
        · simp at hB; omega
        · simp at hB
    subst ra
    have := ha (b - y1).toNat (by omega)
    rw [show y1 + ((b - y1).toNat : Int) = b by omega] at this
    exact this
theorem HZ.deep_bea {X Y : List Int} {V : List (List Int)} {cable y1 y2 wt n : Int} (h : HZ X Y V cable y1 y2) (h0 : 0 ≤ n) (h1 : n ≤ cable) (h2 : n ≤ deepR X Y V cable y1 y2 wt + 1) : beaB X Y V n y1 y2 wt = decide (n ≤ deepR X Y V cable y1 y2 wt) := by
  have c1 := h.c1
  obtain ⟨s1, s2, s3, s4⟩ := firB_spec (fun n => !beaB X Y V n y1 y2 wt) (cable + 1).toNat 0
  unfold deepR at h2 ⊢
  generalize firB (fun n => !beaB X Y V n y1 y2 wt) 0 (cable + 1).toNat = m at *
  by_cases e : n < m
  · have := s3 n h0 e
    simp only [Bool.not_eq_false'] at this
    rw [this]
    symm
    rw [decide_eq_true_eq]
    omega
  · obtain rfl : n = m := by omega
    have := s4 (by omega)
    simp only [Bool.not_eq_true'] at this
    rw [this]
    symm
    rw [decide_eq_false_iff_not]
    omega
theorem deepR_bd {X Y : List Int} {V : List (List Int)} {cable y1 y2 wt : Int} (h : 1 ≤ cable) : -1 ≤ deepR X Y V cable y1 y2 wt ∧ deepR X Y V cable y1 y2 wt ≤ cable := by
  obtain ⟨s1, s2, _⟩ := firB_spec (fun n => !beaB X Y V n y1 y2 wt) (cable + 1).toNat 0
  unfold deepR
  omega

set_option maxRecDepth 100000 in
set_option maxHeartbeats 4000000 in
theorem law_deep (wk : WK7) (w : World) (cable : Int) (AX : Option Addr) (nx cx : Nat) (AY : Option Addr) (ny cy : Nat) (AV : Option Addr) (nv cv : Nat) (charge : Int) (X Y : List Int) (V : List (List Int)) (h : HT w w.heap.size AX AY AV nx ny nv X Y V) (y1 y2 len wt : Int) :
    Calls Try.prog 14 #[.agg #[.int .i64 cable, .slice AX nx cx, .slice AY ny cy, .slice AV nv cv, .int .i64 charge], .agg #[.int .i64 y1, .int .i64 y2], .agg #[.int .i64 len, .int .i64 wt]] w fun e w' => e = .returned (.bool true) ∧ Below w.heap.size w w' := by
  have HWK := Lib.hid wk
  have HCW := Lib.hid (fun (W : World) (hW : Below w.heap.size w W) => checkWinds_any cable charge y1 y2 AX AY AV nx cx ny cy nv cv w.heap.size X Y V W (h.below hW))
  have HS0 := Lib.hid ((AH.start (cable := cable) (AX := AX) (nx := nx) (cx := cx) (AY := AY) (ny := ny) (cy := cy) (AV := AV) (nv := nv) (cv := cv) (charge := charge) (y1 := y1) (y2 := y2) w).alloc (.cells #[.int .i64 len, .int .i64 wt] 66))
  have HI0 := Lib.hid (show I2 (((w.alloc (.cells #[.int .i64 cable, .slice AX nx cx, .slice AY ny cy, .slice AV nv cv, .int .i64 charge] 57)).alloc (.cells #[.int .i64 y1, .int .i64 y2] 27)).alloc (.cells #[.int .i64 len, .int .i64 wt] 66)) (w.heap.size + 1 + 1) len wt from I2.new (by simp))
  by_cases h0 : cwE X Y V cable charge y1 y2 = 0
  · rw [h0] at HCW
    have hz := hz_of h0
    obtain ⟨y12, y1a, y2a⟩ := vS_get hz.ys
    have i1 : IntKind.i64.wrap (y2 - y1) = y2 - y1 := IntWalk.i64_in _ (by omega)
    by_cases hok : y2 - y1 ≤ 60 ∧ (1 ≤ wt ∧ wt ≤ 100000) ∧ (0 ≤ len ∧ len ≤ cable)
    · obtain ⟨k1, ⟨k2, k3⟩, k4, k5⟩ := hok
      have H1 := Lib.hid (fun (n : Int) (W : World) (hW : Below w.heap.size w W) => carriesT_any cable charge y1 y2 n wt AX AY AV nx cx ny cy nv cv w.heap.size X Y V W (h.below hW))
      have H3 := Lib.hid (fun (W : World) (hW : Below w.heap.size w W) => deepest_any cable charge y1 y2 wt AX AY AV nx cx ny cy nv cv w.heap.size X Y V W (h.below hW))
      rw [deepN_yes _ _ _ _ _ _ _ _ h0 ⟨k2, k3⟩] at H3
      have HCN := Lib.hid (fun n (a : 0 ≤ n) (b : n ≤ cable) => carN_yes cable charge y1 y2 n wt X Y V h0 ⟨⟨a, b⟩, k2, k3⟩)
      have HAT := Lib.hid (fun (n : Int) (W : World) (hW : Below w.heap.size w W) => have h' := h.below hW; at_s AX AY AV nx cx ny cy nv cv w.heap.size X Y V len n W h'.hx h'.hy h'.hv h'.mx h'.my h'.mv h'.mr h'.hB h'.tb)
      have HAS := Lib.hid (fun n (a : y1 ≤ n) (b : n ≤ y2) => show atS X Y V len n = ((fl (atN X Y V len n) (atD X Y len n), cl (atN X Y V len n) (atD X Y len n)), 0) by
        have o1 : onB X [len] = true := onB_on.2 (hz.on k4 k5)
        have o2 : onB Y [n] = true := onB_on.2 ⟨by have := hz.o1.1; omega, by have := hz.o2.2; omega⟩
        unfold atS
        simp [hz.ct, o1, o2])
      have HBA := Lib.hid (hz.bea_at (len := len) (wt := wt) k4 k5 (by omega))
      have HDB := Lib.hid (fun n (a : 0 ≤ n) (b : n ≤ cable) c => hz.deep_bea (wt := wt) a b c)
      have hbd := deepR_bd (X := X) (Y := Y) (V := V) (y1 := y1) (y2 := y2) (wt := wt) hz.c1
      obtain ⟨c1, c2⟩ := And.intro hz.c1 hz.c2
      have HAF := Lib.hid (atF_succ X Y V len y1 wt)
      have HA0 := Lib.hid (show atF X Y V len y1 wt 0 = true from rfl)
      obtain ⟨q1, q2⟩ := hbd
      generalize deepR X Y V cable y1 y2 wt = dd at *
      have i2 : ¬ (60 < y2 - y1) := by omega
      have i3 : ¬ (wt < 1) := by omega
      have i4 : ¬ (100000 < wt) := by omega
      have i5 : ¬ (len < 0) := by omega
      have i6 : ¬ (cable < len) := by omega
      clear h h0 hz wk
      go_enter Try.func14, Try.ntmps14
      go_upto_region 8 with (first
        | (go_at_call 46; refine Calls.mono (HCW.out _ HS0.out.b) ?_; rintro e w1 ⟨rfl, hb1⟩; have S1 := HS0.out.next hb1; have I1 := HI0.out.next hb1; have HS1 := Lib.hid S1; have HI1 := Lib.hid I1; have l1 := S1.l1; have j1 := I1.lt; obtain ⟨⟨a0, a1, a2, a3, a4⟩, a5, a6, _⟩ := S1; obtain ⟨a7, a8⟩ := I1; clear hb1)
        | (go_at_call 36; refine Calls.mono (H1.out len _ HS1.out.b) ?_; rw [HCN.out len k4 k5]; rintro e w2 ⟨rfl, hb2⟩; have S2 := HS1.out.next hb2; have I2' := HI1.out.next hb2; have HS2 := Lib.hid S2; have HI2 := Lib.hid I2'; have l2 := S2.l1; have j2 := I2'.lt; obtain ⟨⟨b0, b1, b2, b3, b4⟩, b5, b6, _⟩ := S2; obtain ⟨b7, b8⟩ := I2'; clear hb2 a0 a1 a2 a3 a4 a5 a6 a7 a8 l1 j1))
      clear b0 b1 b2 b3 b4 b5 b6 b7 b8 l2 j2 HS1 HI1
      go_loopw [9, 10] (fun so n wr => ∃ k : Nat, (k : Int) ≤ y2 - y1 + 1 ∧ n = .int .i64 (y1 + k) ∧ so = .bool (atF X Y V len y1 wt k) ∧ Below w2.heap.size w2 wr) (fun _ n _ => (y2 + 1 - intOf n).toNat)
      case atStart => exact ⟨0, by omega, by simp, rfl, Below.refl _ _⟩
      case round =>
        obtain ⟨k, hk, rfl, rfl, hbw⟩ := hrel
        have S3 := HS2.out.next hbw
        have I3 := HI2.out.next hbw
        have HS3 := Lib.hid S3
        have HI3 := Lib.hid I3
        have HBW := Lib.hid hbw
        have l3 := S3.l1
        have j3 := I3.lt
        obtain ⟨⟨b0, b1, b2, b3, b4⟩, b5, b6, _⟩ := S3
        obtain ⟨b7, b8⟩ := I3
        clear hbw
        by_cases hlt : y1 + (k : Int) ≤ y2
        · have HATk := Lib.hid (HAT.out (y1 + k) wr HS3.out.b)
          rw [HAS.out _ (by omega) hlt] at HATk
          have HAFk := Lib.hid (HAF.out k)
          dsimp only at HATk
          have i7 : y1 + (k : Int) + 1 = y1 + ((k + 1 : Nat) : Int) := by omega
          have HI7 := Lib.hid i7
          clear i7
          obtain ⟨av, hav⟩ : ∃ b, atF X Y V len y1 wt k = b := ⟨_, rfl⟩
          rw [hav] at HAFk ⊢
          clear hav
          generalize fl (atN X Y V len (y1 + k)) (atD X Y len (y1 + k)) = f1 at *
          generalize cl (atN X Y V len (y1 + k)) (atD X Y len (y1 + k)) = f2 at *
          obtain ⟨an, han⟩ : ∃ b, atF X Y V len y1 wt (k + 1) = b := ⟨_, rfl⟩
          rw [han] at HAFk
          have HAN := Lib.hid han
          clear han
          cases av with
          | false =>
            go_wp2_with (go_at_call 48; refine Calls.mono HATk.out ?_; rintro e w4 ⟨rfl, hb4⟩; have HB4 := Lib.hid (HBW.out.trans (hb4.mono HBW.out.size)); clear hb4)
            go_roundw
            case rel => exact ⟨k + 1, by omega, by rw [HI7.out], by rw [HAN.out, HAFk.out]; rfl, HB4.out.alloc HB4.out.size _⟩
            case measure => simp [intOf]; omega
          | true =>
            go_wp2_with (go_at_call 48; refine Calls.mono HATk.out ?_; rintro e w4 ⟨rfl, hb4⟩; obtain ⟨z7, z8⟩ := HI3.out.next hb4; have z9 : w.heap.size + 1 + 1 < w4.heap.size := World.block_lt_of_cell? _ _ z7; have HB4 := Lib.hid (HBW.out.trans (hb4.mono HBW.out.size)); clear hb4)
            go_roundw
            case rel => exact ⟨k + 1, by omega, by rw [HI7.out], by rw [HAN.out, HAFk.out]; rfl, HB4.out.alloc HB4.out.size _⟩
            case measure => simp [intOf]; omega
        · have hkk : (y2 - y1 + 1).toNat = k := by omega
          rw [hkk] at HBA
          rw [← HBA.out]
          have h3' : ∀ c d : Int × Int, (if dd < 0 then c else d) = (if dd < 0 then c else d) := fun _ _ => rfl
          clear h3' HAF HA0 HAT HAS
          obtain ⟨bl, hbl⟩ : ∃ b, beaB X Y V len y1 y2 wt = b := ⟨_, rfl⟩
          rw [hbl]
          have HBL := Lib.hid hbl
          clear hbl HBA
          by_cases hdd : dd < 0
          · obtain rfl : dd = -1 := by omega
            have H3' := Lib.hid (H3.out wr HS3.out.b)
            rw [if_pos hdd] at H3'
            dsimp only at H3'
            clear H3 hdd
            go_wp2_with (go_at_call 38; refine Calls.mono H3'.out ?_; rintro e w5 ⟨rfl, hb5⟩; have HS5 := Lib.hid (HS3.out.next hb5); have HI5 := Lib.hid (HI3.out.next hb5); have HB5 := Lib.hid (HS3.out.b.trans (hb5.mono HS3.out.b.size)); clear hb5 b0 b1 b2 b3 b4 b5 b6 b7 b8 l3 j3)
            go_loopw [14] (fun n wr' => ∃ k : Nat, (k : Int) ≤ cable + 1 ∧ (k : Int) ≤ 1 ∧ n = .int .i64 k ∧ Below w5.heap.size w5 wr') (fun n _ => (cable + 1 - intOf n).toNat)
            case atStart => exact ⟨0, by omega, by omega, rfl, Below.refl _ _⟩
            case round =>
              obtain ⟨k', hk1, hk2, rfl, hbw'⟩ := hrel
              have S6 := HS5.out.next hbw'
              have I6 := HI5.out.next hbw'
              have HS6 := Lib.hid S6
              have HBW' := Lib.hid hbw'
              have l6 := S6.l1
              have j6 := I6.lt
              obtain ⟨⟨d0, d1, d2, d3, d4⟩, d5, d6, _⟩ := S6
              obtain ⟨d7, d8⟩ := I6
              clear hbw'
              rcases (show k' = 0 ∨ k' = 1 by omega) with rfl | rfl
              · have m2 : (0 : Int) ≤ cable := by omega
                have H1' := Lib.hid (H1.out 0 wr HS6.out.b)
                rw [HCN.out 0 (by omega) m2] at H1'
                dsimp only at H1'
                rw [HDB.out 0 (by omega) m2 (by omega), show decide ((0 : Int) ≤ -1) = false by decide] at H1'
                simp only [Int.natCast_zero]
                go_wp2_with (go_at_call 36; refine Calls.mono H1'.out ?_; rintro e w7 ⟨rfl, hb7⟩; have HB7 := Lib.hid (HBW'.out.trans (hb7.mono HBW'.out.size)); clear hb7)
                go_roundw
                case rel => exact ⟨1, by omega, by omega, rfl, HB7.out⟩
                case measure => simp [intOf]; omega
              · simp only [Int.natCast_one]
                go_wp2_with (go_at_call 22; refine Calls.mono (HWK.out _) ?_; rintro e w9 ⟨rfl, hb9⟩; have HX9 := Lib.hid (HS6.out.b.trans (hb9.mono HS6.out.b.size)); clear hb9)
                go_ret
                exact ⟨rfl, HX9.out⟩
          · have H3' := Lib.hid (H3.out wr HS3.out.b)
            rw [if_neg hdd] at H3'
            dsimp only at H3'
            have hdc : ¬ cable < dd := by omega
            have i8 : IntKind.i64.wrap (dd + 1) = dd + 1 := IntWalk.i64_in _ (by omega)
            clear H3
            go_wp2_with (go_at_call 38; refine Calls.mono H3'.out ?_; rintro e w5 ⟨rfl, hb5⟩; have S5 := HS3.out.next hb5; obtain ⟨e0, e1, e2, e3, e4⟩ := S5.hb; have l5 := S5.l1; have HS5 := Lib.hid S5; have HI5 := Lib.hid (HI3.out.next hb5); have HB5 := Lib.hid (HS3.out.b.trans (hb5.mono HS3.out.b.size)); clear S5 hb5 b0 b1 b2 b3 b4 b5 b6 b7 b8 l3 j3)
            clear e0 e1 e2 e3 e4 l5
            go_loopw [14] (fun n wr' => ∃ k : Nat, (k : Int) ≤ cable + 1 ∧ (k : Int) ≤ dd + 2 ∧ n = .int .i64 k ∧ Below w5.heap.size w5 wr') (fun n _ => (cable + 1 - intOf n).toNat)
            case atStart => exact ⟨0, by omega, by omega, rfl, Below.refl _ _⟩
            case round =>
              obtain ⟨k', hk1, hk2, rfl, hbw'⟩ := hrel
              have S6 := HS5.out.next hbw'
              have I6 := HI5.out.next hbw'
              have HS6 := Lib.hid S6
              have HBW' := Lib.hid hbw'
              have l6 := S6.l1
              have j6 := I6.lt
              obtain ⟨⟨d0, d1, d2, d3, d4⟩, d5, d6, _⟩ := S6
              obtain ⟨d7, d8⟩ := I6
              clear hbw'
              by_cases hlt' : (k' : Int) ≤ dd + 1 ∧ (k' : Int) ≤ cable
              · obtain ⟨m1, m2⟩ := hlt'
                have H1' := Lib.hid (H1.out k' wr HS6.out.b)
                rw [HCN.out k' (by omega) m2] at H1'
                dsimp only at H1'
                rw [HDB.out k' (by omega) m2 (by omega)] at H1'
                by_cases m3 : (k' : Int) ≤ dd
                · rw [decide_eq_true m3] at H1'
                  go_wp2_with (go_at_call 36; refine Calls.mono H1'.out ?_; rintro e w7 ⟨rfl, hb7⟩; have HB7 := Lib.hid (HBW'.out.trans (hb7.mono HBW'.out.size)); clear hb7)
                  go_roundw
                  case rel => exact ⟨k' + 1, by omega, by omega, by go_num, HB7.out⟩
                  case measure => simp [intOf]; omega
                · rw [decide_eq_false m3] at H1'
                  go_wp2_with (go_at_call 36; refine Calls.mono H1'.out ?_; rintro e w7 ⟨rfl, hb7⟩; have HB7 := Lib.hid (HBW'.out.trans (hb7.mono HBW'.out.size)); clear hb7)
                  go_roundw
                  case rel => exact ⟨k' + 1, by omega, by omega, by go_num, HB7.out⟩
                  case measure => simp [intOf]; omega
              · by_cases m1 : (k' : Int) ≤ dd + 1
                · have m2 : ¬ (k' : Int) ≤ cable := fun h => hlt' ⟨m1, h⟩
                  clear hlt'
                  go_wp2_with (go_at_call 22; refine Calls.mono (HWK.out _) ?_; rintro e w9 ⟨rfl, hb9⟩; have HX9 := Lib.hid (HS6.out.b.trans (hb9.mono HS6.out.b.size)); clear hb9)
                  go_ret
                  exact ⟨rfl, HX9.out⟩
                · clear hlt'
                  go_wp2_with (go_at_call 22; refine Calls.mono (HWK.out _) ?_; rintro e w9 ⟨rfl, hb9⟩; have HX9 := Lib.hid (HS6.out.b.trans (hb9.mono HS6.out.b.size)); clear hb9)
                  go_ret
                  exact ⟨rfl, HX9.out⟩
    · clear h h0 hz wk
      have hbad : (60 < y2 - y1 ∨ (¬ 60 < y2 - y1 ∧ wt < 1)) ∨ ((¬ 60 < y2 - y1 ∧ ¬ wt < 1 ∧ 100000 < wt) ∨ ((¬ 60 < y2 - y1 ∧ ¬ wt < 1 ∧ ¬ 100000 < wt ∧ len < 0) ∨ (¬ 60 < y2 - y1 ∧ ¬ wt < 1 ∧ ¬ 100000 < wt ∧ ¬ len < 0 ∧ cable < len))) := by omega
      clear hok
      rcases hbad with (g1 | ⟨g1, g2⟩) | ⟨g1, g2, g3⟩ | ⟨g1, g2, g3, g4⟩ | ⟨g1, g2, g3, g4, g5⟩ <;>
      · go_enter Try.func14, Try.ntmps14
        go_wp2_with (first
          | (go_at_call 46; refine Calls.mono (HCW.out _ HS0.out.b) ?_; rintro e w1 ⟨rfl, hb1⟩; have S1 := HS0.out.next hb1; have I1 := HI0.out.next hb1; have HS1 := Lib.hid S1; have l1 := S1.l1; have j1 := I1.lt; obtain ⟨⟨a0, a1, a2, a3, a4⟩, a5, a6, _⟩ := S1; obtain ⟨a7, a8⟩ := I1; clear hb1)
          | (go_at_call 22; refine Calls.mono (HWK.out _) ?_; rintro e w9 ⟨rfl, hb9⟩; have HX9 := Lib.hid (HS1.out.b.trans (hb9.mono HS1.out.b.size)); clear hb9))
        go_ret
        exact ⟨rfl, HX9.out⟩
  · generalize cwE X Y V cable charge y1 y2 = c at *
    have hc : (c != 0) = true := by rw [bne_iff_ne]; exact h0
    clear h h0 wk
    go_enter Try.func14, Try.ntmps14
    go_wp2_with (first
      | (go_at_call 46; refine Calls.mono (HCW.out _ HS0.out.b) ?_; rintro e w1 ⟨rfl, hb1⟩; have HS1 := Lib.hid (HS0.out.next hb1); clear hb1)
      | (go_at_call 22; refine Calls.mono (HWK.out _) ?_; rintro e w9 ⟨rfl, hb9⟩; have HX9 := Lib.hid (HS1.out.b.trans (hb9.mono HS1.out.b.size)); clear hb9))
    go_ret
    exact ⟨rfl, HX9.out⟩
end Go.Proofs.Ytnnmmojlgikdgaa

/- swashplatelaw07.SlingDeep returns true at every input, and the input reads as it did: no condition. -/
namespace Go.Proofs.Ytnnmmojlgikdgaa
open Go.RowKit Go.WideShapes Go.ChangeShapes Go.ChangeAt Go.Joins

set_option maxRecDepth 100000 in
theorem deep_lifted (os : Os) (started : os.Started) (H : Type) (enc : TypeId × Value → H) :
    ReturnsInHanded {} Try.checked os 14 .any (Rows.slingDeepSpec.pre6 enc Try.prog Try.f14 Rows.slingDeepRow.domain false) (Rows.slingDeepSpec.post enc Try.prog Try.f14 false true false false) := by
  refine returnsInHanded_of_change (C := Try.checked) own started (by kernel_rfl) Try.func14
    (ChangeSpec.witness6 (enc := enc) (C := Try.checked) false ⟨#[], #[.agg #[.int .i64 0, .slice none 0 0, .slice none 0 0, .slice none 0 0, .int .i64 0], .agg #[.int .i64 0, .int .i64 0], .agg #[.int .i64 0, .int .i64 0]], []⟩ 8 (by kernel_rfl) (by kernel_rfl) (by kernel_rfl) (by kernel_rfl)) ?_
  intro W base args ds gs before hval0 hW hcnd _
  have hval : ∀ (j : Nat) t v, Try.f14.params[j]? = some t → args[j]? = some v → Value.okWide Try.prog W .any base t v := hval0
  have hW' := hW
  obtain ⟨p, q, hA0, hV, rfl, hfz, hnd⟩ := hW
  have hA : DataW.TrodAll enc Try.prog W 0 (fun _ => true) true Try.f14.params.toList args.toList ds p := hA0
  rw [Try.params14] at hA hval
  obtain ⟨v0, v1, v2, d0, d1, d2, p0, p1, p2, rfl, rfl, rfl, h0, h1, h2⟩ := trodAll_three hA
  obtain ⟨rfl, rfl⟩ := trodVars_none hV
  obtain ⟨cb0, AX0, nx0, cx0, AY0, ny0, cy0, AV0, nv0, cv0, ch0, X0, Y0, V0, rfl, ht0⟩ := hoist_open (hval 0 57 v0 rfl rfl) h0
  obtain ⟨a1, b1, rfl⟩ := span7_open (hval 1 27 v1 rfl rfl) h1
  obtain ⟨a2, b2, rfl⟩ := weight_open (hval 2 66 v2 rfl rfl) h2
  clear hA0 hval0
  simp only [List.append_nil] at hW'
  have hlt : ∀ x ∈ p0 ++ p1 ++ p2, x.block < W.heap.size := fun x hx => hW'.lt x hx
  refine (law_deep works7_any W cb0 AX0 nx0 cx0 AY0 ny0 cy0 AV0 nv0 cv0 ch0 X0 Y0 V0 ht0 a1 b1 a2 b2).mono fun e W' ⟨he, hb⟩ => ?_
  subst he
  exact ⟨_, rfl, law_post hW' (by kernel_rfl) Try.underlying4 rfl rfl (fun sp hsp => (by simp only [List.append_assoc]; exact trodAll_mk3 (again (by kernel_rfl) (of_decide_eq_true (by kernel_rfl)) h0 hb (fun x hx => hlt x (List.mem_append_left _ (List.mem_append_left _ hx))) (fun x hx => hsp x (List.mem_append_left _ (List.mem_append_left _ hx)))) (again (by kernel_rfl) (of_decide_eq_true (by kernel_rfl)) h1 hb (fun x hx => hlt x (List.mem_append_left _ (List.mem_append_right _ hx))) (fun x hx => hsp x (List.mem_append_left _ (List.mem_append_right _ hx)))) (again (by kernel_rfl) (of_decide_eq_true (by kernel_rfl)) h2 hb (fun x hx => hlt x (List.mem_append_right _ hx)) (fun x hx => hsp x (List.mem_append_right _ hx))))) hb⟩

theorem deep_holds : Rows.SlingDeepSaid :=
  OpenClaim.holds_of_wide 14 Try.f14 rfl rfl rfl rfl rfl rfl rfl ⟨rfl, rfl, rfl, rfl, rfl⟩ rfl rfl rfl rfl rfl (by kernel_rfl) Try.func14 (by kernel_rfl)
    (of_decide_eq_true (by kernel_rfl)) (by unfold Func.isWrapper; first | (rw [if_pos (by decide +kernel)]; kernel_rfl) | (rw [if_neg (by decide +kernel)]; exact ⟨rfl, rfl⟩))
    (fun os started H enc _ => deep_lifted os started H enc)
#print axioms deep_holds

end Go.Proofs.Ytnnmmojlgikdgaa

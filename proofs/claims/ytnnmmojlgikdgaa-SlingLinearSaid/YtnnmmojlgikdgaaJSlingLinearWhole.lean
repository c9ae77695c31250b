/- swashplatelaw07.SlingLinear returns true at every input, and the input reads as it did: no condition. -/
import Derived.Test.YtnnmmojlgikdgaaM8
import Derived.Test.YtnnmmojlgikdgaaM9
import Derived.Test.YtnnmmojlgikdgaaM10
import Derived.Test.YtnnmmojlgikdgaaM11
import Derived.SizedLaws

/- The law of linearity. -/
namespace Go.Proofs.Ytnnmmojlgikdgaa
open Go.RowKit

set_option maxRecDepth 100000 in
theorem law_linear (wk : WK7) (w : World) (N D d xa xv : Int) (A : Option Addr) (n c : Nat) (xm xl xh : Int) (G : List Int) (hl : G.length = n) (hn : n ≤ maxLen) (hr : RI w w.heap.size A G) (ya yv : Int) (R : Option Addr) (k cr : Nat) (ym yl yh : Int) (H : List Int) (hl' : H.length = k) (hk : k ≤ maxLen) (hr' : RI w w.heap.size R H) (hrm : n * 8 ≤ 140737488351232) :
    Calls Try.prog 10 #[.agg #[.int .i64 N, .int .i64 D, .int .i64 d], .agg #[.int .i64 xa, .int .i64 xv, .slice A n c, .int .i64 xm, .int .i64 xl, .int .i64 xh], .agg #[.int .i64 ya, .int .i64 yv, .slice R k cr, .int .i64 ym, .int .i64 yl, .int .i64 yh]] w fun e w' => e = .returned (.bool true) ∧ Below w.heap.size w w' := by
  by_cases hnk : n = k
  · by_cases hx : swE N D d xa xv G = 0
    · by_cases hy : swE N D d ya yv H = 0
      · by_cases hg : swE N D d (IntKind.i64.wrap (xa + ya)) (IntKind.i64.wrap (xv + yv)) (bthL G H) = 0
        · exact law_linear_c1 wk w N D d xa xv A n c xm xl xh G hl hn hr ya yv R k cr ym yl yh H hl' hk hr' hrm hnk hx hy hg
        · exact law_linear_c2 wk w N D d xa xv A n c xm xl xh G hl hn hr ya yv R k cr ym yl yh H hl' hk hr' hrm hnk hx hy hg
      · exact law_linear_eb wk w N D d xa xv A n c xm xl xh G hl hn hr ya yv R k cr ym yl yh H hl' hk hr' hrm hnk hx hy
    · exact law_linear_ea wk w N D d xa xv A n c xm xl xh G hl hn hr ya yv R k cr ym yl yh H hl' hk hr' hrm hnk hx
  · have HWK := Lib.hid wk
    have HK0 := Lib.hid (KY.start (N := N) (D := D) (d := d) (xa := xa) (xv := xv) (xm := xm) (xl := xl) (xh := xh) (ya := ya) (yv := yv) (ym := ym) (yl := yl) (yh := yh) (A := A) (R := R) (n := n) (c := c) (k := k) (cr := cr) (w := w))
    have hnk' : ((n : Int) != (k : Int)) = true := by rw [bne_iff_ne]; omega
    clear wk hr hr' hl hl' hnk hrm
    go_enter Try.func10, Try.ntmps10
    go_upto_region 1 with (fail)
    generalize World.alloc _ _ = w1 at *
    have s0 := cellOf (o := 0) HK0.out.s rfl
    have s1 := cellOf (o := 1) HK0.out.s rfl
    have s2 := cellOf (o := 2) HK0.out.s rfl
    have x0 := cellOf (o := 0) HK0.out.x rfl
    have x1 := cellOf (o := 1) HK0.out.x rfl
    have x2 := cellOf (o := 2) HK0.out.x rfl
    have y0 := cellOf (o := 0) HK0.out.y rfl
    have y1 := cellOf (o := 1) HK0.out.y rfl
    have y2 := cellOf (o := 2) HK0.out.y rfl
    have l0 := lt_of_block HK0.out.s
    have l1 := lt_of_block HK0.out.x
    have l2 := lt_of_block HK0.out.y
    go_wp2_with (go_at_call 22; refine Calls.mono (HWK.out _) ?_; rintro e v9 ⟨rfl, hb9⟩; have HX9 := Lib.hid (HK0.out.b.trans (hb9.mono (HK0.out.b).size)); clear hb9)
    go_ret
    exact ⟨rfl, HX9.out⟩
end Go.Proofs.Ytnnmmojlgikdgaa

/- A swing opened, with the room that its gusts take. -/
namespace Go.Proofs.Ytnnmmojlgikdgaa
open Go.RowKit Go.WideShapes Go.ChangeShapes Go.ChangeAt Go.Joins Go.Deep

section
variable {H : Type} {enc : TypeId × Value → H}
set_option maxRecDepth 100000 in
theorem swungz_open {w : World} {base : Nat} {r : Reach} {b0 : Nat} {v : Value} {d : DataW H} {p : List MemPlace}
    (hv : Value.okWide Try.prog w r b0 29 v) (h : DataW.Trod enc Try.prog w base (fun _ => true) true 29 v d p) :
    ∃ a b A n c m lo hi G, v = .agg #[.int .i64 a, .int .i64 b, .slice A n c, .int .i64 m, .int .i64 lo, .int .i64 hi] ∧ G.length = n ∧ n ≤ maxLen ∧ RI w w.heap.size A G ∧
      ((∀ z ∈ d.weights Try.prog 29, z ≤ reachBytes) → n * 8 ≤ 140737488351232) := by
  obtain ⟨a, b, A, n, c, m, lo, hi, G, rfl, h1, h2, h3⟩ := swung_open hv h
  refine ⟨a, b, A, n, c, m, lo, hi, G, rfl, h1, h2, h3, fun hall => ?_⟩
  obtain ⟨fuel, hf⟩ := h
  obtain ⟨xs, n9, _, hx, _, hlen, hg⟩ := DataW.trod_struct Try.underlying29 hf
  match xs, hlen with
  | [z0, z1, z2, z3], _ =>
    have k1 : DataW.trod enc Try.prog w base (fun _ => true) true n9 25 [.slice A n c] = some z1 := by
      have := hg 1 _ rfl
      simpa [Value.cells, cells_ints7] using this
    rcases open_ints Try.underlying25 Try.underlying3 (by kernel_rfl) k1 with ⟨e, _⟩ | ⟨a9, len, cap, zs, e, _, hl, hm, hz, hz1, _, _⟩
    · simp at e
      omega
    · simp at e
      obtain ⟨_, rfl, rfl⟩ := e
      simp only [if_true] at hz
      simp only [Prod.mk.injEq] at hx
      have hd := hx.1
      subst hd
      have hb : Try.prog.bytesOf 3 = 8 := by kernel_rfl
      have hw : (zs.length) * 8 ∈ (DataW.agg [z0.1, z1.1, z2.1, z3.1]).weights Try.prog 29 := by
        unfold DataW.weights
        rw [Try.underlying29]
        refine DataW.weights_mem_each (j := 1) (t := 25) (d := z1.1) rfl rfl _ ?_
        rw [hz1]
        unfold DataW.weights
        rw [Try.underlying25]
        refine List.mem_cons.2 (Or.inl ?_)
        rw [hb]
        rw [show (List.length (lits .i64 (zs.take n) : List (DataW H)) + List.length (lits .i64 (zs.drop n) : List (DataW H))) = zs.length by simp [lits]; omega]
      have := hall _ hw
      unfold reachBytes at this
      omega
end
end Go.Proofs.Ytnnmmojlgikdgaa

/- swashplatelaw07.SlingLinear returns true at every input, and the input reads as it did: no condition. -/
namespace Go.Proofs.Ytnnmmojlgikdgaa
open Go.RowKit Go.WideShapes Go.ChangeShapes Go.ChangeAt Go.Joins

set_option maxRecDepth 100000 in
theorem linear_lifted (os : Os) (started : os.Started) (H : Type) (enc : TypeId × Value → H) :
    ReturnsInHanded {} Try.checked os 10 .any (Rows.slingLinearSpec.pre6 enc Try.prog Try.f10 Rows.slingLinearRow.domain false) (Rows.slingLinearSpec.post enc Try.prog Try.f10 false true false false) := by
  refine returnsInHanded_of_change_sized (C := Try.checked) own started (by kernel_rfl) Try.func10
    (ChangeSpec.witness6 (enc := enc) (C := Try.checked) false ⟨#[], #[.agg #[.int .i64 0, .int .i64 0, .int .i64 0], .agg #[.int .i64 0, .int .i64 0, .slice none 0 0, .int .i64 0, .int .i64 0, .int .i64 0], .agg #[.int .i64 0, .int .i64 0, .slice none 0 0, .int .i64 0, .int .i64 0, .int .i64 0]], []⟩ 8 (by kernel_rfl) (by kernel_rfl) (by kernel_rfl) (by kernel_rfl)) ?_
  intro W base args ds gs before hval0 hW hcnd hsz _
  have hval : ∀ (j : Nat) t v, Try.f10.params[j]? = some t → args[j]? = some v → Value.okWide Try.prog W .any base t v := hval0
  have hW' := hW
  obtain ⟨p, q, hA0, hV, rfl, hfz, hnd⟩ := hW
  have hA : DataW.TrodAll enc Try.prog W 0 (fun _ => true) true Try.f10.params.toList args.toList ds p := hA0
  rw [Try.params10] at hA hval hsz
  obtain ⟨v0, v1, v2, d0, d1, d2, p0, p1, p2, rfl, rfl, rfl, h0, h1, h2⟩ := trodAll_three hA
  obtain ⟨rfl, rfl⟩ := trodVars_none hV
  obtain ⟨a0, b0, c0, rfl⟩ := sling_open (hval 0 23 v0 rfl rfl) h0
  obtain ⟨a1, b1, A1, n1, c1, m1, lo1, hi1, G1, rfl, hl1, hn1, hr1, hz1⟩ := swungz_open (hval 1 29 v1 rfl rfl) h1
  obtain ⟨a2, b2, A2, n2, c2, m2, lo2, hi2, G2, rfl, hl2, hn2, hr2⟩ := swung_open (hval 2 29 v2 rfl rfl) h2
  have hrm := hz1 fun z hz => of_decide_eq_true (List.all_eq_true.1 hsz z (DataW.weights_mem_each (j := 1) (t := 29) (d := d1) rfl rfl z hz))
  clear hA0 hval0
  simp only [List.append_nil] at hW'
  have hlt : ∀ x ∈ p0 ++ p1 ++ p2, x.block < W.heap.size := fun x hx => hW'.lt x hx
  refine (law_linear works7_any W a0 b0 c0 a1 b1 A1 n1 c1 m1 lo1 hi1 G1 hl1 hn1 hr1 a2 b2 A2 n2 c2 m2 lo2 hi2 G2 hl2 hn2 hr2 hrm).mono fun e W' ⟨he, hb⟩ => ?_
  subst he
  exact ⟨_, rfl, law_post hW' (by kernel_rfl) Try.underlying4 rfl rfl (fun sp hsp => (by simp only [List.append_assoc]; exact trodAll_mk3 (again (by kernel_rfl) (of_decide_eq_true (by kernel_rfl)) h0 hb (fun x hx => hlt x (List.mem_append_left _ (List.mem_append_left _ hx))) (fun x hx => hsp x (List.mem_append_left _ (List.mem_append_left _ hx)))) (again (by kernel_rfl) (of_decide_eq_true (by kernel_rfl)) h1 hb (fun x hx => hlt x (List.mem_append_left _ (List.mem_append_right _ hx))) (fun x hx => hsp x (List.mem_append_left _ (List.mem_append_right _ hx)))) (again (by kernel_rfl) (of_decide_eq_true (by kernel_rfl)) h2 hb (fun x hx => hlt x (List.mem_append_right _ hx)) (fun x hx => hsp x (List.mem_append_right _ hx))))) hb⟩

theorem linear_holds : Rows.SlingLinearSaid :=
  OpenClaim.holds_of_wide 10 Try.f10 rfl rfl rfl rfl rfl rfl rfl ⟨rfl, rfl, rfl, rfl, rfl⟩ rfl rfl rfl rfl rfl (by kernel_rfl) Try.func10 (by kernel_rfl)
    (of_decide_eq_true (by kernel_rfl)) (by unfold Func.isWrapper; first | (rw [if_pos (by decide +kernel)]; kernel_rfl) | (rw [if_neg (by decide +kernel)]; exact ⟨rfl, rfl⟩))
    (fun os started H enc _ => linear_lifted os started H enc)
#print axioms linear_holds

end Go.Proofs.Ytnnmmojlgikdgaa

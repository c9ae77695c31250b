/- swashplatelaw01.SpansGreatest returns true at every input, and the input reads as it did: no condition. -/
import Derived.Test.YtjdahphnmeaolaaRowGst
import Derived.Test.YtjdahphnmeaolaaOpen2
namespace Go.Proofs.Ytjdahphnmeaolaa
open Go.RowKit Go.WideShapes Go.ChangeShapes Go.ChangeAt Go.Joins

set_option maxRecDepth 100000 in
theorem greatest_lifted (os : Os) (started : os.Started) (H : Type) (enc : TypeId × Value → H) :
    ReturnsInHanded {} Try.checked os 12 .any (Rows.spansGreatestSpec.pre6 enc Try.prog Try.f12 Rows.spansGreatestRow.domain false) (Rows.spansGreatestSpec.post enc Try.prog Try.f12 false true false false) := by
  refine returnsInHanded_of_change (C := Try.checked) own started (by kernel_rfl) Try.func12
    (ChangeSpec.witness6 (enc := enc) (C := Try.checked) false ⟨#[], #[.agg #[.slice none 0 0, .slice none 0 0, .slice none 0 0], .agg #[.int .i64 0, .int .i64 0], .agg #[.int .i64 0, .int .i64 0]], []⟩ 8 (by kernel_rfl) (by kernel_rfl) (by kernel_rfl) (by kernel_rfl)) ?_
  intro W base args ds gs before hval0 hW hcnd _
  have hval : ∀ (j : Nat) t v, Try.f12.params[j]? = some t → args[j]? = some v → Value.okWide Try.prog W .any base t v := hval0
  have hW' := hW
  obtain ⟨p, q, hA0, hV, rfl, hfz, hnd⟩ := hW
  have hA : DataW.TrodAll enc Try.prog W 0 (fun _ => true) true Try.f12.params.toList args.toList ds p := hA0
  rw [Try.params12] at hA hval
  obtain ⟨v0, v1, v2, d0, d1, d2, p0, p1, p2, rfl, rfl, rfl, h0, h1, h2⟩ := trodAll_three hA
  obtain ⟨rfl, rfl⟩ := trodVars_none hV
  obtain ⟨AX, nx, cx, AY, ny, cy, AV, nv, cv, X, Y, V, rfl, hx, hy, hv, hnx, hny, hnv, hnr, htb⟩ := table_open (hval 0 27 v0 rfl rfl) h0
  have h1' := h1
  obtain ⟨x, y, rfl, _, _, _, _⟩ := span_open (hval 1 37 v1 rfl rfl) h1'
  obtain ⟨k0, k1, rfl⟩ := pair_open2 (hval 2 41 v2 rfl rfl) h2
  clear hA0 hval0
  simp only [List.append_nil] at hW'
  have hlt : ∀ z ∈ p0 ++ p1 ++ p2, z.block < W.heap.size := fun z hz => hW'.lt z hz
  refine (law_greatest AX AY AV nx cx ny cy nv cv W.heap.size X Y V x y k0 k1 W hx hy hv hnx hny hnv hnr (Nat.le_refl _) htb).mono fun e W' ⟨he, hb⟩ => ?_
  subst he
  exact ⟨_, rfl, law_post hW' (by kernel_rfl) Try.underlying4 rfl rfl (fun sp hsp => List.append_assoc p0 p1 p2 ▸ trodAll_mk3
    (again (by kernel_rfl) (of_decide_eq_true (by kernel_rfl)) h0 hb (fun z hz => hlt z (by simp [hz])) (fun z hz => hsp z (by simp [hz])))
    (again (by kernel_rfl) (of_decide_eq_true (by kernel_rfl)) h1 hb (fun z hz => hlt z (by simp [hz])) (fun z hz => hsp z (by simp [hz])))
    (again (by kernel_rfl) (of_decide_eq_true (by kernel_rfl)) h2 hb (fun z hz => hlt z (by simp [hz])) (fun z hz => hsp z (by simp [hz])))) hb⟩

theorem greatest_holds : Rows.SpansGreatestSaid :=
  OpenClaim.holds_of_wide 12 Try.f12 rfl rfl rfl rfl rfl rfl rfl ⟨rfl, rfl, rfl, rfl, rfl⟩ rfl rfl rfl rfl rfl (by kernel_rfl) Try.func12 (by kernel_rfl)
    (of_decide_eq_true (by kernel_rfl)) (by unfold Func.isWrapper; first | (rw [if_pos (by decide +kernel)]; kernel_rfl) | (rw [if_neg (by decide +kernel)]; exact ⟨rfl, rfl⟩))
    (fun os started H enc _ => greatest_lifted os started H enc)
#print axioms greatest_holds

end Go.Proofs.Ytjdahphnmeaolaa

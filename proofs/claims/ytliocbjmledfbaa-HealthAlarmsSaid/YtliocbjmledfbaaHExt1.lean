/- chance's closure: by induction on the values that are left. -/
import Derived.Test.YtliocbjmledfbaaHExt
import Derived.Shelf.Abstract
namespace Go.Proofs.Ytliocbjmledfbaa
open Go.RowKit
attribute [local go_sem] Oper.semAt_some

theorem Fr.later' {ops : Array Oper} {T : Array Value} {val : Nat → Value} {L : Array Bool} {a : Act} (h : Fr ops T val L a) {i : Nat} (hl : L.getD i false = false) (j : Nat) {o : Oper} (ho : ops[j]? = some o) {e : Edge} (he : e ∈ o.after) (hb : Region.binds .any e = true) (hi : e.on = i) : L.getD j false = false := by
  cases hj : L.getD j false with
  | false => rfl
  | true =>
    have h1 := h.closed j o ho hj e he hb
    rw [hi, hl] at h1
    cases h1
theorem Fr.none {ops : Array Oper} {T : Array Value} {val : Nat → Value} {L : Array Bool} {a : Act} (h : Fr ops T val L a) {i : Nat} (hl : L.getD i true = false) (hi : i < ops.size) : L.getD i false = false := by
  rw [← getD_same (by rw [h.lsize]; exact hi)]
  exact hl
/-- append at a step of region_inv, where its run is known. -/
theorem wpIn_append_run {P : Program} {k : Nat} {o : Oper} {a : Act} {w w' : World} {K : Act → World → Prop} {Q : Exit → Act → World → Prop} {s x : Operand} {t : TypeId} {v vs vx : Value}
    (ho : o.op = .call { callee := .builtin .append, args := #[s, x], argTypes := #[t, t] }) (hs : a.eval s = vs) (hx : a.eval x = vx) (hr : (Builtin.append_ #[t, t] o.type #[vs, vx]).run P w = .ok v w') (h : K (a.put o.dst v) w') : Oper.wpIn Fence.wide k P o a w K Q := by
  refine ⟨fun _ _ => trivial, ?_⟩
  rw [Oper.semAt_eq _ _ _ (by simp [ho])]
  unfold Oper.uponIn execOp
  simp only [ho, resolve, invoke, builtin, Sem.run_bind, Sem.run_pure, Result.andThen_ok, List.map_toArray, List.map_cons, List.map_nil, hs, hx, hr]
  exact h

def QE (p : XP) (o : List Int) (x t : Int) (j : Nat) (v : Value) : Prop :=
  match j with
  | 0 => v = .func (.func 89) #[] #[.pointer (some ⟨p.N, 0, none⟩), .pointer (some ⟨p.N + 3, 0, none⟩), .pointer (some ⟨p.N + 2, 0, none⟩), .pointer (some ⟨p.N + 4, 0, none⟩), .pointer (some ⟨p.N + 5, 0, none⟩)]
  | 1 => v = .slice (some ⟨p.N + 6, 0, none⟩) o.length p.n
  | 2 => v = .int .i64 x
  | 4 => v = .slice (some ⟨p.N + 6, 0, none⟩) (o.length + 1) p.n
  | 5 => v = .int .i64 t
  | 6 => v = .slice (some ⟨p.N + 6, 0, none⟩) o.length p.n
  | 7 => v = .int .i64 x
  | 8 => v = .int .i64 (risN o x)
  | 9 => v = .int .i64 (t + risN o x)
  | _ => True
def R9 (p : XP) (num den num2 den2 : Int) (u : List Bool) (o : List Int) (x t : Int) (val : Nat → Value) (L : Array Bool) (W : World) : Prop :=
  (∀ j, L.getD j false = true → QE p o x t j (val j)) ∧ (L.getD 10 false = true → EX p num2 den2 u o W) ∧ (L.getD 10 false = false → L.getD 4 false = true → EX p num den u (o ++ [x]) W) ∧
  (L.getD 4 false = false → EX p num den u o W ∧ (L.getD 3 false = true → ∃ g, val 3 = .slice (some ⟨g, 0, none⟩) 1 1 ∧ W.cell? ⟨g, 0, none⟩ = some (.int .i64 x)))

section
variable {p : XP} {num den num2 den2 : Int} {u : List Bool} {o : List Int} {x t : Int} {val : Nat → Value} {L : Array Bool} {W : World}
theorem R9.live (h : R9 p num den num2 den2 u o x t val L W) (h10 : L.getD 10 false = false) : EX p num den u o W := by
  cases h4 : L.getD 4 false with
  | true => exact (h.2.2.1 h10 h4).pop
  | false => exact (h.2.2.2 h4).1
theorem R9.vals {k : Nat} {v : Value} (h : R9 p num den num2 den2 u o x t val L W) (hq : QE p o x t k v) : ∀ j, (L.setIfInBounds k true).getD j false = true → QE p o x t j (upd val k v j) := fun j hj => by
  by_cases e : j = k
  · subst e
    rw [upd_same]
    exact hq
  · rw [upd_other e]
    rw [getD_set_other (fun h => e h.symm)] at hj
    exact h.1 j hj
theorem R9.keep {k : Nat} {v : Value} (h : R9 p num den num2 den2 u o x t val L W) (h3 : k ≠ 3) (h4 : k ≠ 4) (h10 : k ≠ 10) (hq : QE p o x t k v) : R9 p num den num2 den2 u o x t (upd val k v) (L.setIfInBounds k true) W := by
  refine ⟨h.vals hq, ?_⟩
  rw [getD_set_other h3, getD_set_other h4, getD_set_other h10, upd_other (fun e => h3 e.symm)]
  exact h.2
theorem R9.made (h : R9 p num den num2 den2 u o x t val L W) (h4 : L.getD 4 false = false) (h10 : L.getD 10 false = false) :
    R9 p num den num2 den2 u o x t (upd val 3 (.slice (some ⟨W.heap.size, 0, none⟩) 1 1)) (L.setIfInBounds 3 true) (W.alloc (.cells #[.int .i64 x] 3)) := by
  refine ⟨h.vals trivial, ?_⟩
  rw [getD_set_other (by omega : 3 ≠ 4), getD_set_other (by omega : 3 ≠ 10), upd_same, h4, h10]
  refine ⟨fun e => (by cases e), fun _ e => (by cases e), fun _ => ⟨(h.2.2.2 h4).1.alloc _, fun _ => ⟨_, rfl, ?_⟩⟩⟩
  rw [cell_newest]
  rfl
theorem R9.pushed (h : R9 p num den num2 den2 u o x t val L W) (hl : o.length < p.n) (h4 : L.getD 4 false = false) (h10 : L.getD 10 false = false) (hs : 4 < L.size) :
    R9 p num den num2 den2 u o x t (upd val 4 (.slice (some ⟨p.N + 6, 0, none⟩) (o.length + 1) p.n)) (L.setIfInBounds 4 true) (W.setCell ⟨p.N + 6, o.length, none⟩ (.int .i64 x)) := by
  refine ⟨h.vals rfl, ?_⟩
  rw [getD_set_other (by omega : 4 ≠ 10), getD_set_eq hs, h10]
  exact ⟨fun e => (by cases e), fun _ _ => (h.2.2.2 h4).1.push x hl, fun e => (by cases e)⟩
theorem R9.done {v : Value} {W' : World} (h : R9 p num den num2 den2 u o x t val L W) (h4 : L.getD 4 false = true) (hs : 10 < L.size) (hq : EX p num2 den2 u o W') : R9 p num den num2 den2 u o x t (upd val 10 v) (L.setIfInBounds 10 true) W' := by
  refine ⟨h.vals trivial, ?_⟩
  rw [getD_set_other (by omega : 10 ≠ 4), getD_set_eq hs, h4]
  exact ⟨fun _ => hq, fun e => (by cases e), fun e => (by cases e)⟩
end

set_option maxRecDepth 100000 in
set_option maxHeartbeats 1000000 in
theorem ext_any (p : XP) (ok : p.Ok) (f : Nat) : ∀ (o : List Int) (u : List Bool) (num den t : Int) (W : World), o.length + f = p.n → u.length = 8 → t = trL o → 0 ≤ num → num + 8 ^ f ≤ 1000000000000000 → 0 ≤ den → den + 8 ^ f ≤ 1000000000000000 → EX p num den u o W →
    Calls Try.prog 89 #[.slice (some ⟨p.N + 6, 0, none⟩) o.length p.n, .int .i64 t, .pointer (some ⟨p.N, 0, none⟩), .pointer (some ⟨p.N + 3, 0, none⟩), .pointer (some ⟨p.N + 2, 0, none⟩), .pointer (some ⟨p.N + 4, 0, none⟩), .pointer (some ⟨p.N + 5, 0, none⟩)] W fun e W' =>
      e = .returned (.tuple #[]) ∧ EX p (num + (ext p.V p.least f o u).1) (den + (ext p.V p.least f o u).2) u o W' := by
  have hi := ok.hi
  induction f with
  | zero =>
    intro o u num den t W hof hu ht n0 n1 d0 d1 hE
    have b1 : ((o.length : Int) == (p.n : Int)) = true := by simp; omega
    have c0 := cellOf hE.v (o := 0) rfl
    have c1 := cellOf hE.l (o := 0) rfl
    have c2 := cellOf hE.f (o := 0) rfl
    have c3 := cellOf hE.f (o := 1) rfl
    have f2 := freeOf hE.f (o := 0)
    have f3 := freeOf hE.f (o := 1)
    simp only [Int.pow_zero] at n1 d1
    have HE := Lib.hid hE
    have HT := Lib.hid ht
    by_cases g : p.least ≤ t
    · have e : ext p.V p.least 0 o u = (1, 1) := by unfold ext; rw [if_pos (by omega)]
      rw [e]
      clear hof ht hE e
      go_enter Try.func89, Try.ntmps89
      go_wp2
      exact bodyPost_ret (v := .tuple #[]) (by simp [results, Try.results89, go_sem]) rfl ⟨rfl, (HE.out.setDen (den + 1)).setNum (num + 1)⟩
    · have e : ext p.V p.least 0 o u = (0, 1) := by unfold ext; rw [if_neg (by omega)]
      rw [e]
      clear hof ht hE e
      go_enter Try.func89, Try.ntmps89
      go_wp2
      exact bodyPost_ret (v := .tuple #[]) (by simp [results, Try.results89, go_sem]) rfl ⟨rfl, by simpa using HE.out.setDen (den + 1)⟩
  | succ f ih =>
    intro o u num den t W hof hu ht n0 n1 d0 d1 hE
    have b1 : ((o.length : Int) == (p.n : Int)) = false := by simp; omega
    have hlo : o.length < p.n := by omega
    have c0 := cellOf hE.v (o := 0) rfl
    have HI0 := Lib.hid ih
    have HE := Lib.hid hE
    have HT := Lib.hid ht
    have HO := Lib.hid hof
    have HB := Lib.hid (And.intro n1 d1)
    have HP : Hid (0 < (8 : Int) ^ f) := Lib.hid (Int.pow_pos (by omega))
    clear hof ht hE n1 d1 ih
    go_enter Try.func89, Try.ntmps89
    go_wp2
    go_loopw [29] (fun i wr => ∃ k : Nat, k ≤ p.n ∧ i = .int .i64 k ∧ EX p (num + (extN p.V p.least f o u k).1) (den + (extN p.V p.least f o u k).2) u o wr) (fun i _ => p.n - (intOf i).toNat)
    case atStart => exact ⟨0, Nat.zero_le _, rfl, by simpa [extN] using HE.out⟩
    case round =>
      obtain ⟨k, hk, rfl, hEk⟩ := hrel
      by_cases hlt : k < p.n
      · obtain ⟨b, off, x, hA, hb, hx, hc⟩ := (hEk.values ok).at_ (k := k) (by rw [ok.len]; exact hlt)
        have hbd := extN_bd p.V p.least (by rw [ok.len]; exact hi) f o u k
        have hku : k < u.length := by omega
        have hlu : u[k]? = some u[k] := List.getElem?_eq_getElem hku
        have cu : wr.cell? ⟨p.N + 4, k, none⟩ = some (.bool u[k]) := cellOf hEk.u (by simp [hku])
        have fu := freeOf hEk.u (o := k)
        have HX := Lib.hid hx
        have HA := Lib.hid hA
        have hk8 : (k : Int) < 8 := by omega
        rw [hA]
        cases huk : u[k] with
        | true =>
          rw [huk] at cu hlu
          have HEK := Lib.hid hEk
          have HU := Lib.hid (extN_used (V := p.V) (least := p.least) (f := f) (o := o) hlu)
          clear hEk hbd hlu huk hA hx
          go_wp2
          go_roundw
          case rel => exact ⟨k + 1, by omega, by go_num, by rw [HU.out]; exact HEK.out⟩
          case measure => simp [intOf]; omega
        | false =>
          rw [huk] at cu hlu
          have HU := Lib.hid (extN_free (V := p.V) (least := p.least) (f := f) (o := o) hlu hx)
          have HEK := Lib.hid (hEk.use k true)
          have HS : Hid ((u.set k true).set k false = u) := Lib.hid (by
            apply List.ext_getElem?
            intro j
            rw [List.set_set, List.getElem?_set]
            split
            · subst_vars; simp [hku, huk]
            · rfl)
          have hbe := ext_bd p.V p.least (by rw [ok.len]; exact hi) f (o ++ [x]) (u.set k true)
          have hrb := risN_bd o x
          have htb := trN_bd o o.length (Nat.le_refl _)
          have hoo : (o.length * o.length : Int) ≤ 8 * 8 := Int.mul_le_mul (by omega) (by omega) (by omega) (by omega)
          have htt : -64 ≤ t ∧ t ≤ 64 := by have := HT.out; unfold trL at this; omega
          have hn : (0 ≤ num + (extN p.V p.least f o u k).1 ∧ num + (extN p.V p.least f o u k).1 + 8 ^ f ≤ 1000000000000000) ∧ (0 ≤ den + (extN p.V p.least f o u k).2 ∧ den + (extN p.V p.least f o u k).2 + 8 ^ f ≤ 1000000000000000) := by
            have h8 : (8 : Int) ^ (f + 1) = 8 * 8 ^ f := by grind
            have hb1 := HB.out
            rw [h8] at hb1
            have hp := HP.out
            have hkk : ((k : Int) + 1) * 8 ^ f ≤ 8 * 8 ^ f := Int.mul_le_mul_of_nonneg_right (by omega) (by omega)
            have hkm : ((k : Int) + 1) * 8 ^ f = k * 8 ^ f + 8 ^ f := by grind
            omega
          have HI := Lib.hid (fun y hy => HI0.out (o ++ [x]) (u.set k true) (num + (extN p.V p.least f o u k).1) (den + (extN p.V p.least f o u k).2) (t + risN o x) y (by simp; have := HO.out; omega) (by simpa using hu) (by rw [trL_snoc, HT.out]) hn.1.1 hn.1.2 hn.2.1 hn.2.2 hy)
          simp only [List.length_append, List.length_cons, List.length_nil, Nat.zero_add] at HI
          have hr1 : -8 ≤ risN o x := by omega
          have hr2 : risN o x ≤ 8 := by omega
          obtain ⟨ht1, ht2⟩ := htt
          have HWR : Hid (IntKind.i64.wrap (t + risN o x) = t + risN o x) := Lib.hid (IntWalk.i64_in _ (by omega))
          clear hEk hlu huk hA hx hbd hbe hn hrb htb hoo n0 d0
          have HN : Hid (num + (extN p.V p.least f o u (k + 1)).1 = num + (extN p.V p.least f o u k).1 + (ext p.V p.least f (o ++ [x]) (u.set k true)).1 ∧ den + (extN p.V p.least f o u (k + 1)).2 = den + (extN p.V p.least f o u k).2 + (ext p.V p.least f (o ++ [x]) (u.set k true)).2) := Lib.hid (by rw [HU.out]; dsimp only; omega)
          have hul : k < (u.set k true).length := by simpa using hku
          clear HU HB HP HI0
          generalize (ext p.V p.least f (o ++ [x]) (u.set k true)) = ee at *
          generalize num + (extN p.V p.least f o u k).1 = num' at *
          generalize den + (extN p.V p.least f o u k).2 = den' at *
          generalize u.set k true = u' at *
          obtain ⟨e1, e2⟩ := ee
          simp only at HI HN
          go_upto_region 9 with fail
          have hE1 := HEK.out
          generalize hW1 : (wr.setCell ⟨p.N + 4, k, none⟩ (.bool true)) = W1 at *
          obtain ⟨num2, hnum2⟩ : ∃ z, num' + e1 = z := ⟨_, rfl⟩
          obtain ⟨den2, hden2⟩ : ∃ z, den' + e2 = z := ⟨_, rfl⟩
          rw [hnum2, hden2] at HN HI
          clear hnum2 hden2 e1 e2 HEK cu fu hW1
          refine wpIn_wide.1 (region_inv2 (n := 9) (by kernel_rfl) (R9 p num' den' num2 den2 u' o x t) (by kernel_rfl) rfl ?start ?hstep ?hend)
          case start =>
            refine ⟨fun j h => ?_, fun h => ?_, fun _ h => ?_, fun _ => ⟨hE1.drew, fun h => ?_⟩⟩
            all_goals rw [getD_replicate_no] at h; cases h
          case hstep =>
            clear hE1
            intro i' o' ho val L b' y hF hR hpre hl
            match i', ho with
            | 0, ho =>
              simp at ho
              subst ho
              refine step_plain rfl ?_
              have e6 := hF.was 6 (by kernel_rfl) rfl
              have h10 : L.getD 10 false = false := hF.later hl 10 rfl (e := ⟨0, .data⟩) (by simp) rfl rfl
              have hgoal : ∀ v, QE p o x t 0 v → R9 p num' den' num2 den2 u' o x t (upd val 0 v) (L.setIfInBounds 0 true) y := fun v hq => hR.keep (by omega) (by omega) (by omega) hq
              have hE := hR.live h10
              have q0 := cellOf hE.x (o := 0) rfl
              clear hF hpre hl hR h10 hE
              go_simp
              exact ⟨_, rfl, hgoal _ rfl⟩
            | 1, ho =>
              simp at ho
              subst ho
              refine step_plain rfl ?_
              have e0 := hF.was 0 (by kernel_rfl) rfl
              have h10 : L.getD 10 false = false := hF.later' (hF.later hl 4 rfl (e := ⟨1, .data⟩) (by simp) rfl rfl) 10 rfl (e := ⟨4, .data⟩) (by simp) rfl rfl
              have hgoal : ∀ v, QE p o x t 1 v → R9 p num' den' num2 den2 u' o x t (upd val 1 v) (L.setIfInBounds 1 true) y := fun v hq => hR.keep (by omega) (by omega) (by omega) hq
              have hE := hR.live h10
              have q0 := cellOf hE.x (o := 0) rfl
              clear hF hpre hl hR h10 hE
              go_simp
              exact ⟨_, rfl, hgoal _ rfl⟩
            | 2, ho =>
              simp at ho
              subst ho
              refine step_plain rfl ?_
              have e10 := hF.was 10 (by kernel_rfl) rfl
              have h10 : L.getD 10 false = false := hF.later' (hF.later' (hF.later hl 3 rfl (e := ⟨2, .data⟩) (by simp) rfl rfl) 4 rfl (e := ⟨3, .data⟩) (by simp) rfl rfl) 10 rfl (e := ⟨4, .data⟩) (by simp) rfl rfl
              have hgoal : ∀ v, QE p o x t 2 v → R9 p num' den' num2 den2 u' o x t (upd val 2 v) (L.setIfInBounds 2 true) y := fun v hq => hR.keep (by omega) (by omega) (by omega) hq
              have hE := hR.live h10
              have q0 := cellOf hE.x (o := 0) rfl
              clear hF hpre hl hR h10 hE
              go_simp
              exact ⟨_, rfl, hgoal _ rfl⟩
            | 3, ho =>
              simp at ho
              subst ho
              refine step_plain rfl ?_
              have e42 := hF.gave 2 rfl (hpre ⟨2, .data⟩ (by simp) rfl) (hR.1 2 (hpre ⟨2, .data⟩ (by simp) rfl))
              have h4 : L.getD 4 false = false := hF.later hl 4 rfl (e := ⟨3, .data⟩) (by simp) rfl rfl
              have h10 : L.getD 10 false = false := hF.later' h4 10 rfl (e := ⟨4, .data⟩) (by simp) rfl rfl
              have hgoal : R9 p num' den' num2 den2 u' o x t (upd val 3 (.slice (some ⟨y.heap.size, 0, none⟩) 1 1)) (L.setIfInBounds 3 true) (y.alloc (.cells #[.int .i64 x] 3)) := hR.made h4 h10
              clear hF hpre hl hR h10 h4
              go_simp
              exact ⟨_, rfl, hgoal⟩
            | 4, ho =>
              simp at ho
              subst ho
              refine step_plain rfl ?_
              have e41 := hF.gave 1 rfl (hpre ⟨1, .data⟩ (by simp) rfl) (hR.1 1 (hpre ⟨1, .data⟩ (by simp) rfl))
              have h10 : L.getD 10 false = false := hF.later hl 10 rfl (e := ⟨4, .data⟩) (by simp) rfl rfl
              have h4 : L.getD 4 false = false := hF.none hl (by decide)
              have h3 := hpre ⟨3, .data⟩ (by simp) rfl
              obtain ⟨hE, hg⟩ := hR.2.2.2 h4
              obtain ⟨g, v3, hc⟩ := hg h3
              have e43 := hF.gave 3 rfl h3 v3
              have hgoal := hR.pushed hlo h4 h10 (by rw [hF.lsize]; decide)
              have hrun := run_push hE hlo hc
              clear hF hpre hl hR h10 h4 hE hg hc v3 h3
              exact wpIn_append_run rfl (by simpa [Act.eval] using e41) (by simpa [Act.eval] using e43) hrun ⟨_, rfl, hgoal⟩
            | 5, ho =>
              simp at ho
              subst ho
              refine step_plain rfl ?_
              have e1 := hF.was 1 (by kernel_rfl) rfl
              have h10 : L.getD 10 false = false := hF.later' (hF.later hl 9 rfl (e := ⟨5, .data⟩) (by simp) rfl rfl) 10 rfl (e := ⟨9, .data⟩) (by simp) rfl rfl
              have hgoal : ∀ v, QE p o x t 5 v → R9 p num' den' num2 den2 u' o x t (upd val 5 v) (L.setIfInBounds 5 true) y := fun v hq => hR.keep (by omega) (by omega) (by omega) hq
              have hE := hR.live h10
              have q0 := cellOf hE.x (o := 0) rfl
              clear hF hpre hl hR h10 hE
              go_simp
              exact ⟨_, rfl, hgoal _ rfl⟩
            | 6, ho =>
              simp at ho
              subst ho
              refine step_plain rfl ?_
              have e0 := hF.was 0 (by kernel_rfl) rfl
              have h10 : L.getD 10 false = false := hF.later' (hF.later hl 8 rfl (e := ⟨6, .data⟩) (by simp) rfl rfl) 10 rfl (e := ⟨8, .chain⟩) (by simp) rfl rfl
              have hgoal : ∀ v, QE p o x t 6 v → R9 p num' den' num2 den2 u' o x t (upd val 6 v) (L.setIfInBounds 6 true) y := fun v hq => hR.keep (by omega) (by omega) (by omega) hq
              have hE := hR.live h10
              have q0 := cellOf hE.x (o := 0) rfl
              clear hF hpre hl hR h10 hE
              go_simp
              exact ⟨_, rfl, hgoal _ rfl⟩
            | 7, ho =>
              simp at ho
              subst ho
              refine step_plain rfl ?_
              have e10 := hF.was 10 (by kernel_rfl) rfl
              have h10 : L.getD 10 false = false := hF.later' (hF.later hl 8 rfl (e := ⟨7, .data⟩) (by simp) rfl rfl) 10 rfl (e := ⟨8, .chain⟩) (by simp) rfl rfl
              have hgoal : ∀ v, QE p o x t 7 v → R9 p num' den' num2 den2 u' o x t (upd val 7 v) (L.setIfInBounds 7 true) y := fun v hq => hR.keep (by omega) (by omega) (by omega) hq
              have hE := hR.live h10
              have q0 := cellOf hE.x (o := 0) rfl
              clear hF hpre hl hR h10 hE
              go_simp
              exact ⟨_, rfl, hgoal _ rfl⟩
            | 8, ho =>
              simp at ho
              subst ho
              refine step_plain rfl ?_
              have e46 := hF.gave 6 rfl (hpre ⟨6, .data⟩ (by simp) rfl) (hR.1 6 (hpre ⟨6, .data⟩ (by simp) rfl))
              have e47 := hF.gave 7 rfl (hpre ⟨7, .data⟩ (by simp) rfl) (hR.1 7 (hpre ⟨7, .data⟩ (by simp) rfl))
              have h10 : L.getD 10 false = false := hF.later hl 10 rfl (e := ⟨8, .chain⟩) (by simp) rfl rfl
              have hgoal : ∀ v, QE p o x t 8 v → R9 p num' den' num2 den2 u' o x t (upd val 8 v) (L.setIfInBounds 8 true) y := fun v hq => hR.keep (by omega) (by omega) (by omega) hq
              have hE := Lib.hid (hR.live h10)
              clear hF hpre hl hR h10
              go_simp
              refine ⟨trivial, ?_⟩
              refine CallsIn.mono (callsIn_wide.2 (rises_any (some ⟨p.N + 6, 0, none⟩) o.length p.n _ o x y rfl (by omega) hE.out.order)) ?_
              rintro e w9 ⟨rfl, rfl⟩
              exact ⟨_, rfl, hgoal _ rfl⟩
            | 9, ho =>
              simp at ho
              subst ho
              refine step_plain rfl ?_
              have e45 := hF.gave 5 rfl (hpre ⟨5, .data⟩ (by simp) rfl) (hR.1 5 (hpre ⟨5, .data⟩ (by simp) rfl))
              have e48 := hF.gave 8 rfl (hpre ⟨8, .data⟩ (by simp) rfl) (hR.1 8 (hpre ⟨8, .data⟩ (by simp) rfl))
              have h10 : L.getD 10 false = false := hF.later hl 10 rfl (e := ⟨9, .data⟩) (by simp) rfl rfl
              have hgoal : ∀ v, QE p o x t 9 v → R9 p num' den' num2 den2 u' o x t (upd val 9 v) (L.setIfInBounds 9 true) y := fun v hq => hR.keep (by omega) (by omega) (by omega) hq
              clear hF hpre hl hR h10
              go_simp
              exact ⟨_, rfl, hgoal _ (congrArg (Value.int .i64) HWR.out)⟩
            | 10, ho =>
              simp at ho
              subst ho
              refine step_plain rfl ?_
              have e40 := hF.gave 0 rfl (hpre ⟨0, .data⟩ (by simp) rfl) (hR.1 0 (hpre ⟨0, .data⟩ (by simp) rfl))
              have h4 := hpre ⟨4, .data⟩ (by simp) rfl
              have e44 := hF.gave 4 rfl h4 (hR.1 4 h4)
              have e49 := hF.gave 9 rfl (hpre ⟨9, .data⟩ (by simp) rfl) (hR.1 9 (hpre ⟨9, .data⟩ (by simp) rfl))
              have h10 : L.getD 10 false = false := hF.none hl (by decide)
              have hE := Lib.hid (hR.2.2.1 h10 h4)
              have hls : 10 < L.size := by rw [hF.lsize]; decide
              have hgoal : ∀ v W', EX p num2 den2 u' o W' → R9 p num' den' num2 den2 u' o x t (upd val 10 v) (L.setIfInBounds 10 true) W' := fun v W' hq => hR.done h4 hls hq
              clear hF hpre hl hR h10 h4
              go_simp
              refine ⟨trivial, ?_⟩
              refine CallsIn.mono (callsIn_wide.2 (HI.out y hE.out)) ?_
              rintro e w9 ⟨rfl, hE9⟩
              exact ⟨_, rfl, hgoal _ _ hE9.pop⟩
            | i + 11, ho => simp at ho
          case hend =>
            intro val L b' y hF hall hR
            have e := hF.all (by kernel_rfl) hall
            have hE2 := hR.2.1 (hall 10 (by decide))
            have HE2 := Lib.hid (hE2.use k false)
            have cu2 : y.cell? ⟨p.N + 4, k, none⟩ = some (.bool (u'[k]'hul)) := cellOf hE2.u (by simp [hul])
            have fu2 := freeOf hE2.u (o := k)
            clear hF hall hR hE1 hE2
            subst e
            simp [final, dstOf, List.range, List.range.loop]
            go_wp2
            go_roundw
            case rel => exact ⟨k + 1, by omega, by go_num, by rw [HN.out.1, HN.out.2]; have := HE2.out; rwa [HS.out] at this⟩
            case measure => simp [intOf]; omega
      · have hkn : k = p.n := by omega
        subst hkn
        have HEK := Lib.hid hEk
        clear hEk
        go_wp2
        go_end0
        refine ⟨rfl, ?_⟩
        rw [ext_succ, ok.len]
        exact HEK.out

end Go.Proofs.Ytliocbjmledfbaa

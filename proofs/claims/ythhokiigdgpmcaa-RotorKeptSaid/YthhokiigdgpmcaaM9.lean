/- Contracts of the functions that the statement reaches: DReady, DClo, DMath2, JKept, Rt, Rk, R2, JDeep, JBlk, Rbb, Ra, DNeed. -/
import Derived.Test.YthhokiigdgpmcaaM8
import Derived.Test.YthhokiigdgpmcaaM7
import Derived.Test.YthhokiigdgpmcaaM6

/- lies; ready. -/
namespace Go.Proofs.Ythhokiigdgpmcaa
open Go.RowKit

set_option maxRecDepth 100000
theorem lies_any (l : LO) (w : World) (ht : TG w l.t) (hx : 1 ≤ l.t.X.length ∧ l.t.X.length ≤ 1000000) (hy : 1 ≤ l.t.Y.length ∧ l.t.Y.length ≤ 1000000) :
    Calls Try.prog 110 #[.agg #[.slice l.t.ax l.t.X.length l.t.cx, .slice l.t.ay l.t.Y.length l.t.cy, .slice l.t.av l.t.V.length l.t.cv, .int .i64 l.x.1, .int .i64 l.x.2, .int .i64 l.y.1, .int .i64 l.y.2]] w fun e w' => e = .returned (.bool l.on) ∧ Below w.heap.size w w' := by
  have HX := Lib.hid (fun (W : World) (hW : Below w.heap.size w W) (g : Nat) (hg : g < W.heap.size) (hr : RS W (g + 1) (some ⟨g, 0, none⟩) [l.x]) => onAxis2_any l.t.ax (some ⟨g, 0, none⟩) _ l.t.cx 1 1 W.heap.size l.t.X [l.x] W rfl hx rfl (le_maxLen (by omega)) (Nat.le_refl _) (ht.below hW).tb.x (hr.more hg))
  have HY := Lib.hid (fun (W : World) (hW : Below w.heap.size w W) (g : Nat) (hg : g < W.heap.size) (hr : RS W (g + 1) (some ⟨g, 0, none⟩) [l.y]) => onAxis2_any l.t.ay (some ⟨g, 0, none⟩) _ l.t.cy 1 1 W.heap.size l.t.Y [l.y] W rfl hy rfl (le_maxLen (by omega)) (Nat.le_refl _) (ht.below hW).tb.y (hr.more hg))
  simp only [List.all_cons, List.all_nil, Bool.and_true] at HX HY
  unfold LO.on
  clear ht hx hy
  cases h1 : osB l.t.X l.x with
  | false =>
    rw [h1] at HX
    clear h1
    go_enter Try.func110, Try.ntmps110
    go_wp2_with (go_at_call 127; refine Calls.mono (HX.out _ (by go_grown) _ (by simp) (RS.new1 (by simp))) ?_; rintro e w1 ⟨rfl, hb1⟩; have HB1 := Lib.hid (Below.trans (show Below w.heap.size w _ by go_grown) (hb1.mono (by simp <;> omega))); clear hb1)
    go_ret
    exact ⟨rfl, HB1.out⟩
  | true =>
    rw [h1] at HX
    clear h1
    generalize osB l.t.Y l.y = v at *
    have KL := Lib.hid (BK.new (w := w) (cs := #[.slice l.t.ax l.t.X.length l.t.cx, .slice l.t.ay l.t.Y.length l.t.cy, .slice l.t.av l.t.V.length l.t.cv, .int .i64 l.x.1, .int .i64 l.x.2, .int .i64 l.y.1, .int .i64 l.y.2]) (T := 92))
    go_enter Try.func110, Try.ntmps110
    go_wp2_with (first
      | (go_at_call_of 127 (Value.slice l.t.ax l.t.X.length l.t.cx); refine Calls.mono (HX.out _ (by go_grown) _ (by simp) (RS.new1 (by simp))) ?_; rintro e w1 ⟨rfl, hb1⟩; have K := (KL.out.old).keep hb1; have c1 := K.cell; have l1 := K.lt; have HB1 := Lib.hid (Below.trans (show Below w.heap.size w _ by go_grown) (hb1.mono (by simp <;> omega))); clear hb1)
      | (go_at_call 127; refine Calls.mono (HY.out _ (HB1.out.alloc HB1.out.size _) _ (by simp) (RS.new1 (by simp))) ?_; rintro e w2 ⟨rfl, hb2⟩; have HB2 := Lib.hid ((HB1.out.alloc HB1.out.size _).trans (hb2.mono (by simp; have := HB1.out.size; omega))); clear hb2))
    go_ret
    exact ⟨rfl, HB2.out⟩

theorem built_M (r : RO) (a : AI) : Try.prog.built 87 [(0, .agg #[.slice r.h.ax r.h.X.length r.h.cx, .slice r.h.ay r.h.Y.length r.h.cy, .slice r.h.av r.h.V.length r.h.cv, .slice r.g.ax r.g.X.length r.g.cx, .slice r.g.ay r.g.Y.length r.g.cy, .slice r.g.av r.g.V.length r.g.cv, .slice r.l.ax r.l.X.length r.l.cx, .slice r.l.ay r.l.Y.length r.l.cy, .slice r.l.av r.l.V.length r.l.cv, .slice r.p.ax r.p.X.length r.p.cx, .slice r.p.ay r.p.Y.length r.p.cy, .slice r.p.av r.p.V.length r.p.cv, .slice r.n.ax r.n.X.length r.n.cx, .slice r.n.ay r.n.Y.length r.n.cy, .slice r.n.av r.n.V.length r.n.cv, .slice r.a.ax r.a.X.length r.a.cx, .slice r.a.ay r.a.Y.length r.a.cy, .slice r.a.av r.a.V.length r.a.cv, .slice r.b.ax r.b.X.length r.b.cx, .slice r.b.ay r.b.Y.length r.b.cy, .slice r.b.av r.b.V.length r.b.cv, .slice r.d.ax r.d.X.length r.d.cx, .slice r.d.ay r.d.Y.length r.d.cy, .slice r.d.av r.d.V.length r.d.cv, .int .i64 r.cl, .int .i64 r.bu]), (1, .agg #[.int .i64 a.w.1, .int .i64 a.w.2, .int .i64 a.t.1, .int .i64 a.t.2, .int .i64 a.h.1, .int .i64 a.h.2, .int .i64 a.v.1, .int .i64 a.v.2])] = some #[.slice r.h.ax r.h.X.length r.h.cx, .slice r.h.ay r.h.Y.length r.h.cy, .slice r.h.av r.h.V.length r.h.cv, .slice r.g.ax r.g.X.length r.g.cx, .slice r.g.ay r.g.Y.length r.g.cy, .slice r.g.av r.g.V.length r.g.cv, .slice r.l.ax r.l.X.length r.l.cx, .slice r.l.ay r.l.Y.length r.l.cy, .slice r.l.av r.l.V.length r.l.cv, .slice r.p.ax r.p.X.length r.p.cx, .slice r.p.ay r.p.Y.length r.p.cy, .slice r.p.av r.p.V.length r.p.cv, .slice r.n.ax r.n.X.length r.n.cx, .slice r.n.ay r.n.Y.length r.n.cy, .slice r.n.av r.n.V.length r.n.cv, .slice r.a.ax r.a.X.length r.a.cx, .slice r.a.ay r.a.Y.length r.a.cy, .slice r.a.av r.a.V.length r.a.cv, .slice r.b.ax r.b.X.length r.b.cx, .slice r.b.ay r.b.Y.length r.b.cy, .slice r.b.av r.b.V.length r.b.cv, .slice r.d.ax r.d.X.length r.d.cx, .slice r.d.ay r.d.Y.length r.d.cy, .slice r.d.av r.d.V.length r.d.cv, .int .i64 r.cl, .int .i64 r.bu, .int .i64 a.w.1, .int .i64 a.w.2, .int .i64 a.t.1, .int .i64 a.t.2, .int .i64 a.h.1, .int .i64 a.h.2, .int .i64 a.v.1, .int .i64 a.v.2] := by kernel_rfl
section
variable {ops : Array Oper} {rest : List Oper} {a : Act} {w : World} {Q : Exit → Act → World → Prop} {d s u : Nat} {CS AS MS : Array Value} {ty : TypeId} {pos : String} {after : Array Edge}
theorem bdM (hb : Try.prog.built 87 [(0, .agg CS), (1, .agg AS)] = some MS) (hx : a.eval (.tmp s) = .agg CS) (hy : a.eval (.tmp u) = .agg AS) (h : wpList Try.prog ops Q rest (a.put (some d) (.agg MS)) w) :
    wpList Try.prog ops Q (⟨some d, .build 87 #[(0, .tmp s), (1, .tmp u)], ty, pos, after, none⟩ :: rest) a w :=
  wpList_build rfl 87 _ rfl (by simp [hx, hy, hb]) (by simpa [hx, hy, hb] using h)
end
theorem RS.new4 {w : World} {p0 p1 p2 p3 : Int × Int} {T : TypeId} {m : Nat × Nat} {b : Nat} (hb : w.heap.size = b) : RS (w.alloc (.cells #[.int .i64 p0.1, .int .i64 p0.2, .int .i64 p1.1, .int .i64 p1.2, .int .i64 p2.1, .int .i64 p2.2, .int .i64 p3.1, .int .i64 p3.2] T m)) (b + 1) (some ⟨b, 0, none⟩) [p0, p1, p2, p3] := fun _ =>
  ⟨_, _, rfl, by omega, fun j p hp => by
    subst hb
    match j, hp with
    | 0, hp => simp at hp; subst hp; rw [cell_newest, cell_newest]; exact ⟨rfl, rfl⟩
    | 1, hp => simp at hp; subst hp; rw [cell_newest, cell_newest]; exact ⟨rfl, rfl⟩
    | 2, hp => simp at hp; subst hp; rw [cell_newest, cell_newest]; exact ⟨rfl, rfl⟩
    | 3, hp => simp at hp; subst hp; rw [cell_newest, cell_newest]; exact ⟨rfl, rfl⟩
    | j + 4, hp => simp at hp⟩

/-- The function K names these looks. -/
def Looks (K : FuncId) (caps : Array Value) (MS : Array Value) (L : List LO) (w : World) : Prop :=
  (∀ args W, Sem.run Try.prog (callFunc K args) W = Result.ok (Next.enter K args) W) ∧
  ∀ W, Below w.heap.size w W → Calls Try.prog K (#[.agg MS] ++ caps) W fun e w' => ∃ A c, e = .returned (.slice A L.length c) ∧ RL w' w'.heap.size A L ∧ Below W.heap.size W w'

section
variable (K : FuncId) (caps : Array Value) (r : RO) (a : AI) (L : List LO) (F : List (Int × Int)) (w : World) (AF : Option Addr) (cF : Nat) (CS MS : Array Value)

/-- The four boxes of ready. -/
structure RB4 (w W : World) (a : AI) (CS MS : Array Value) : Prop where
  r : BK W w.heap.size CS 27
  a : BK W (w.heap.size + 1) #[.int .i64 a.w.1, .int .i64 a.w.2, .int .i64 a.t.1, .int .i64 a.t.2, .int .i64 a.h.1, .int .i64 a.h.2, .int .i64 a.v.1, .int .i64 a.v.2] 36
  z : ∃ ZS : Array Value, ZS.size = 34 ∧ BK W (w.heap.size + 1 + 1) ZS 87
  m : BK W (w.heap.size + 1 + 1 + 1) MS 87
  b : Below w.heap.size w W
theorem RB4.next {w W W' : World} {a : AI} {CS MS : Array Value} (h : RB4 w W a CS MS) (hb : Below W.heap.size W W') : RB4 w W' a CS MS := by
  obtain ⟨h1, h2, ⟨ZS, hz, h3⟩, h4, h5⟩ := h
  exact ⟨h1.keep hb, h2.keep hb, ⟨ZS, hz, h3.keep hb⟩, h4.keep hb, h5.trans (hb.mono h5.size)⟩
theorem RB4.alloc {w W : World} {a : AI} {CS MS : Array Value} (h : RB4 w W a CS MS) (x : Obj) : RB4 w (W.alloc x) a CS MS := h.next ((Below.refl _ _).alloc (Nat.le_refl _) _)

set_option maxHeartbeats 4000000 in
theorem ready_any (rg : RG w r) (hc : CS = #[.slice r.h.ax r.h.X.length r.h.cx, .slice r.h.ay r.h.Y.length r.h.cy, .slice r.h.av r.h.V.length r.h.cv, .slice r.g.ax r.g.X.length r.g.cx, .slice r.g.ay r.g.Y.length r.g.cy, .slice r.g.av r.g.V.length r.g.cv, .slice r.l.ax r.l.X.length r.l.cx, .slice r.l.ay r.l.Y.length r.l.cy, .slice r.l.av r.l.V.length r.l.cv, .slice r.p.ax r.p.X.length r.p.cx, .slice r.p.ay r.p.Y.length r.p.cy, .slice r.p.av r.p.V.length r.p.cv, .slice r.n.ax r.n.X.length r.n.cx, .slice r.n.ay r.n.Y.length r.n.cy, .slice r.n.av r.n.V.length r.n.cv, .slice r.a.ax r.a.X.length r.a.cx, .slice r.a.ay r.a.Y.length r.a.cy, .slice r.a.av r.a.V.length r.a.cv, .slice r.b.ax r.b.X.length r.b.cx, .slice r.b.ay r.b.Y.length r.b.cy, .slice r.b.av r.b.V.length r.b.cv, .slice r.d.ax r.d.X.length r.d.cx, .slice r.d.ay r.d.Y.length r.d.cy, .slice r.d.av r.d.V.length r.d.cv, .int .i64 r.cl, .int .i64 r.bu]) (hm : MS = #[.slice r.h.ax r.h.X.length r.h.cx, .slice r.h.ay r.h.Y.length r.h.cy, .slice r.h.av r.h.V.length r.h.cv, .slice r.g.ax r.g.X.length r.g.cx, .slice r.g.ay r.g.Y.length r.g.cy, .slice r.g.av r.g.V.length r.g.cv, .slice r.l.ax r.l.X.length r.l.cx, .slice r.l.ay r.l.Y.length r.l.cy, .slice r.l.av r.l.V.length r.l.cv, .slice r.p.ax r.p.X.length r.p.cx, .slice r.p.ay r.p.Y.length r.p.cy, .slice r.p.av r.p.V.length r.p.cv, .slice r.n.ax r.n.X.length r.n.cx, .slice r.n.ay r.n.Y.length r.n.cy, .slice r.n.av r.n.V.length r.n.cv, .slice r.a.ax r.a.X.length r.a.cx, .slice r.a.ay r.a.Y.length r.a.cy, .slice r.a.av r.a.V.length r.a.cv, .slice r.b.ax r.b.X.length r.b.cx, .slice r.b.ay r.b.Y.length r.b.cy, .slice r.b.av r.b.V.length r.b.cv, .slice r.d.ax r.d.X.length r.d.cx, .slice r.d.ay r.d.Y.length r.d.cy, .slice r.d.av r.d.V.length r.d.cv, .int .i64 r.cl, .int .i64 r.bu, .int .i64 a.w.1, .int .i64 a.w.2, .int .i64 a.t.1, .int .i64 a.t.2, .int .i64 a.h.1, .int .i64 a.h.2, .int .i64 a.v.1, .int .i64 a.v.2]) (hF : RS w w.heap.size AF F) (hFl : F.length ≤ maxLen) (hLl : L.length ≤ 10) (hT : ∀ l ∈ L, TG w l.t) (hct : r.ok = true → ∀ l ∈ L, ctB l.t.X l.t.Y l.t.V = true)
    (eg : ∀ args W, Sem.run Try.prog (callFunc K args) W = Result.ok (Next.enter K args) W)
    (HK : r.ok = true → ∀ W, Below w.heap.size w W → Calls Try.prog K (#[.agg MS] ++ caps) W fun e w' => ∃ A c, e = .returned (.slice A L.length c) ∧ RL w' w'.heap.size A L ∧ Below W.heap.size W w') :
    Calls Try.prog 58 #[.agg CS, .agg #[.int .i64 a.w.1, .int .i64 a.w.2, .int .i64 a.t.1, .int .i64 a.t.2, .int .i64 a.h.1, .int .i64 a.h.2, .int .i64 a.v.1, .int .i64 a.v.2], .func (.func K) #[] caps, .slice AF F.length cF] w fun e w' => e = .returned (.tuple #[.agg MS, .int .i64 (redE r a L F)]) ∧ Below w.heap.size w w' := by
  have HCF := Lib.hid (fun (h : r.ok = false) (W : World) (hW : Below w.heap.size w W) => show Calls Try.prog 16 #[.agg CS] W fun e w' => e = .returned (.int .i64 20) ∧ Below W.heap.size W w' by
    have := rotcheck_any r W (rg.below hW)
    rw [show r.err = 20 by unfold RO.err; rw [h]; rfl, ← hc] at this
    exact this)
  have HCT := Lib.hid (fun (h : r.ok = true) (W : World) (hW : Below w.heap.size w W) => show Calls Try.prog 16 #[.agg CS] W fun e w' => e = .returned (.int .i64 0) ∧ Below W.heap.size W w' by
    have := rotcheck_any r W (rg.below hW)
    rw [show r.err = 0 by unfold RO.err; rw [h]; rfl, ← hc] at this
    exact this)
  have HSP := Lib.hid (fun (v : Bool) (h : a.ok = v) (W : World) (g : Nat) (hg : g < W.heap.size) (hr : RS W (g + 1) (some ⟨g, 0, none⟩) [a.w, a.t, a.h, a.v]) => show Calls Try.prog 98 #[.slice (some ⟨g, 0, none⟩) 4 4] W fun e w' => e = .returned (.bool v) ∧ Below W.heap.size W w' by
    have := checkSpans_any (some ⟨g, 0, none⟩) 4 4 (g + 1) [a.w, a.t, a.h, a.v] W rfl (le_maxLen (by omega)) hg hr
    rw [show [a.w, a.t, a.h, a.v].all vS = v from h] at this
    exact this)
  have HFS := Lib.hid (fun (v : Bool) (h : F.all vS = v) (W : World) (hW : Below w.heap.size w W) => show Calls Try.prog 98 #[.slice AF F.length cF] W fun e w' => e = .returned (.bool v) ∧ Below W.heap.size W w' by
    have := checkSpans_any AF F.length cF W.heap.size F W rfl hFl (Nat.le_refl _) ((hF.below hW).more hW.size)
    rw [h] at this
    exact this)
  have HLI := Lib.hid (fun (h : r.ok = true) (l : LO) (hl : l ∈ L) (v : Bool) (hv : l.on = v) (W : World) (hW : Below w.heap.size w W) => show Calls Try.prog 110 #[.agg #[.slice l.t.ax l.t.X.length l.t.cx, .slice l.t.ay l.t.Y.length l.t.cy, .slice l.t.av l.t.V.length l.t.cv, .int .i64 l.x.1, .int .i64 l.x.2, .int .i64 l.y.1, .int .i64 l.y.2]] W fun e w' => e = .returned (.bool v) ∧ Below W.heap.size W w' by
    obtain ⟨q1, q2, q3, q4⟩ := ctB_len (hct h l hl)
    have := lies_any l W ((hT l hl).below hW) ⟨by omega, by omega⟩ ⟨by omega, by omega⟩
    rw [hv] at this
    exact this)
  have HKK := Lib.hid HK
  obtain ⟨E, hE⟩ : ∃ E, redE r a L F = E := ⟨_, rfl⟩
  rw [hE]
  have HE := Lib.hid hE
  clear hE
  have HBM := Lib.hid (show Try.prog.built 87 [(0, .agg CS), (1, .agg #[.int .i64 a.w.1, .int .i64 a.w.2, .int .i64 a.t.1, .int .i64 a.t.2, .int .i64 a.h.1, .int .i64 a.h.2, .int .i64 a.v.1, .int .i64 a.v.2])] = some MS by rw [hc, hm]; exact built_M r a)
  have HSZ := Lib.hid (show CS.size = 26 by rw [hc]; rfl)
  have HMZ := Lib.hid (show MS.size = 34 by rw [hm]; rfl)
  have HMO := Lib.hid (show MS.all (·.oneCell') = true by rw [hm]; simp [Value.oneCell'])
  have X1 := Lib.hid (((BK.new (w := w) (cs := CS) (T := 27)).old (x := .cells #[.int .i64 a.w.1, .int .i64 a.w.2, .int .i64 a.t.1, .int .i64 a.t.2, .int .i64 a.h.1, .int .i64 a.h.2, .int .i64 a.v.1, .int .i64 a.v.2] 36)).old (x := .cells #[.slice none 0 0, .slice none 0 0, .slice none 0 0, .slice none 0 0, .slice none 0 0, .slice none 0 0, .slice none 0 0, .slice none 0 0, .slice none 0 0, .slice none 0 0, .slice none 0 0, .slice none 0 0, .slice none 0 0, .slice none 0 0, .slice none 0 0, .slice none 0 0, .slice none 0 0, .slice none 0 0, .slice none 0 0, .slice none 0 0, .slice none 0 0, .slice none 0 0, .slice none 0 0, .slice none 0 0, .int .i64 0, .int .i64 0, .int .i64 0, .int .i64 0, .int .i64 0, .int .i64 0, .int .i64 0, .int .i64 0, .int .i64 0, .int .i64 0] 87))
  have Y1 := Lib.hid (X1.out.old (x := .cells #[.slice none 0 0, .slice none 0 0, .slice none 0 0, .slice none 0 0, .slice none 0 0, .slice none 0 0, .slice none 0 0, .slice none 0 0, .slice none 0 0, .slice none 0 0, .slice none 0 0, .slice none 0 0, .slice none 0 0, .slice none 0 0, .slice none 0 0, .slice none 0 0, .slice none 0 0, .slice none 0 0, .slice none 0 0, .slice none 0 0, .slice none 0 0, .slice none 0 0, .slice none 0 0, .slice none 0 0, .int .i64 0, .int .i64 0, .int .i64 0, .int .i64 0, .int .i64 0, .int .i64 0, .int .i64 0, .int .i64 0, .int .i64 0, .int .i64 0] 87))
  have Z2 := Lib.hid ((BK.newg (w := w.alloc (.cells CS 27)) (g := w.heap.size + 1) (cs := #[.int .i64 a.w.1, .int .i64 a.w.2, .int .i64 a.t.1, .int .i64 a.t.2, .int .i64 a.h.1, .int .i64 a.h.2, .int .i64 a.v.1, .int .i64 a.v.2]) (T := 36) (by simp)).old (x := .cells #[.slice none 0 0, .slice none 0 0, .slice none 0 0, .slice none 0 0, .slice none 0 0, .slice none 0 0, .slice none 0 0, .slice none 0 0, .slice none 0 0, .slice none 0 0, .slice none 0 0, .slice none 0 0, .slice none 0 0, .slice none 0 0, .slice none 0 0, .slice none 0 0, .slice none 0 0, .slice none 0 0, .slice none 0 0, .slice none 0 0, .slice none 0 0, .slice none 0 0, .slice none 0 0, .slice none 0 0, .int .i64 0, .int .i64 0, .int .i64 0, .int .i64 0, .int .i64 0, .int .i64 0, .int .i64 0, .int .i64 0, .int .i64 0, .int .i64 0] 87))
  have Y2 := Lib.hid (((BK.newg (w := w.alloc (.cells CS 27)) (g := w.heap.size + 1) (cs := #[.int .i64 a.w.1, .int .i64 a.w.2, .int .i64 a.t.1, .int .i64 a.t.2, .int .i64 a.h.1, .int .i64 a.h.2, .int .i64 a.v.1, .int .i64 a.v.2]) (T := 36) (by simp)).old (x := .cells #[.slice none 0 0, .slice none 0 0, .slice none 0 0, .slice none 0 0, .slice none 0 0, .slice none 0 0, .slice none 0 0, .slice none 0 0, .slice none 0 0, .slice none 0 0, .slice none 0 0, .slice none 0 0, .slice none 0 0, .slice none 0 0, .slice none 0 0, .slice none 0 0, .slice none 0 0, .slice none 0 0, .slice none 0 0, .slice none 0 0, .slice none 0 0, .slice none 0 0, .slice none 0 0, .slice none 0 0, .int .i64 0, .int .i64 0, .int .i64 0, .int .i64 0, .int .i64 0, .int .i64 0, .int .i64 0, .int .i64 0, .int .i64 0, .int .i64 0] 87)).old (x := .cells #[.slice none 0 0, .slice none 0 0, .slice none 0 0, .slice none 0 0, .slice none 0 0, .slice none 0 0, .slice none 0 0, .slice none 0 0, .slice none 0 0, .slice none 0 0, .slice none 0 0, .slice none 0 0, .slice none 0 0, .slice none 0 0, .slice none 0 0, .slice none 0 0, .slice none 0 0, .slice none 0 0, .slice none 0 0, .slice none 0 0, .slice none 0 0, .slice none 0 0, .slice none 0 0, .slice none 0 0, .int .i64 0, .int .i64 0, .int .i64 0, .int .i64 0, .int .i64 0, .int .i64 0, .int .i64 0, .int .i64 0, .int .i64 0, .int .i64 0] 87))
  have Y3 := Lib.hid ((BK.newg (w := (w.alloc (.cells CS 27)).alloc (.cells #[.int .i64 a.w.1, .int .i64 a.w.2, .int .i64 a.t.1, .int .i64 a.t.2, .int .i64 a.h.1, .int .i64 a.h.2, .int .i64 a.v.1, .int .i64 a.v.2] 36)) (g := w.heap.size + 1 + 1) (cs := #[.slice none 0 0, .slice none 0 0, .slice none 0 0, .slice none 0 0, .slice none 0 0, .slice none 0 0, .slice none 0 0, .slice none 0 0, .slice none 0 0, .slice none 0 0, .slice none 0 0, .slice none 0 0, .slice none 0 0, .slice none 0 0, .slice none 0 0, .slice none 0 0, .slice none 0 0, .slice none 0 0, .slice none 0 0, .slice none 0 0, .slice none 0 0, .slice none 0 0, .slice none 0 0, .slice none 0 0, .int .i64 0, .int .i64 0, .int .i64 0, .int .i64 0, .int .i64 0, .int .i64 0, .int .i64 0, .int .i64 0, .int .i64 0, .int .i64 0]) (T := 87) (by simp)).old (x := .cells #[.slice none 0 0, .slice none 0 0, .slice none 0 0, .slice none 0 0, .slice none 0 0, .slice none 0 0, .slice none 0 0, .slice none 0 0, .slice none 0 0, .slice none 0 0, .slice none 0 0, .slice none 0 0, .slice none 0 0, .slice none 0 0, .slice none 0 0, .slice none 0 0, .slice none 0 0, .slice none 0 0, .slice none 0 0, .slice none 0 0, .slice none 0 0, .slice none 0 0, .slice none 0 0, .slice none 0 0, .int .i64 0, .int .i64 0, .int .i64 0, .int .i64 0, .int .i64 0, .int .i64 0, .int .i64 0, .int .i64 0, .int .i64 0, .int .i64 0] 87))
  have Y4 := Lib.hid (BK.newg (w := (((w.alloc (.cells CS 27)).alloc (.cells #[.int .i64 a.w.1, .int .i64 a.w.2, .int .i64 a.t.1, .int .i64 a.t.2, .int .i64 a.h.1, .int .i64 a.h.2, .int .i64 a.v.1, .int .i64 a.v.2] 36)).alloc (.cells #[.slice none 0 0, .slice none 0 0, .slice none 0 0, .slice none 0 0, .slice none 0 0, .slice none 0 0, .slice none 0 0, .slice none 0 0, .slice none 0 0, .slice none 0 0, .slice none 0 0, .slice none 0 0, .slice none 0 0, .slice none 0 0, .slice none 0 0, .slice none 0 0, .slice none 0 0, .slice none 0 0, .slice none 0 0, .slice none 0 0, .slice none 0 0, .slice none 0 0, .slice none 0 0, .slice none 0 0, .int .i64 0, .int .i64 0, .int .i64 0, .int .i64 0, .int .i64 0, .int .i64 0, .int .i64 0, .int .i64 0, .int .i64 0, .int .i64 0] 87))) (g := w.heap.size + 1 + 1 + 1) (cs := #[.slice none 0 0, .slice none 0 0, .slice none 0 0, .slice none 0 0, .slice none 0 0, .slice none 0 0, .slice none 0 0, .slice none 0 0, .slice none 0 0, .slice none 0 0, .slice none 0 0, .slice none 0 0, .slice none 0 0, .slice none 0 0, .slice none 0 0, .slice none 0 0, .slice none 0 0, .slice none 0 0, .slice none 0 0, .slice none 0 0, .slice none 0 0, .slice none 0 0, .slice none 0 0, .slice none 0 0, .int .i64 0, .int .i64 0, .int .i64 0, .int .i64 0, .int .i64 0, .int .i64 0, .int .i64 0, .int .i64 0, .int .i64 0, .int .i64 0]) (T := 87) (by simp))
  clear rg hc hm hF hFl hT hct HK
  go_enter Try.func58, Try.ntmps58
  go_upto_region 2 with (first
    | ((with_reducible refine ldR X1.out HSZ.out ?_ ?_); rfl)
    | ((with_reducible refine ldA Z2.out ?_ ?_ ?_); rfl; rfl)
    | ((with_reducible refine bdM HBM.out ?_ ?_ ?_); rfl; rfl)
    | ((with_reducible refine stM Y4.out ?_ ?_ ?_ HMZ.out HMO.out ?_); rfl; rfl; rfl))
  obtain ⟨W0, hW0⟩ : ∃ W, ((((w.alloc (.cells CS 27)).alloc (.cells #[.int .i64 a.w.1, .int .i64 a.w.2, .int .i64 a.t.1, .int .i64 a.t.2, .int .i64 a.h.1, .int .i64 a.h.2, .int .i64 a.v.1, .int .i64 a.v.2] 36)).alloc (.cells #[.slice none 0 0, .slice none 0 0, .slice none 0 0, .slice none 0 0, .slice none 0 0, .slice none 0 0, .slice none 0 0, .slice none 0 0, .slice none 0 0, .slice none 0 0, .slice none 0 0, .slice none 0 0, .slice none 0 0, .slice none 0 0, .slice none 0 0, .slice none 0 0, .slice none 0 0, .slice none 0 0, .slice none 0 0, .slice none 0 0, .slice none 0 0, .slice none 0 0, .slice none 0 0, .slice none 0 0, .int .i64 0, .int .i64 0, .int .i64 0, .int .i64 0, .int .i64 0, .int .i64 0, .int .i64 0, .int .i64 0, .int .i64 0, .int .i64 0] 87)).alloc (.cells #[.slice none 0 0, .slice none 0 0, .slice none 0 0, .slice none 0 0, .slice none 0 0, .slice none 0 0, .slice none 0 0, .slice none 0 0, .slice none 0 0, .slice none 0 0, .slice none 0 0, .slice none 0 0, .slice none 0 0, .slice none 0 0, .slice none 0 0, .slice none 0 0, .slice none 0 0, .slice none 0 0, .slice none 0 0, .slice none 0 0, .slice none 0 0, .slice none 0 0, .slice none 0 0, .slice none 0 0, .int .i64 0, .int .i64 0, .int .i64 0, .int .i64 0, .int .i64 0, .int .i64 0, .int .i64 0, .int .i64 0, .int .i64 0, .int .i64 0] 87)).setRow (w.heap.size + 1 + 1 + 1) MS = W := ⟨_, rfl⟩
  rw [hW0]
  have R0 : RB4 w W0 a CS MS := by
    rw [← hW0]
    exact ⟨Y1.out.rowO (by omega), Y2.out.rowO (by omega), ⟨_, by rfl, Y3.out.rowO (by omega)⟩, Y4.out.row, below_setRow (by go_grown) (by omega) _⟩
  have HR0 := Lib.hid R0
  clear R0 hW0 X1 Z2 Y1 Y2 Y3 Y4 HBM
  cases h1 : r.ok with
  | false =>
    have H1 := Lib.hid h1
    clear h1
    go_wp2_with (first
      | ((with_reducible refine ldR HR0.out.r HSZ.out ?_ ?_); rfl)
      | (go_at_call 16; refine Calls.mono (HCF.out H1.out _ HR0.out.b) ?_; rintro e w1 ⟨rfl, hb1⟩; have HR1 := Lib.hid (HR0.out.next hb1); obtain ⟨ZS, hzs, KZ⟩ := HR1.out.z; have HZ := Lib.hid (And.intro hzs KZ); clear hb1 hzs KZ)
      | ((with_reducible refine ldM HR1.out.m HMZ.out ?_ ?_); rfl)
      | ((with_reducible refine stM HZ.out.2 HZ.out.1 ?_ ?_ HMZ.out HMO.out ?_); rfl; rfl))
    go_simp
    refine bodyPost_ret (v := .tuple #[.agg MS, .int .i64 20]) (revM Try.results58 (by rfl) (by rfl) HZ.out.2.row HMZ.out) rfl ?_
    exact ⟨by rw [← HE.out]; unfold redE; rw [H1.out]; rfl, below_setRow HR1.out.b (by omega) _⟩
  | true =>
  have H1 := Lib.hid h1
  clear h1 HCF
  cases h2 : a.ok with
  | false =>
    have H2 := Lib.hid h2
    clear h2
    go_wp2_with (first
      | ((with_reducible refine ldR HR0.out.r HSZ.out ?_ ?_); rfl)
      | (go_at_call 16; refine Calls.mono (HCT.out H1.out _ HR0.out.b) ?_; rintro e w1 ⟨rfl, hb1⟩; have HR1 := Lib.hid (HR0.out.next hb1); have c1 := HR1.out.a.cell; have l1 := HR1.out.a.lt; clear hb1)
      | (go_at_call 98; refine Calls.mono (HSP.out false H2.out _ _ (by simp) (RS.new4 (by simp))) ?_; rintro e w2 ⟨rfl, hb2⟩; have HR2 := Lib.hid ((HR1.out.alloc _).next hb2); obtain ⟨ZS, hzs, KZ⟩ := HR2.out.z; have HZ := Lib.hid (And.intro hzs KZ); clear hb2 hzs KZ c1 l1)
      | ((with_reducible refine ldM HR2.out.m HMZ.out ?_ ?_); rfl)
      | ((with_reducible refine stM HZ.out.2 HZ.out.1 ?_ ?_ HMZ.out HMO.out ?_); rfl; rfl))
    go_simp
    refine bodyPost_ret (v := .tuple #[.agg MS, .int .i64 21]) (revM Try.results58 (by rfl) (by rfl) HZ.out.2.row HMZ.out) rfl ?_
    exact ⟨by rw [← HE.out]; unfold redE; rw [H1.out, H2.out]; rfl, below_setRow HR2.out.b (by omega) _⟩
  | true =>
  have H2 := Lib.hid h2
  clear h2
  cases h3 : F.all vS with
  | false =>
    have H3 := Lib.hid h3
    clear h3
    go_wp2_with (first
      | ((with_reducible refine ldR HR0.out.r HSZ.out ?_ ?_); rfl)
      | (go_at_call 16; refine Calls.mono (HCT.out H1.out _ HR0.out.b) ?_; rintro e w1 ⟨rfl, hb1⟩; have HR1 := Lib.hid (HR0.out.next hb1); have c1 := HR1.out.a.cell; have l1 := HR1.out.a.lt; clear hb1)
      | (go_at_call_of 98 (Value.slice AF F.length cF); refine Calls.mono (HFS.out false H3.out _ HR2.out.b) ?_; rintro e w3 ⟨rfl, hb3⟩; have HR3 := Lib.hid (HR2.out.next hb3); obtain ⟨ZS, hzs, KZ⟩ := HR3.out.z; have HZ := Lib.hid (And.intro hzs KZ); clear hb3 hzs KZ)
      | (go_at_call 98; refine Calls.mono (HSP.out true H2.out _ _ (by simp) (RS.new4 (by simp))) ?_; rintro e w2 ⟨rfl, hb2⟩; have HR2 := Lib.hid ((HR1.out.alloc _).next hb2); clear hb2 c1 l1)
      | ((with_reducible refine ldM HR3.out.m HMZ.out ?_ ?_); rfl)
      | ((with_reducible refine stM HZ.out.2 HZ.out.1 ?_ ?_ HMZ.out HMO.out ?_); rfl; rfl))
    go_simp
    refine bodyPost_ret (v := .tuple #[.agg MS, .int .i64 1]) (revM Try.results58 (by rfl) (by rfl) HZ.out.2.row HMZ.out) rfl ?_
    exact ⟨by rw [← HE.out]; unfold redE; rw [H1.out, H2.out, H3.out]; rfl, below_setRow HR3.out.b (by omega) _⟩
  | true =>
    have H3 := Lib.hid h3
    clear h3
    go_wp2_with (first
      | ((with_reducible refine ldR HR0.out.r HSZ.out ?_ ?_); rfl)
      | (go_at_call 16; refine Calls.mono (HCT.out H1.out _ HR0.out.b) ?_; rintro e w1 ⟨rfl, hb1⟩; have HR1 := Lib.hid (HR0.out.next hb1); have c1 := HR1.out.a.cell; have l1 := HR1.out.a.lt; clear hb1)
      | (go_at_call_of 98 (Value.slice AF F.length cF); refine Calls.mono (HFS.out true H3.out _ HR2.out.b) ?_; rintro e w3 ⟨rfl, hb3⟩; have HR3 := Lib.hid (HR2.out.next hb3); clear hb3)
      | (go_at_call 98; refine Calls.mono (HSP.out true H2.out _ _ (by simp) (RS.new4 (by simp))) ?_; rintro e w2 ⟨rfl, hb2⟩; have HR2 := Lib.hid ((HR1.out.alloc _).next hb2); clear hb2 c1 l1)
      | ((with_reducible refine ldM HR3.out.m HMZ.out ?_ ?_); rfl)
      | (refine Calls.mono (HKK.out H1.out _ HR3.out.b) ?_; rintro e w4 ⟨A4, c4, rfl, hrl, hb4⟩; have HR4 := Lib.hid (HR3.out.next hb4); have HRL := Lib.hid hrl; clear hb4 hrl))
    go_loopw [43] (fun i wr => ∃ k : Nat, k ≤ L.length ∧ i = .int .i64 k ∧ (L.take k).all LO.on = true ∧ RB4 w wr a CS MS ∧ Below w4.heap.size w4 wr) (fun i _ => L.length - (intOf i).toNat)
    case atStart => exact ⟨0, by omega, rfl, by simp, HR4.out, Below.refl _ _⟩
    case round =>
      obtain ⟨k, hk, rfl, hw, hR, hbw⟩ := hrel
      have HW := Lib.hid hw
      have HRW := Lib.hid hR
      have HBW := Lib.hid hbw
      clear hw hR hbw
      by_cases hlt : k < L.length
      · obtain ⟨b, off, l, rfl, hb, hl, c0, c1, c2, c3, c4', c5, c6⟩ := (HRL.out.below HBW.out).at_ hlt
        have hb' : b < wr.heap.size := World.block_lt_of_cell? _ _ c0
        have HL := Lib.hid hl
        clear hl hb
        cases hv : l.on with
        | true =>
          have HLL := Lib.hid (HLI.out H1.out l (List.mem_of_getElem? HL.out) true hv)
          go_wp2_with (go_at_call 110; refine Calls.mono (HLL.out _ (HRW.out.alloc _).b) ?_; rintro e w5 ⟨rfl, hb5⟩; have HR5 := Lib.hid ((HRW.out.alloc _).next hb5); have HB5 := Lib.hid ((HBW.out.alloc HBW.out.size _).trans (hb5.mono (by simp; have := HBW.out.size; omega))); clear hb5)
          go_roundw
          case rel => exact ⟨k + 1, by omega, by go_num, by rw [List.take_add_one, HL.out]; simp only [Option.toList_some, List.all_append, HW.out, List.all_cons, hv, List.all_nil, Bool.and_true], HR5.out, HB5.out⟩
          case measure => simp [intOf]; omega
        | false =>
          have HLL := Lib.hid (HLI.out H1.out l (List.mem_of_getElem? HL.out) false hv)
          go_wp2_with (first
            | (go_at_call 110; refine Calls.mono (HLL.out _ (HRW.out.alloc _).b) ?_; rintro e w5 ⟨rfl, hb5⟩; have HR5 := Lib.hid ((HRW.out.alloc _).next hb5); obtain ⟨ZS, hzs, KZ⟩ := HR5.out.z; have HZ := Lib.hid (And.intro hzs KZ); clear hb5 hzs KZ)
            | ((with_reducible refine ldM HR5.out.m HMZ.out ?_ ?_); rfl)
            | ((with_reducible refine stM HZ.out.2 HZ.out.1 ?_ ?_ HMZ.out HMO.out ?_); rfl; rfl))
          go_simp
          refine bodyPost_ret (v := .tuple #[.agg MS, .int .i64 1]) (revM Try.results58 (by rfl) (by rfl) HZ.out.2.row HMZ.out) rfl ?_
          exact ⟨by rw [← HE.out]; unfold redE; rw [H1.out, H2.out, H3.out, show L.all LO.on = false from List.all_eq_false.2 ⟨l, List.mem_of_getElem? HL.out, by simp [hv]⟩]; rfl, below_setRow HR5.out.b (by omega) _⟩
      · obtain ⟨ZS, hzs, KZ⟩ := HRW.out.z
        have HZ := Lib.hid (And.intro hzs KZ)
        clear hzs KZ
        go_wp2_with (first
          | ((with_reducible refine ldM HRW.out.m HMZ.out ?_ ?_); rfl)
          | ((with_reducible refine stM HZ.out.2 HZ.out.1 ?_ ?_ HMZ.out HMO.out ?_); rfl; rfl))
        go_simp
        refine bodyPost_ret (v := .tuple #[.agg MS, .int .i64 0]) (revM Try.results58 (by rfl) (by rfl) HZ.out.2.row HMZ.out) rfl ?_
        exact ⟨by rw [← HE.out]; unfold redE; rw [H1.out, H2.out, H3.out, show L.all LO.on = true by have := HW.out; rwa [List.take_of_length_le (by omega)] at this]; rfl, below_setRow HRW.out.b (by omega) _⟩
end
end Go.Proofs.Ythhokiigdgpmcaa

/- The closures that name looks. -/
namespace Go.Proofs.Ythhokiigdgpmcaa
open Go.RowKit

set_option maxRecDepth 100000
/-- A value that reads as a slice of looks. -/
def QL2 (L : List LO) (v : Value) (W : World) : Prop := ∃ A c, v = .slice A L.length c ∧ RL W W.heap.size A L
theorem QL2.stay {L : List LO} {v : Value} {W W' : World} (h : QL2 L v W) (hb : Below W.heap.size W W') : QL2 L v W' := by
  obtain ⟨A, c, e, h⟩ := h
  exact ⟨A, c, e, (h.below hb).more hb.size⟩
theorem needs1_any (r : RO) (a : AI) (MS : Array Value) (hm : MS = #[.slice r.h.ax r.h.X.length r.h.cx, .slice r.h.ay r.h.Y.length r.h.cy, .slice r.h.av r.h.V.length r.h.cv, .slice r.g.ax r.g.X.length r.g.cx, .slice r.g.ay r.g.Y.length r.g.cy, .slice r.g.av r.g.V.length r.g.cv, .slice r.l.ax r.l.X.length r.l.cx, .slice r.l.ay r.l.Y.length r.l.cy, .slice r.l.av r.l.V.length r.l.cv, .slice r.p.ax r.p.X.length r.p.cx, .slice r.p.ay r.p.Y.length r.p.cy, .slice r.p.av r.p.V.length r.p.cv, .slice r.n.ax r.n.X.length r.n.cx, .slice r.n.ay r.n.Y.length r.n.cy, .slice r.n.av r.n.V.length r.n.cv, .slice r.a.ax r.a.X.length r.a.cx, .slice r.a.ay r.a.Y.length r.a.cy, .slice r.a.av r.a.V.length r.a.cv, .slice r.b.ax r.b.X.length r.b.cx, .slice r.b.ay r.b.Y.length r.b.cy, .slice r.b.av r.b.V.length r.b.cv, .slice r.d.ax r.d.X.length r.d.cx, .slice r.d.ay r.d.Y.length r.d.cy, .slice r.d.av r.d.V.length r.d.cv, .int .i64 r.cl, .int .i64 r.bu, .int .i64 a.w.1, .int .i64 a.w.2, .int .i64 a.t.1, .int .i64 a.t.2, .int .i64 a.h.1, .int .i64 a.h.2, .int .i64 a.v.1, .int .i64 a.v.2]) (s : Int × Int) (gs : Nat) (w : World) (h0 : w.cell? ⟨gs, 0, none⟩ = some (.int .i64 s.1)) (h1 : w.cell? ⟨gs, 1, none⟩ = some (.int .i64 s.2)) :
    Calls Try.prog 59 #[.agg MS, .pointer (some ⟨gs, 0, none⟩)] w fun e w' => ∃ v, e = .returned v ∧ QL2 [loH r a, loG r a s] v w' ∧ Below w.heap.size w w' := by
  have Hh := Lib.hid (fun (W : World) => show Calls Try.prog 60 #[.agg MS] W fun e w' => e = .returned (.agg #[.slice r.h.ax r.h.X.length r.h.cx, .slice r.h.ay r.h.Y.length r.h.cy, .slice r.h.av r.h.V.length r.h.cv, .int .i64 a.w.1, .int .i64 a.w.2, .int .i64 a.t.1, .int .i64 a.t.2]) ∧ Below W.heap.size W w' by rw [hm]; exact hover_any r a W)
  have Hg := Lib.hid (fun (W : World) => show Calls Try.prog 61 #[.agg MS, .agg #[.int .i64 s.1, .int .i64 s.2]] W fun e w' => e = .returned (.agg #[.slice r.g.ax r.g.X.length r.g.cx, .slice r.g.ay r.g.Y.length r.g.cy, .slice r.g.av r.g.V.length r.g.cv, .int .i64 s.1, .int .i64 s.2, .int .i64 a.v.1, .int .i64 a.v.2]) ∧ Below W.heap.size W w' by rw [hm]; exact ground_any r a s W)
  have HMZ := Lib.hid (show MS.size = 34 by rw [hm]; rfl)
  have X1 := Lib.hid (BK.new (w := w) (cs := MS) (T := 87))
  have hlt : gs < w.heap.size := World.block_lt_of_cell? _ _ h0
  have g0 : (w.alloc (.cells MS 87)).cell? ⟨gs, 0, none⟩ = some (.int .i64 s.1) := cell_keep ((Below.refl _ _).alloc (Nat.le_refl _) _) h0
  have g1 : (w.alloc (.cells MS 87)).cell? ⟨gs, 1, none⟩ = some (.int .i64 s.2) := cell_keep ((Below.refl _ _).alloc (Nat.le_refl _) _) h1
  have HB := Lib.hid (show Below w.heap.size w (w.alloc (.cells MS 87)) by go_grown)
  clear hm h0 h1
  go_enter Try.func59, Try.ntmps59
  go_upto_region 1 with fail
  generalize w.alloc (.cells MS 87) = W1 at *
  obtain ⟨Qa, hQa⟩ : ∃ q9 : Nat → Value → World → Prop, q9 = QG [some (.agg MS), some (.agg #[.slice r.h.ax r.h.X.length r.h.cx, .slice r.h.ay r.h.Y.length r.h.cy, .slice r.h.av r.h.V.length r.h.cv, .int .i64 a.w.1, .int .i64 a.w.2, .int .i64 a.t.1, .int .i64 a.t.2]), some (.agg MS), some (.agg #[.int .i64 s.1, .int .i64 s.2]), some (.agg #[.slice r.g.ax r.g.X.length r.g.cx, .slice r.g.ay r.g.Y.length r.g.cy, .slice r.g.av r.g.V.length r.g.cv, .int .i64 s.1, .int .i64 s.2, .int .i64 a.v.1, .int .i64 a.v.2]), none, none] (fun j0' v0' w0' => (j0' = 5 → QL2 [loH r a, loG r a s] v0' w0') ∧ (j0' = 6 → QL2 [loH r a, loG r a s] v0' w0')) := ⟨_, rfl⟩
  have hst : Stays Qa := by rw [hQa]; exact QG.stays (fun j v W W' h hb => ⟨fun e => (h.1 e).stay hb, fun e => (h.2 e).stay hb⟩)
  have Ua5 := Lib.hid (show ∀ v0' w0', Qa 5 v0' w0' ↔ QL2 [loH r a, loG r a s] v0' w0' from fun v0' w0' => by rw [hQa]; exact ⟨fun h => h.1 rfl, fun h => ⟨fun _ => h, fun e => absurd e (by decide)⟩⟩)
  have Ua6 := Lib.hid (show ∀ v0' w0', Qa 6 v0' w0' ↔ QL2 [loH r a, loG r a s] v0' w0' from fun v0' w0' => by rw [hQa]; exact ⟨fun h => h.2 rfl, fun h => ⟨fun e => absurd e (by decide), fun _ => h⟩⟩)
  have HQa := Lib.hid hQa
  clear hQa
  refine wpIn_wide.1 (region_inv2 (n := 9) (by kernel_rfl) (RQ Qa W1) (by kernel_rfl) rfl (RQ.start _ _ _) ?hstepa ?henda)
  case hstepa =>
    intro i' o ho val L b' x hF hR hpre hl
    match i', ho with
    | 0, ho =>
      simp at ho; subst ho; refine step_plain rfl ?_; have e2 := hF.was 2 (by kernel_rfl) rfl; have hgoal := hR.go hst HQa 0 rfl
      exact inM (X1.out.keep hR.1) HMZ.out (e2.trans rfl) ⟨_, rfl, hgoal _ _ (Below.refl _ _) rfl⟩
    | 1, ho =>
      simp at ho; subst ho; refine step_plain rfl ?_; have e4 := hF.gv hR.2 HQa 0 rfl (hpre ⟨0, .data⟩ (by simp) rfl) rfl; have hgoal := hR.go hst HQa 1 rfl
      have hM := Lib.hid hR.1
      clear hF hpre hl hR; go_simp
      refine ⟨trivial, ?_⟩
      refine CallsIn.mono (callsIn_wide.2 (Hh.out _)) ?_
      rintro e w9 ⟨rfl, hb9⟩
      exact ⟨_, rfl, hgoal _ _ hb9 rfl⟩
    | 2, ho =>
      simp at ho; subst ho; refine step_plain rfl ?_; have e2 := hF.was 2 (by kernel_rfl) rfl; have hgoal := hR.go hst HQa 2 rfl
      exact inM (X1.out.keep hR.1) HMZ.out (e2.trans rfl) ⟨_, rfl, hgoal _ _ (Below.refl _ _) rfl⟩
    | 3, ho =>
      simp at ho; subst ho; refine step_plain rfl ?_; have e1 := hF.was 1 (by kernel_rfl) rfl; have hgoal := hR.go hst HQa 3 rfl; have q0 := cell_keep hR.1 g0; have q1 := cell_keep hR.1 g1; clear hF hpre hl hR; go_simp; exact ⟨_, rfl, hgoal _ _ (Below.refl _ _) rfl⟩
    | 4, ho =>
      simp at ho; subst ho; refine step_plain rfl ?_; have e6 := hF.gv hR.2 HQa 2 rfl (hpre ⟨2, .data⟩ (by simp) rfl) rfl; have e7 := hF.gv hR.2 HQa 3 rfl (hpre ⟨3, .data⟩ (by simp) rfl) rfl; have hgoal := hR.go hst HQa 4 rfl
      have hM := Lib.hid hR.1
      clear hF hpre hl hR; go_simp
      refine ⟨trivial, ?_⟩
      refine CallsIn.mono (callsIn_wide.2 (Hg.out _)) ?_
      rintro e w9 ⟨rfl, hb9⟩
      exact ⟨_, rfl, hgoal _ _ hb9 rfl⟩
    | 5, ho =>
      simp at ho; subst ho; refine step_plain rfl ?_; have e5 := hF.gv hR.2 HQa 1 rfl (hpre ⟨1, .data⟩ (by simp) rfl) rfl; have e8 := hF.gv hR.2 HQa 4 rfl (hpre ⟨4, .data⟩ (by simp) rfl) rfl
      have hgoal : ∀ v0' w0', Below x.heap.size x w0' → QL2 [loH r a, loG r a s] v0' w0' → RQ Qa W1 (upd val 5 v0') (L.setIfInBounds 5 true) w0' := fun v0' w0' hb hq => hR.step hst hb ((Ua5.out _ _).2 hq)
      have hM := Lib.hid hR.1
      clear hF hpre hl hR; go_simp; exact ⟨_, rfl, hgoal _ _ ((Below.refl _ _).alloc (Nat.le_refl _) _) ⟨_, _, rfl, (RL.new2 rfl).more (by simp)⟩⟩
    | 6, ho =>
      simp at ho; subst ho; refine step_plain rfl ?_; have e9 := hF.gave 5 rfl (hpre ⟨5, .data⟩ (by simp) rfl) rfl
      have v5 := (Ua5.out _ _).1 (hR.2 5 (hpre ⟨5, .data⟩ (by simp) rfl))
      have hgoal : ∀ v0' w0', Below x.heap.size x w0' → QL2 [loH r a, loG r a s] v0' w0' → RQ Qa W1 (upd val 6 v0') (L.setIfInBounds 6 true) w0' := fun v0' w0' hb hq => hR.step hst hb ((Ua6.out _ _).2 hq)
      have hM := Lib.hid hR.1
      clear hF hpre hl hR; go_simp; exact ⟨_, rfl, hgoal _ _ (Below.refl _ _) v5⟩
    | i + 7, ho => simp at ho
  case henda =>
    intro val L b' x hF hall hR
    have e := hF.all (by kernel_rfl) hall
    have ka6 := (Ua6.out _ _).1 (hR.2 6 (hall 6 (by decide)))
    have hBa := Lib.hid hR.1
    clear hF hall hR hst HQa Ua5 Ua6
    subst e
    simp [final, dstOf, List.range, List.range.loop]
    go_wp2
    exact bodyPost_ret (v := val 6) (by simp [results, Try.results59, go_sem]) rfl ⟨_, rfl, ka6, HB.out.trans (hBa.out.mono HB.out.size)⟩
theorem hovering1_any (r : RO) (a : AI) (MS : Array Value) (hm : MS = #[.slice r.h.ax r.h.X.length r.h.cx, .slice r.h.ay r.h.Y.length r.h.cy, .slice r.h.av r.h.V.length r.h.cv, .slice r.g.ax r.g.X.length r.g.cx, .slice r.g.ay r.g.Y.length r.g.cy, .slice r.g.av r.g.V.length r.g.cv, .slice r.l.ax r.l.X.length r.l.cx, .slice r.l.ay r.l.Y.length r.l.cy, .slice r.l.av r.l.V.length r.l.cv, .slice r.p.ax r.p.X.length r.p.cx, .slice r.p.ay r.p.Y.length r.p.cy, .slice r.p.av r.p.V.length r.p.cv, .slice r.n.ax r.n.X.length r.n.cx, .slice r.n.ay r.n.Y.length r.n.cy, .slice r.n.av r.n.V.length r.n.cv, .slice r.a.ax r.a.X.length r.a.cx, .slice r.a.ay r.a.Y.length r.a.cy, .slice r.a.av r.a.V.length r.a.cv, .slice r.b.ax r.b.X.length r.b.cx, .slice r.b.ay r.b.Y.length r.b.cy, .slice r.b.av r.b.V.length r.b.cv, .slice r.d.ax r.d.X.length r.d.cx, .slice r.d.ay r.d.Y.length r.d.cy, .slice r.d.av r.d.V.length r.d.cv, .int .i64 r.cl, .int .i64 r.bu, .int .i64 a.w.1, .int .i64 a.w.2, .int .i64 a.t.1, .int .i64 a.t.2, .int .i64 a.h.1, .int .i64 a.h.2, .int .i64 a.v.1, .int .i64 a.v.2]) (s : Int × Int) (gs : Nat) (w : World) (h0 : w.cell? ⟨gs, 0, none⟩ = some (.int .i64 s.1)) (h1 : w.cell? ⟨gs, 1, none⟩ = some (.int .i64 s.2)) :
    Calls Try.prog 112 #[.agg MS, .pointer (some ⟨gs, 0, none⟩)] w fun e w' => ∃ v, e = .returned v ∧ QL2 [loH r a, loG r a s, loP r a] v w' ∧ Below w.heap.size w w' := by
  have Hh := Lib.hid (fun (W : World) => show Calls Try.prog 60 #[.agg MS] W fun e w' => e = .returned (.agg #[.slice r.h.ax r.h.X.length r.h.cx, .slice r.h.ay r.h.Y.length r.h.cy, .slice r.h.av r.h.V.length r.h.cv, .int .i64 a.w.1, .int .i64 a.w.2, .int .i64 a.t.1, .int .i64 a.t.2]) ∧ Below W.heap.size W w' by rw [hm]; exact hover_any r a W)
  have Hg := Lib.hid (fun (W : World) => show Calls Try.prog 61 #[.agg MS, .agg #[.int .i64 s.1, .int .i64 s.2]] W fun e w' => e = .returned (.agg #[.slice r.g.ax r.g.X.length r.g.cx, .slice r.g.ay r.g.Y.length r.g.cy, .slice r.g.av r.g.V.length r.g.cv, .int .i64 s.1, .int .i64 s.2, .int .i64 a.v.1, .int .i64 a.v.2]) ∧ Below W.heap.size W w' by rw [hm]; exact ground_any r a s W)
  have Hp := Lib.hid (fun (W : World) => show Calls Try.prog 66 #[.agg MS] W fun e w' => e = .returned (.agg #[.slice r.p.ax r.p.X.length r.p.cx, .slice r.p.ay r.p.Y.length r.p.cy, .slice r.p.av r.p.V.length r.p.cv, .int .i64 a.t.1, .int .i64 a.t.2, .int .i64 a.h.1, .int .i64 a.h.2]) ∧ Below W.heap.size W w' by rw [hm]; exact power_any r a W)
  have HMZ := Lib.hid (show MS.size = 34 by rw [hm]; rfl)
  have X1 := Lib.hid (BK.new (w := w) (cs := MS) (T := 87))
  have hlt : gs < w.heap.size := World.block_lt_of_cell? _ _ h0
  have g0 : (w.alloc (.cells MS 87)).cell? ⟨gs, 0, none⟩ = some (.int .i64 s.1) := cell_keep ((Below.refl _ _).alloc (Nat.le_refl _) _) h0
  have g1 : (w.alloc (.cells MS 87)).cell? ⟨gs, 1, none⟩ = some (.int .i64 s.2) := cell_keep ((Below.refl _ _).alloc (Nat.le_refl _) _) h1
  have HB := Lib.hid (show Below w.heap.size w (w.alloc (.cells MS 87)) by go_grown)
  clear hm h0 h1
  go_enter Try.func112, Try.ntmps112
  go_upto_region 1 with fail
  generalize w.alloc (.cells MS 87) = W1 at *
  obtain ⟨Qa, hQa⟩ : ∃ q9 : Nat → Value → World → Prop, q9 = QG [some (.agg MS), some (.agg #[.slice r.h.ax r.h.X.length r.h.cx, .slice r.h.ay r.h.Y.length r.h.cy, .slice r.h.av r.h.V.length r.h.cv, .int .i64 a.w.1, .int .i64 a.w.2, .int .i64 a.t.1, .int .i64 a.t.2]), some (.agg MS), some (.agg #[.int .i64 s.1, .int .i64 s.2]), some (.agg #[.slice r.g.ax r.g.X.length r.g.cx, .slice r.g.ay r.g.Y.length r.g.cy, .slice r.g.av r.g.V.length r.g.cv, .int .i64 s.1, .int .i64 s.2, .int .i64 a.v.1, .int .i64 a.v.2]), some (.agg MS), some (.agg #[.slice r.p.ax r.p.X.length r.p.cx, .slice r.p.ay r.p.Y.length r.p.cy, .slice r.p.av r.p.V.length r.p.cv, .int .i64 a.t.1, .int .i64 a.t.2, .int .i64 a.h.1, .int .i64 a.h.2]), none, none] (fun j0' v0' w0' => (j0' = 7 → QL2 [loH r a, loG r a s, loP r a] v0' w0') ∧ (j0' = 8 → QL2 [loH r a, loG r a s, loP r a] v0' w0')) := ⟨_, rfl⟩
  have hst : Stays Qa := by rw [hQa]; exact QG.stays (fun j v W W' h hb => ⟨fun e => (h.1 e).stay hb, fun e => (h.2 e).stay hb⟩)
  have Ua7 := Lib.hid (show ∀ v0' w0', Qa 7 v0' w0' ↔ QL2 [loH r a, loG r a s, loP r a] v0' w0' from fun v0' w0' => by rw [hQa]; exact ⟨fun h => h.1 rfl, fun h => ⟨fun _ => h, fun e => absurd e (by decide)⟩⟩)
  have Ua8 := Lib.hid (show ∀ v0' w0', Qa 8 v0' w0' ↔ QL2 [loH r a, loG r a s, loP r a] v0' w0' from fun v0' w0' => by rw [hQa]; exact ⟨fun h => h.2 rfl, fun h => ⟨fun e => absurd e (by decide), fun _ => h⟩⟩)
  have HQa := Lib.hid hQa
  clear hQa
  refine wpIn_wide.1 (region_inv2 (n := 9) (by kernel_rfl) (RQ Qa W1) (by kernel_rfl) rfl (RQ.start _ _ _) ?hstepa ?henda)
  case hstepa =>
    intro i' o ho val L b' x hF hR hpre hl
    match i', ho with
    | 0, ho =>
      simp at ho; subst ho; refine step_plain rfl ?_; have e2 := hF.was 2 (by kernel_rfl) rfl; have hgoal := hR.go hst HQa 0 rfl
      exact inM (X1.out.keep hR.1) HMZ.out (e2.trans rfl) ⟨_, rfl, hgoal _ _ (Below.refl _ _) rfl⟩
    | 1, ho =>
      simp at ho; subst ho; refine step_plain rfl ?_; have e4 := hF.gv hR.2 HQa 0 rfl (hpre ⟨0, .data⟩ (by simp) rfl) rfl; have hgoal := hR.go hst HQa 1 rfl
      have hM := Lib.hid hR.1
      clear hF hpre hl hR; go_simp
      refine ⟨trivial, ?_⟩
      refine CallsIn.mono (callsIn_wide.2 (Hh.out _)) ?_
      rintro e w9 ⟨rfl, hb9⟩
      exact ⟨_, rfl, hgoal _ _ hb9 rfl⟩
    | 2, ho =>
      simp at ho; subst ho; refine step_plain rfl ?_; have e2 := hF.was 2 (by kernel_rfl) rfl; have hgoal := hR.go hst HQa 2 rfl
      exact inM (X1.out.keep hR.1) HMZ.out (e2.trans rfl) ⟨_, rfl, hgoal _ _ (Below.refl _ _) rfl⟩
    | 3, ho =>
      simp at ho; subst ho; refine step_plain rfl ?_; have e1 := hF.was 1 (by kernel_rfl) rfl; have hgoal := hR.go hst HQa 3 rfl; have q0 := cell_keep hR.1 g0; have q1 := cell_keep hR.1 g1; clear hF hpre hl hR; go_simp; exact ⟨_, rfl, hgoal _ _ (Below.refl _ _) rfl⟩
    | 4, ho =>
      simp at ho; subst ho; refine step_plain rfl ?_; have e6 := hF.gv hR.2 HQa 2 rfl (hpre ⟨2, .data⟩ (by simp) rfl) rfl; have e7 := hF.gv hR.2 HQa 3 rfl (hpre ⟨3, .data⟩ (by simp) rfl) rfl; have hgoal := hR.go hst HQa 4 rfl
      have hM := Lib.hid hR.1
      clear hF hpre hl hR; go_simp
      refine ⟨trivial, ?_⟩
      refine CallsIn.mono (callsIn_wide.2 (Hg.out _)) ?_
      rintro e w9 ⟨rfl, hb9⟩
      exact ⟨_, rfl, hgoal _ _ hb9 rfl⟩
    | 5, ho =>
      simp at ho; subst ho; refine step_plain rfl ?_; have e2 := hF.was 2 (by kernel_rfl) rfl; have hgoal := hR.go hst HQa 5 rfl
      exact inM (X1.out.keep hR.1) HMZ.out (e2.trans rfl) ⟨_, rfl, hgoal _ _ (Below.refl _ _) rfl⟩
    | 6, ho =>
      simp at ho; subst ho; refine step_plain rfl ?_; have e9 := hF.gv hR.2 HQa 5 rfl (hpre ⟨5, .data⟩ (by simp) rfl) rfl; have hgoal := hR.go hst HQa 6 rfl
      have hM := Lib.hid hR.1
      clear hF hpre hl hR; go_simp
      refine ⟨trivial, ?_⟩
      refine CallsIn.mono (callsIn_wide.2 (Hp.out _)) ?_
      rintro e w9 ⟨rfl, hb9⟩
      exact ⟨_, rfl, hgoal _ _ hb9 rfl⟩
    | 7, ho =>
      simp at ho; subst ho; refine step_plain rfl ?_; have e5 := hF.gv hR.2 HQa 1 rfl (hpre ⟨1, .data⟩ (by simp) rfl) rfl; have e8 := hF.gv hR.2 HQa 4 rfl (hpre ⟨4, .data⟩ (by simp) rfl) rfl; have e10 := hF.gv hR.2 HQa 6 rfl (hpre ⟨6, .data⟩ (by simp) rfl) rfl
      have hgoal : ∀ v0' w0', Below x.heap.size x w0' → QL2 [loH r a, loG r a s, loP r a] v0' w0' → RQ Qa W1 (upd val 7 v0') (L.setIfInBounds 7 true) w0' := fun v0' w0' hb hq => hR.step hst hb ((Ua7.out _ _).2 hq)
      have hM := Lib.hid hR.1
      clear hF hpre hl hR; go_simp; exact ⟨_, rfl, hgoal _ _ ((Below.refl _ _).alloc (Nat.le_refl _) _) ⟨_, _, rfl, (RL.new3 rfl).more (by simp)⟩⟩
    | 8, ho =>
      simp at ho; subst ho; refine step_plain rfl ?_; have e11 := hF.gave 7 rfl (hpre ⟨7, .data⟩ (by simp) rfl) rfl
      have v7 := (Ua7.out _ _).1 (hR.2 7 (hpre ⟨7, .data⟩ (by simp) rfl))
      have hgoal : ∀ v0' w0', Below x.heap.size x w0' → QL2 [loH r a, loG r a s, loP r a] v0' w0' → RQ Qa W1 (upd val 8 v0') (L.setIfInBounds 8 true) w0' := fun v0' w0' hb hq => hR.step hst hb ((Ua8.out _ _).2 hq)
      have hM := Lib.hid hR.1
      clear hF hpre hl hR; go_simp; exact ⟨_, rfl, hgoal _ _ (Below.refl _ _) v7⟩
    | i + 9, ho => simp at ho
  case henda =>
    intro val L b' x hF hall hR
    have e := hF.all (by kernel_rfl) hall
    have ka8 := (Ua8.out _ _).1 (hR.2 8 (hall 8 (by decide)))
    have hBa := Lib.hid hR.1
    clear hF hall hR hst HQa Ua7 Ua8
    subst e
    simp [final, dstOf, List.range, List.range.loop]
    go_wp2
    exact bodyPost_ret (v := val 8) (by simp [results, Try.results112, go_sem]) rfl ⟨_, rfl, ka8, HB.out.trans (hBa.out.mono HB.out.size)⟩
theorem has1_any (r : RO) (a : AI) (MS : Array Value) (hm : MS = #[.slice r.h.ax r.h.X.length r.h.cx, .slice r.h.ay r.h.Y.length r.h.cy, .slice r.h.av r.h.V.length r.h.cv, .slice r.g.ax r.g.X.length r.g.cx, .slice r.g.ay r.g.Y.length r.g.cy, .slice r.g.av r.g.V.length r.g.cv, .slice r.l.ax r.l.X.length r.l.cx, .slice r.l.ay r.l.Y.length r.l.cy, .slice r.l.av r.l.V.length r.l.cv, .slice r.p.ax r.p.X.length r.p.cx, .slice r.p.ay r.p.Y.length r.p.cy, .slice r.p.av r.p.V.length r.p.cv, .slice r.n.ax r.n.X.length r.n.cx, .slice r.n.ay r.n.Y.length r.n.cy, .slice r.n.av r.n.V.length r.n.cv, .slice r.a.ax r.a.X.length r.a.cx, .slice r.a.ay r.a.Y.length r.a.cy, .slice r.a.av r.a.V.length r.a.cv, .slice r.b.ax r.b.X.length r.b.cx, .slice r.b.ay r.b.Y.length r.b.cy, .slice r.b.av r.b.V.length r.b.cv, .slice r.d.ax r.d.X.length r.d.cx, .slice r.d.ay r.d.Y.length r.d.cy, .slice r.d.av r.d.V.length r.d.cv, .int .i64 r.cl, .int .i64 r.bu, .int .i64 a.w.1, .int .i64 a.w.2, .int .i64 a.t.1, .int .i64 a.t.2, .int .i64 a.h.1, .int .i64 a.h.2, .int .i64 a.v.1, .int .i64 a.v.2]) (w : World) :
    Calls Try.prog 65 #[.agg MS] w fun e w' => ∃ v, e = .returned v ∧ QL2 [loP r a] v w' ∧ Below w.heap.size w w' := by
  have HC := Lib.hid (fun (W : World) => show Calls Try.prog 66 #[.agg MS] W fun e w' => e = .returned (.agg #[.slice r.p.ax r.p.X.length r.p.cx, .slice r.p.ay r.p.Y.length r.p.cy, .slice r.p.av r.p.V.length r.p.cv, .int .i64 a.t.1, .int .i64 a.t.2, .int .i64 a.h.1, .int .i64 a.h.2]) ∧ Below W.heap.size W w' by rw [hm]; exact power_any r a W)
  have HMZ := Lib.hid (show MS.size = 34 by rw [hm]; rfl)
  have X1 := Lib.hid (BK.new (w := w) (cs := MS) (T := 87))
  clear hm
  go_enter Try.func65, Try.ntmps65
  go_wp2_with (first
    | ((with_reducible refine ldM X1.out HMZ.out ?_ ?_); rfl)
    | (go_at_call 66; refine Calls.mono (HC.out _) ?_; rintro e w1 ⟨rfl, hb1⟩; have HB1 := Lib.hid (Below.trans (show Below w.heap.size w _ by go_grown) (hb1.mono (by simp <;> omega))); clear hb1))
  go_simp
  exact bodyPost_ret (v := .slice (some ⟨w1.heap.size, 0, none⟩) 1 1) (by simp [results, Try.results65, go_sem]) rfl ⟨_, rfl, ⟨_, _, rfl, (RL.new1 (l0 := loP r a) rfl).more (by simp)⟩, HB1.out.alloc HB1.out.size _⟩
theorem level1_any (r : RO) (a : AI) (MS : Array Value) (hm : MS = #[.slice r.h.ax r.h.X.length r.h.cx, .slice r.h.ay r.h.Y.length r.h.cy, .slice r.h.av r.h.V.length r.h.cv, .slice r.g.ax r.g.X.length r.g.cx, .slice r.g.ay r.g.Y.length r.g.cy, .slice r.g.av r.g.V.length r.g.cv, .slice r.l.ax r.l.X.length r.l.cx, .slice r.l.ay r.l.Y.length r.l.cy, .slice r.l.av r.l.V.length r.l.cv, .slice r.p.ax r.p.X.length r.p.cx, .slice r.p.ay r.p.Y.length r.p.cy, .slice r.p.av r.p.V.length r.p.cv, .slice r.n.ax r.n.X.length r.n.cx, .slice r.n.ay r.n.Y.length r.n.cy, .slice r.n.av r.n.V.length r.n.cv, .slice r.a.ax r.a.X.length r.a.cx, .slice r.a.ay r.a.Y.length r.a.cy, .slice r.a.av r.a.V.length r.a.cv, .slice r.b.ax r.b.X.length r.b.cx, .slice r.b.ay r.b.Y.length r.b.cy, .slice r.b.av r.b.V.length r.b.cv, .slice r.d.ax r.d.X.length r.d.cx, .slice r.d.ay r.d.Y.length r.d.cy, .slice r.d.av r.d.V.length r.d.cv, .int .i64 r.cl, .int .i64 r.bu, .int .i64 a.w.1, .int .i64 a.w.2, .int .i64 a.t.1, .int .i64 a.t.2, .int .i64 a.h.1, .int .i64 a.h.2, .int .i64 a.v.1, .int .i64 a.v.2]) (s : Int × Int) (gs : Nat) (w : World) (h0 : w.cell? ⟨gs, 0, none⟩ = some (.int .i64 s.1)) (h1 : w.cell? ⟨gs, 1, none⟩ = some (.int .i64 s.2)) :
    Calls Try.prog 79 #[.agg MS, .pointer (some ⟨gs, 0, none⟩)] w fun e w' => ∃ v, e = .returned v ∧ QL2 [loL r a s] v w' ∧ Below w.heap.size w w' := by
  have HC := Lib.hid (fun (W : World) => show Calls Try.prog 80 #[.agg MS, .agg #[.int .i64 s.1, .int .i64 s.2]] W fun e w' => e = .returned (.agg #[.slice r.l.ax r.l.X.length r.l.cx, .slice r.l.ay r.l.Y.length r.l.cy, .slice r.l.av r.l.V.length r.l.cv, .int .i64 s.1, .int .i64 s.2, .int .i64 a.w.1, .int .i64 a.w.2]) ∧ Below W.heap.size W w' by rw [hm]; exact level_any r a s W)
  have HMZ := Lib.hid (show MS.size = 34 by rw [hm]; rfl)
  have X1 := Lib.hid (BK.new (w := w) (cs := MS) (T := 87))
  clear hm
  have hlt : gs < w.heap.size := World.block_lt_of_cell? _ _ h0
  go_enter Try.func79, Try.ntmps79
  go_wp2_with (first
    | ((with_reducible refine ldM X1.out HMZ.out ?_ ?_); rfl)
    | (go_at_call 80; refine Calls.mono (HC.out _) ?_; rintro e w1 ⟨rfl, hb1⟩; have HB1 := Lib.hid (Below.trans (show Below w.heap.size w _ by go_grown) (hb1.mono (by simp <;> omega))); clear hb1))
  go_simp
  exact bodyPost_ret (v := .slice (some ⟨w1.heap.size, 0, none⟩) 1 1) (by simp [results, Try.results79, go_sem]) rfl ⟨_, rfl, ⟨_, _, rfl, (RL.new1 (l0 := loL r a s) rfl).more (by simp)⟩, HB1.out.alloc HB1.out.size _⟩
theorem rate1_any (r : RO) (a : AI) (MS : Array Value) (hm : MS = #[.slice r.h.ax r.h.X.length r.h.cx, .slice r.h.ay r.h.Y.length r.h.cy, .slice r.h.av r.h.V.length r.h.cv, .slice r.g.ax r.g.X.length r.g.cx, .slice r.g.ay r.g.Y.length r.g.cy, .slice r.g.av r.g.V.length r.g.cv, .slice r.l.ax r.l.X.length r.l.cx, .slice r.l.ay r.l.Y.length r.l.cy, .slice r.l.av r.l.V.length r.l.cv, .slice r.p.ax r.p.X.length r.p.cx, .slice r.p.ay r.p.Y.length r.p.cy, .slice r.p.av r.p.V.length r.p.cv, .slice r.n.ax r.n.X.length r.n.cx, .slice r.n.ay r.n.Y.length r.n.cy, .slice r.n.av r.n.V.length r.n.cv, .slice r.a.ax r.a.X.length r.a.cx, .slice r.a.ay r.a.Y.length r.a.cy, .slice r.a.av r.a.V.length r.a.cv, .slice r.b.ax r.b.X.length r.b.cx, .slice r.b.ay r.b.Y.length r.b.cy, .slice r.b.av r.b.V.length r.b.cv, .slice r.d.ax r.d.X.length r.d.cx, .slice r.d.ay r.d.Y.length r.d.cy, .slice r.d.av r.d.V.length r.d.cv, .int .i64 r.cl, .int .i64 r.bu, .int .i64 a.w.1, .int .i64 a.w.2, .int .i64 a.t.1, .int .i64 a.t.2, .int .i64 a.h.1, .int .i64 a.h.2, .int .i64 a.v.1, .int .i64 a.v.2]) (s : Int × Int) (gs : Nat) (w : World) (h0 : w.cell? ⟨gs, 0, none⟩ = some (.int .i64 s.1)) (h1 : w.cell? ⟨gs, 1, none⟩ = some (.int .i64 s.2)) :
    Calls Try.prog 88 #[.agg MS, .pointer (some ⟨gs, 0, none⟩)] w fun e w' => ∃ v, e = .returned v ∧ QL2 [loL r a s] v w' ∧ Below w.heap.size w w' := by
  have HC := Lib.hid (fun (W : World) => show Calls Try.prog 80 #[.agg MS, .agg #[.int .i64 s.1, .int .i64 s.2]] W fun e w' => e = .returned (.agg #[.slice r.l.ax r.l.X.length r.l.cx, .slice r.l.ay r.l.Y.length r.l.cy, .slice r.l.av r.l.V.length r.l.cv, .int .i64 s.1, .int .i64 s.2, .int .i64 a.w.1, .int .i64 a.w.2]) ∧ Below W.heap.size W w' by rw [hm]; exact level_any r a s W)
  have HMZ := Lib.hid (show MS.size = 34 by rw [hm]; rfl)
  have X1 := Lib.hid (BK.new (w := w) (cs := MS) (T := 87))
  clear hm
  have hlt : gs < w.heap.size := World.block_lt_of_cell? _ _ h0
  go_enter Try.func88, Try.ntmps88
  go_wp2_with (first
    | ((with_reducible refine ldM X1.out HMZ.out ?_ ?_); rfl)
    | (go_at_call 80; refine Calls.mono (HC.out _) ?_; rintro e w1 ⟨rfl, hb1⟩; have HB1 := Lib.hid (Below.trans (show Below w.heap.size w _ by go_grown) (hb1.mono (by simp <;> omega))); clear hb1))
  go_simp
  exact bodyPost_ret (v := .slice (some ⟨w1.heap.size, 0, none⟩) 1 1) (by simp [results, Try.results88, go_sem]) rfl ⟨_, rfl, ⟨_, _, rfl, (RL.new1 (l0 := loL r a s) rfl).more (by simp)⟩, HB1.out.alloc HB1.out.size _⟩
end Go.Proofs.Ythhokiigdgpmcaa

/- Layer 2: in a smaller air. -/
namespace Go.Proofs.Ythhokiigdgpmcaa
open Go.RowKit

def inS (p q : Int × Int) : Prop := q.1 ≤ p.1 ∧ p.1 ≤ p.2 ∧ p.2 ≤ q.2
/-- An air inside another one. -/
structure AIn (b a : AI) : Prop where
  w : inS b.w a.w
  t : inS b.t a.t
  h : inS b.h a.h
  v : inS b.v a.v
theorem inS_vS {p q : Int × Int} (h : inS p q) (hq : vS q = true) : vS p = true := by
  obtain ⟨a, b, c⟩ := h
  have := vS_get (a := q.1) (b := q.2) hq
  exact vS_mk (a := p.1) (b := p.2) b (by omega) (by omega)
theorem inS_osB {X : List Int} {p q : Int × Int} (h : inS p q) (hq : osB X q = true) : osB X p = true := by
  obtain ⟨a, b, c⟩ := h
  obtain ⟨⟨h1, h2⟩, h3, h4⟩ := osB_on hq
  exact on_osB ⟨⟨by omega, by omega⟩, ⟨by omega, by omega⟩⟩
theorem inS_refl {p : Int × Int} (h : vS p = true) : inS p p := ⟨Int.le_refl _, (vS_get (a := p.1) (b := p.2) h).1, Int.le_refl _⟩
theorem AIn.ok {b a : AI} (h : AIn b a) (ha : a.ok = true) : b.ok = true := by
  obtain ⟨h1, h2, h3, h4⟩ := AI.ok_get ha
  unfold AI.ok
  simp [inS_vS h.w h1, inS_vS h.t h2, inS_vS h.h h3, inS_vS h.v h4]
/-- A look inside another one. -/
structure LIn (m l : LO) : Prop where
  t : m.t = l.t
  x : inS m.x l.x
  y : inS m.y l.y
theorem LIn.on {m l : LO} (h : LIn m l) (hl : l.on = true) : m.on = true := by
  unfold LO.on at hl ⊢
  simp only [Bool.and_eq_true] at hl ⊢
  rw [h.t]
  exact ⟨inS_osB h.x hl.1, inS_osB h.y hl.2⟩
theorem LIn.ok {m l : LO} {lo hi : Int} (h : LIn m l) (hl : LOk lo hi l) : LOk lo hi m := ⟨by rw [h.t]; exact hl.fil, inS_vS h.x hl.x, inS_vS h.y hl.y, h.on hl.on⟩
theorem LIn.bn {m l : LO} {lo hi : Int} (h : LIn m l) (hl : LOk lo hi l) : l.bn.1 ≤ m.bn.1 ∧ m.bn.2 ≤ l.bn.2 :=
  hl.part h.t h.x.1 h.x.2.1 h.x.2.2 h.y.1 h.y.2.1 h.y.2.2
theorem fl_mono {a b d : Int} (hd : 1 ≤ d) (h : a ≤ b) : fl a d ≤ fl b d := Int.ediv_le_ediv (by omega) h
theorem cl_mono {a b d : Int} (hd : 1 ≤ d) (h : a ≤ b) : cl a d ≤ cl b d := by
  have := fl_mono (a := -b) (b := -a) hd (by omega)
  unfold fl at this
  unfold cl
  omega
theorem mul_mono {a b c d : Int} (ha : 0 ≤ a) (hb : 0 ≤ b) (h1 : a ≤ c) (h2 : b ≤ d) : a * b ≤ c * d := Int.mul_le_mul h1 h2 hb (by omega)

/-- What Needs and Margin look up. -/
structure Hov (r : RO) (a : AI) (above : Int × Int) : Prop where
  h : LOk 0 100000 (loH r a)
  g : LOk 0 100 (loG r a above)
theorem nd_in {r : RO} {a b : AI} {s u : Int × Int} (h : Hov r a s) (hi : AIn b a) (hs : inS u s) : (ndN r a s).1 ≤ (ndN r b u).1 ∧ (ndN r b u).2 ≤ (ndN r a s).2 := by
  have i1 : LIn (loH r b) (loH r a) := ⟨rfl, hi.w, hi.t⟩
  have i2 : LIn (loG r b u) (loG r a s) := ⟨rfl, hs, hi.v⟩
  have b1 := i1.bn h.h
  have b2 := i2.bn h.g
  have c1 := h.h.bd (by omega) (by omega)
  have c2 := h.g.bd (by omega) (by omega)
  have d1 := (i1.ok h.h).bd (by omega) (by omega)
  have d2 := (i2.ok h.g).bd (by omega) (by omega)
  have e1 := (i1.ok h.h).le
  have e2 := (i2.ok h.g).le
  unfold ndN
  exact ⟨fl_mono (by omega) (mul_mono (by omega) (by omega) b1.1 b2.1), cl_mono (by omega) (mul_mono (by omega) (by omega) b1.2 b2.2)⟩
theorem nd_bd {r : RO} {a : AI} {s : Int × Int} (h : Hov r a s) : 0 ≤ (ndN r a s).1 ∧ (ndN r a s).2 ≤ 100000 ∧ 0 ≤ (ndN r a s).2 ∧ (ndN r a s).1 ≤ 100000 := by
  have c1 := h.h.bd (by omega) (by omega)
  have c2 := h.g.bd (by omega) (by omega)
  have e1 := h.h.le
  have e2 := h.g.le
  have m1 := mul_mono (a := 0) (b := 0) (c := (loH r a).bn.1) (d := (loG r a s).bn.1) (by omega) (by omega) c1.1 c2.1
  have m2 := mul_mono (by omega) (by omega) c1.2 c2.2
  have m3 := mul_mono c1.1 c2.1 e1 e2
  unfold ndN
  generalize (loH r a).bn.1 * (loG r a s).bn.1 = p at *
  generalize (loH r a).bn.2 * (loG r a s).bn.2 = q at *
  unfold fl cl
  omega
theorem mg_in {r : RO} {a b : AI} {s u : Int × Int} (h : Hov r a s) (hp : LOk 0 100000 (loP r a)) (hi : AIn b a) (hs : inS u s) : mgN r a s ≤ mgN r b u := by
  have := nd_in h hi hs
  have i3 : LIn (loP r b) (loP r a) := ⟨rfl, hi.t, hi.h⟩
  have := i3.bn hp
  unfold mgN
  omega
/-- An air whose weight goes up to so much. -/
def AI.up (a : AI) (n : Int) : AI := ⟨(a.w.1, n), a.t, a.h, a.v⟩
theorem up_in {a : AI} (ha : a.ok = true) {n m : Int} (h1 : a.w.1 ≤ n) (h2 : n ≤ m) : AIn (a.up n) (a.up m) := by
  obtain ⟨_, k2, k3, k4⟩ := AI.ok_get ha
  exact ⟨⟨Int.le_refl _, h1, h2⟩, inS_refl k2, inS_refl k3, inS_refl k4⟩
theorem up_all (a : AI) : a.up a.w.2 = a := rfl
/-- Heaviest. -/
def hvP (r : RO) (a : AI) (s : Int × Int) (res n : Int) : Bool := decide (res ≤ mgN r (a.up n) s)
def hvN (r : RO) (a : AI) (s : Int × Int) (res : Int) : Int × Int :=
  if redE r a [loH r a, loG r a s, loP r a] [s] = 0 then
    (if (lastN (hvP r a s res) a.w.1 a.w.2).2 then ((lastN (hvP r a s res) a.w.1 a.w.2).1, 0) else (0, 3))
  else (0, redE r a [loH r a, loG r a s, loP r a] [s])
/-- What a margin has looked up. -/
structure Mrg (r : RO) (a : AI) (s : Int × Int) : Prop where
  ro : r.ok = true
  ao : a.ok = true
  so : vS s = true
  h : LOk 0 100000 (loH r a)
  g : LOk 0 100 (loG r a s)
  p : LOk 0 100000 (loP r a)
theorem Mrg.hov {r : RO} {a : AI} {s : Int × Int} (h : Mrg r a s) : Hov r a s := ⟨h.h, h.g⟩
theorem mrg_of {r : RO} {a : AI} {s : Int × Int} (h : redE r a [loH r a, loG r a s, loP r a] [s] = 0) : Mrg r a s := by
  obtain ⟨h1, h2, h3, h4⟩ := rdy_of h
  obtain ⟨k1, k2, k3, k4⟩ := AI.ok_get h2
  have o := ok_of h1
  simp only [List.all_cons, List.all_nil, Bool.and_eq_true, Bool.and_true] at h3 h4
  exact ⟨h1, h2, h3, ⟨o.h, k1, k2, h4.1⟩, ⟨o.g, h3, k4, h4.2.1⟩, ⟨o.p, k2, k3, h4.2.2⟩⟩
theorem Mrg.up {r : RO} {a : AI} {s : Int × Int} (h : Mrg r a s) {n : Int} (h1 : a.w.1 ≤ n) (h2 : n ≤ a.w.2) : Mrg r (a.up n) s := by
  have hi := up_in h.ao h1 h2
  rw [up_all] at hi
  have i1 : LIn (loH r (a.up n)) (loH r a) := ⟨rfl, hi.w, hi.t⟩
  have i2 : LIn (loG r (a.up n) s) (loG r a s) := ⟨rfl, inS_refl h.so, hi.v⟩
  have i3 : LIn (loP r (a.up n)) (loP r a) := ⟨rfl, hi.t, hi.h⟩
  exact ⟨h.ro, hi.ok h.ao, h.so, i1.ok h.h, i2.ok h.g, i3.ok h.p⟩
theorem hvP_mono {r : RO} {a : AI} {s : Int × Int} {res : Int} (h : Mrg r a s) (i j : Int) (h1 : a.w.1 ≤ i) (h2 : i ≤ j) (h3 : j ≤ a.w.2) (hp : hvP r a s res j = true) : hvP r a s res i = true := by
  have hj := h.up (n := j) (by omega) h3
  have := mg_in hj.hov hj.p (up_in h.ao h1 h2) (inS_refl h.so)
  unfold hvP at hp ⊢
  simp at hp ⊢
  omega
end Go.Proofs.Ythhokiigdgpmcaa

/- All blocks but one are kept. -/
namespace Go.Proofs.Ythhokiigdgpmcaa
open Go.RowKit

def Kept (g : Nat) (W W' : World) : Prop := Below g W W' ∧ ∀ b, b < W.heap.size → b ≠ g → W'.heap[b]? = W.heap[b]?
section
variable {g : Nat} {W W1 W2 : World}
theorem Kept.refl (g : Nat) (W : World) : Kept g W W := ⟨Below.refl _ _, fun _ _ _ => rfl⟩
theorem Kept.of (h : Below W.heap.size W W1) (hg : g ≤ W.heap.size) : Kept g W W1 := ⟨h.mono hg, fun b hb _ => h.block b hb⟩
theorem Kept.trans (h : Kept g W W1) (h2 : Kept g W1 W2) : Kept g W W2 :=
  ⟨h.1.trans h2.1, fun b hb hn => (h2.2 b (Nat.lt_of_lt_of_le hb h.1.size) hn).trans (h.2 b hb hn)⟩
theorem Kept.setCell (h : Kept g W W1) (o : Nat) (v : Value) : Kept g W (W1.setCell ⟨g, o, none⟩ v) :=
  ⟨h.1.setCell (Nat.le_refl _) v, fun b hb hn => by
    rw [← h.2 b hb hn]
    exact Below.heap_setCell _ _ _ _ hn⟩
theorem Kept.cell (h : Kept g W W1) {b o : Nat} {v : Value} (hc : W.cell? ⟨b, o, none⟩ = some v) (hn : b ≠ g) : W1.cell? ⟨b, o, none⟩ = some v := by
  have hl : b < W.heap.size := World.block_lt_of_cell? W _ hc
  unfold World.cell? at hc ⊢
  rw [h.2 b hl hn]
  exact hc
theorem Kept.low (h : Kept g W W1) {B : Nat} (hB : B ≤ g) : Below B W W1 := h.1.mono hB
theorem Kept.ht {B : Nat} {AX AY AV : Option Addr} {nx ny nv : Nat} {X Y : List Int} {V : List (List Int)} (h : Kept g W W1) (hB : B ≤ g) (ht : HT W B AX AY AV nx ny nv X Y V) : HT W1 B AX AY AV nx ny nv X Y V :=
  ⟨ht.hx, ht.hy, ht.hv, ht.mx, ht.my, ht.mv, ht.mr, ht.tb.below (h.low hB), by have := h.1.size; have := ht.hB; omega⟩
end
end Go.Proofs.Ythhokiigdgpmcaa

/- A drawn region whose last operation fills a box that was there. -/
namespace Go.Proofs.Ythhokiigdgpmcaa
open Go.RowKit

def RT (Q : Nat → Value → World → Prop) (W0 : World) (s : Nat) (f : World → World) (val : Nat → Value) (L : Array Bool) (W : World) : Prop :=
  (L.getD s false = false → RQ Q W0 val L W) ∧ (L.getD s false = true → ∃ y, RQ Q W0 val (L.setIfInBounds s false) y ∧ W = f y)
section
variable {Q : Nat → Value → World → Prop} {W0 W W' : World} {s i : Nat} {f : World → World} {v : Value} {val : Nat → Value} {L : Array Bool}
theorem RT.start (Q : Nat → Value → World → Prop) (W0 : World) (s : Nat) (f : World → World) (n : Nat) : RT Q W0 s f (fun _ => undef) (Array.replicate n false) W0.drew :=
  ⟨fun _ => RQ.start Q W0 n, fun h => by rw [getD_replicate_no] at h; cases h⟩
theorem RT.step (h : RQ Q W0 val L W) (hQ : Stays Q) (hb : Below W.heap.size W W') (hq : Q i v W') (hs : i ≠ s) (hN : L.getD s false = false) : RT Q W0 s f (upd val i v) (L.setIfInBounds i true) W' :=
  ⟨fun _ => h.step hQ hb hq, fun h2 => (by rw [getD_set_other hs, hN] at h2; cases h2)⟩
theorem getD_setF {L : Array Bool} {i j : Nat} (h : (L.setIfInBounds i false).getD j false = true) : j ≠ i ∧ L.getD j false = true := by
  simp only [Array.getD_eq_getD_getElem?, Array.getElem?_setIfInBounds] at h ⊢
  by_cases e : i = j
  · subst e
    by_cases hs : i < L.size <;> simp [hs] at h
  · simp [e] at h
    exact ⟨fun h => e h.symm, h⟩
theorem RT.store (h : RQ Q W0 val L W) (hs : s < L.size) : RT Q W0 s f (upd val s v) (L.setIfInBounds s true) (f W) :=
  ⟨fun h2 => (by rw [getD_set_eq hs] at h2; cases h2), fun _ => ⟨W, ⟨h.1, fun j hj => by
    obtain ⟨h1, h2⟩ := getD_setF hj
    rw [upd_other h1]
    rw [getD_set_other (fun e => h1 e.symm)] at h2
    exact h.2 j h2⟩, rfl⟩⟩
theorem RT.done (h : RT Q W0 s f val L W) (hs : L.getD s false = true) : ∃ y, Below W0.heap.size W0 y ∧ W = f y ∧ ∀ j, j ≠ s → L.getD j false = true → Q j (val j) y := by
  obtain ⟨y, h1, h2⟩ := h.2 hs
  refine ⟨y, h1.1, h2, fun j hj hl => h1.2 j ?_⟩
  simp only [Array.getD_eq_getD_getElem?, Array.getElem?_setIfInBounds] at hl ⊢
  rw [if_neg (fun e => hj e.symm)]
  exact hl
end
section
variable {Q : Nat → Value → World → Prop} {vals : List (Option Value)} {ex : Nat → Value → World → Prop} {W0 W : World} {s : Nat} {f : World → World} {val : Nat → Value} {L : Array Bool}
theorem RT.go (h : RQ Q W0 val L W) (hQ : Stays Q) (HQ : Hid (Q = QG vals ex)) (i : Nat) {x : Value} (hx : vals[i]? = some (some x)) (hs : i ≠ s) (hN : L.getD s false = false) : ∀ v W', Below W.heap.size W W' → v = x → RT Q W0 s f (upd val i v) (L.setIfInBounds i true) W' :=
  fun _ _ hb e => RT.step h hQ hb (QG.put HQ hx e) hs hN
theorem RT.goT (h : RQ Q W0 val L W) (hQ : Stays Q) {i : Nat} (hn : ∀ v W, Q i v W) (hs : i ≠ s) (hN : L.getD s false = false) : ∀ v W', Below W.heap.size W W' → True → RT Q W0 s f (upd val i v) (L.setIfInBounds i true) W' :=
  fun v W' hb _ => RT.step h hQ hb (hn v W') hs hN
end
end Go.Proofs.Ythhokiigdgpmcaa

/- A drawn region with one store into a box that was there, anywhere among its operations; all other blocks stay. -/
namespace Go.Proofs.Ythhokiigdgpmcaa
open Go.RowKit

def RK (Q : Nat → Value → World → Prop) (W0 : World) (s q : Nat) (o1 : Obj) (val : Nat → Value) (L : Array Bool) (W : World) : Prop :=
  Kept q W0 W ∧ (∀ j, L.getD j false = true → Q j (val j) W) ∧ (L.getD s false = true → W.heap[q]? = some o1) ∧ (L.getD s false = false → W.heap[q]? = W0.heap[q]?)
section
variable {Q : Nat → Value → World → Prop} {W0 W W' : World} {s q i : Nat} {o1 : Obj} {v : Value} {val : Nat → Value} {L : Array Bool}
theorem RK.start (Q : Nat → Value → World → Prop) (W0 : World) (s q : Nat) (o1 : Obj) (n : Nat) : RK Q W0 s q o1 (fun _ => undef) (Array.replicate n false) W0.drew :=
  ⟨⟨(Below.refl _ _).drew, fun _ _ _ => rfl⟩, fun j h => (by rw [getD_replicate_no] at h; cases h), fun h => (by rw [getD_replicate_no] at h; cases h), fun _ => rfl⟩
theorem RK.vals (h : RK Q W0 s q o1 val L W) (hQ : Still Q) (hq : Q i v W') : ∀ j, (L.setIfInBounds i true).getD j false = true → Q j (upd val i v j) W' := fun j hj => by
  by_cases e : j = i
  · subst e; rw [upd_same]; exact hq
  · rw [upd_other e]
    rw [getD_set_other (fun h => e h.symm)] at hj
    exact hQ _ _ _ _ (h.2.1 j hj)
theorem RK.step (h : RK Q W0 s q o1 val L W) (hQ : Still Q) (hq0 : q < W0.heap.size) (hb : Below W.heap.size W W') (hq : Q i v W') (hs : i ≠ s) : RK Q W0 s q o1 (upd val i v) (L.setIfInBounds i true) W' := by
  have hlt : q < W.heap.size := Nat.lt_of_lt_of_le hq0 h.1.1.size
  refine ⟨h.1.trans (Kept.of hb (Nat.le_of_lt hlt)), h.vals hQ hq, fun hl => ?_, fun hl => ?_⟩
  · rw [getD_set_other hs] at hl
    exact (hb.block q hlt).trans (h.2.2.1 hl)
  · rw [getD_set_other hs] at hl
    exact (hb.block q hlt).trans (h.2.2.2 hl)
theorem RK.store (h : RK Q W0 s q o1 val L W) (hQ : Still Q) (hls : s < L.size) (hk : Kept q W W') (hc : W'.heap[q]? = some o1) (hq : Q s v W') : RK Q W0 s q o1 (upd val s v) (L.setIfInBounds s true) W' :=
  ⟨h.1.trans hk, h.vals hQ hq, fun _ => hc, fun hl => (by rw [getD_set_eq hls] at hl; cases hl)⟩
end
section
variable {Q : Nat → Value → World → Prop} {vals : List (Option Value)} {ex : Nat → Value → World → Prop} {W0 W : World} {s q : Nat} {o1 : Obj} {val : Nat → Value} {L : Array Bool}
theorem RK.go (h : RK Q W0 s q o1 val L W) (hQ : Still Q) (hq0 : q < W0.heap.size) (HQ : Hid (Q = QG vals ex)) (i : Nat) {x : Value} (hx : vals[i]? = some (some x)) (hs : i ≠ s) : ∀ v W', Below W.heap.size W W' → v = x → RK Q W0 s q o1 (upd val i v) (L.setIfInBounds i true) W' :=
  fun _ _ hb e => h.step hQ hq0 hb (QG.put HQ hx e) hs
theorem RK.goT (h : RK Q W0 s q o1 val L W) (hQ : Still Q) (hq0 : q < W0.heap.size) {i : Nat} (hn : ∀ v W, Q i v W) (hs : i ≠ s) : ∀ v W', Below W.heap.size W W' → True → RK Q W0 s q o1 (upd val i v) (L.setIfInBounds i true) W' :=
  fun v W' hb _ => h.step hQ hq0 hb (hn v W') hs
end
end Go.Proofs.Ythhokiigdgpmcaa

/- A drawn region whose last operations fill two boxes that were there, one behind the other. -/
namespace Go.Proofs.Ythhokiigdgpmcaa
open Go.RowKit

def RT2 (Q : Nat → Value → World → Prop) (W0 : World) (s1 s2 : Nat) (f1 f2 : World → World) (val : Nat → Value) (L : Array Bool) (W : World) : Prop :=
  (∀ j, L.getD j false = true → Q j (val j) W) ∧ (L.getD s1 false = false → Below W0.heap.size W0 W) ∧
    (L.getD s1 false = true → (L.getD s2 false = false → ∃ y, Below W0.heap.size W0 y ∧ W = f1 y) ∧ (L.getD s2 false = true → ∃ y, Below W0.heap.size W0 y ∧ W = f2 (f1 y)))
section
variable {Q : Nat → Value → World → Prop} {W0 W W' : World} {s1 s2 i : Nat} {f1 f2 : World → World} {v : Value} {val : Nat → Value} {L : Array Bool}
theorem RT2.start (Q : Nat → Value → World → Prop) (W0 : World) (s1 s2 : Nat) (f1 f2 : World → World) (n : Nat) : RT2 Q W0 s1 s2 f1 f2 (fun _ => undef) (Array.replicate n false) W0.drew :=
  ⟨fun j h => (by rw [getD_replicate_no] at h; cases h), fun _ => (Below.refl _ _).drew, fun h => (by rw [getD_replicate_no] at h; cases h)⟩
theorem RT2.vals (h : RT2 Q W0 s1 s2 f1 f2 val L W) (hQ : Still Q) (hq : Q i v W') : ∀ j, (L.setIfInBounds i true).getD j false = true → Q j (upd val i v j) W' := fun j hj => by
  by_cases e : j = i
  · subst e; rw [upd_same]; exact hq
  · rw [upd_other e]
    rw [getD_set_other (fun h => e h.symm)] at hj
    exact hQ _ _ _ _ (h.1 j hj)
theorem RT2.step (h : RT2 Q W0 s1 s2 f1 f2 val L W) (hQ : Still Q) (hb : Below W.heap.size W W') (hq : Q i v W') (hs : i ≠ s1) (hN : L.getD s1 false = false) : RT2 Q W0 s1 s2 f1 f2 (upd val i v) (L.setIfInBounds i true) W' := by
  refine ⟨h.vals hQ hq, fun _ => (h.2.1 hN).trans (hb.mono (h.2.1 hN).size), fun hl => ?_⟩
  rw [getD_set_other hs, hN] at hl; cases hl
theorem RT2.store1 (h : RT2 Q W0 s1 s2 f1 f2 val L W) (hQ : Still Q) (hq : Q s1 v (f1 W)) (hne : s1 ≠ s2) (hls : s1 < L.size) (hN : L.getD s1 false = false) (hN2 : L.getD s2 false = false) : RT2 Q W0 s1 s2 f1 f2 (upd val s1 v) (L.setIfInBounds s1 true) (f1 W) := by
  refine ⟨h.vals hQ hq, fun hl => ?_, fun _ => ⟨fun _ => ⟨W, h.2.1 hN, rfl⟩, fun hl => ?_⟩⟩
  · rw [getD_set_eq hls] at hl; cases hl
  · rw [getD_set_other hne, hN2] at hl; cases hl
theorem RT2.store2 (h : RT2 Q W0 s1 s2 f1 f2 val L W) (hQ : Still Q) (hq : Q s2 v (f2 W)) (hne : s1 ≠ s2) (hls : s2 < L.size) (hl1 : L.getD s1 false = true) (hN2 : L.getD s2 false = false) : RT2 Q W0 s1 s2 f1 f2 (upd val s2 v) (L.setIfInBounds s2 true) (f2 W) := by
  obtain ⟨y, hy, e⟩ := (h.2.2 hl1).1 hN2
  refine ⟨h.vals hQ hq, fun hl => ?_, fun _ => ⟨fun hl => ?_, fun _ => ⟨y, hy, by rw [e]⟩⟩⟩
  · rw [getD_set_other (fun e => hne e.symm), hl1] at hl; cases hl
  · rw [getD_set_eq hls] at hl; cases hl
theorem RT2.aft (h : RT2 Q W0 s1 s2 f1 f2 val L W) (hQ : Still Q) (hq : Q i v W) (h1 : i ≠ s1) (h2 : i ≠ s2) : RT2 Q W0 s1 s2 f1 f2 (upd val i v) (L.setIfInBounds i true) W := by
  refine ⟨h.vals hQ hq, fun hl => h.2.1 (by rw [getD_set_other h1] at hl; exact hl), fun hl => ?_⟩
  rw [getD_set_other h1] at hl
  rw [getD_set_other h2]
  exact h.2.2 hl
variable {vals : List (Option Value)} {ex : Nat → Value → World → Prop}
theorem RT2.go (h : RT2 Q W0 s1 s2 f1 f2 val L W) (hQ : Still Q) (HQ : Hid (Q = QG vals ex)) (i : Nat) {x : Value} (hx : vals[i]? = some (some x)) (hs : i ≠ s1) (hN : L.getD s1 false = false) : ∀ v W', Below W.heap.size W W' → v = x → RT2 Q W0 s1 s2 f1 f2 (upd val i v) (L.setIfInBounds i true) W' :=
  fun _ _ hb e => h.step hQ hb (QG.put HQ hx e) hs hN
theorem RT2.goT (h : RT2 Q W0 s1 s2 f1 f2 val L W) (hQ : Still Q) {i : Nat} (hn : ∀ v W, Q i v W) (hs : i ≠ s1) (hN : L.getD s1 false = false) : ∀ v W', Below W.heap.size W W' → True → RT2 Q W0 s1 s2 f1 f2 (upd val i v) (L.setIfInBounds i true) W' :=
  fun v W' hb _ => h.step hQ hb (hn v W') hs hN
theorem RT2.goA (h : RT2 Q W0 s1 s2 f1 f2 val L W) (hQ : Still Q) (HQ : Hid (Q = QG vals ex)) (i : Nat) {x : Value} (hx : vals[i]? = some (some x)) (h1 : i ≠ s1) (h2 : i ≠ s2) : ∀ v, v = x → RT2 Q W0 s1 s2 f1 f2 (upd val i v) (L.setIfInBounds i true) W :=
  fun _ e => h.aft hQ (QG.put HQ hx e) h1 h2
end
theorem block_other {W : World} {q g o : Nat} {v : Value} {x : Obj} (h : W.heap[q]? = some x) (hn : q ≠ g) : (W.setCell ⟨g, o, none⟩ v).heap[q]? = some x :=
  (Below.heap_setCell _ _ _ _ hn).trans h
end Go.Proofs.Ythhokiigdgpmcaa

/- bears; Carries and Deepest of both sides. -/
namespace Go.Proofs.Ythhokiigdgpmcaa
open Go.RowKit

theorem hoist_cell (w : World) (cable charge y1 y2 : Int) (AX AY AV : Option Addr) (nx cx ny cy nv cv : Nat) (k : Nat) (v : Value) (T : TypeId) (hk : (#[Value.int .i64 y1, .int .i64 y2] : Array Value)[k]? = some v) :
    ((w.alloc (.cells #[.int .i64 cable, .slice AX nx cx, .slice AY ny cy, .slice AV nv cv, .int .i64 charge] T)).alloc (.cells #[.int .i64 y1, .int .i64 y2] 34)).cell? ⟨w.heap.size + 1, k, none⟩ = some v := by
  rw [show w.heap.size + 1 = (w.alloc (.cells #[.int .i64 cable, .slice AX nx cx, .slice AY ny cy, .slice AV nv cv, .int .i64 charge] T)).heap.size by simp, cell_newest]
  exact hk

section
variable (cable charge y1 y2 len wt : Int) (AX AY AV : Option Addr) (nx cx ny cy nv cv B : Nat) (X Y : List Int) (V : List (List Int)) (w : World)

theorem carN_bad (h : cwE X Y V cable charge y1 y2 ≠ 0) : carN X Y V cable charge y1 y2 len wt = (false, cwE X Y V cable charge y1 y2) := by unfold carN; rw [if_neg h]
theorem carN_arg (h : cwE X Y V cable charge y1 y2 = 0) (h2 : ¬ ((0 ≤ len ∧ len ≤ cable) ∧ (1 ≤ wt ∧ wt ≤ 100000))) : carN X Y V cable charge y1 y2 len wt = (false, 1) := by unfold carN; rw [if_pos h, if_neg h2]
theorem carN_yes (h : cwE X Y V cable charge y1 y2 = 0) (h2 : (0 ≤ len ∧ len ≤ cable) ∧ (1 ≤ wt ∧ wt ≤ 100000)) : carN X Y V cable charge y1 y2 len wt = (beaB X Y V len y1 y2 wt, 0) := by unfold carN; rw [if_pos h, if_pos h2]
theorem carB_pos (a b : Int) (h : 1 ≤ wt) : carB X Y V a b y1 y2 wt = decide (wt ≤ loS X Y V a b y1 y2) := by
  unfold carB
  rw [show decide (wt = 0) = false by simp; omega]
  simp

end
end Go.Proofs.Ythhokiigdgpmcaa

/- Blocks that are new, and old ones. -/
namespace Go.Proofs.Ythhokiigdgpmcaa
open Go.RowKit

theorem blk_new (W : World) (o : Obj) (b : Nat) (h : W.heap.size = b) : (W.alloc o).heap[b]? = some o := by
  subst h
  show (W.heap.push _)[W.heap.size]? = _
  simp
theorem blk_old {W : World} {b : Nat} {x : Obj} (o : Obj) (h : W.heap[b]? = some x) : (W.alloc o).heap[b]? = some x := by
  have hl : b < W.heap.size := by
    rw [Array.getElem?_eq_some_iff] at h
    exact h.1
  exact (Below.heap_alloc _ _ _ hl).trans h
end Go.Proofs.Ythhokiigdgpmcaa

/- A drawn region that makes two boxes and fills both: wherever the makings and the fillings come. -/
namespace Go.Proofs.Ythhokiigdgpmcaa
open Go.RowKit

def RBX (W0 : World) (al st : Nat) (c0 c1 : Array Value) (T : TypeId) (val : Nat → Value) (L : Array Bool) (W : World) : Prop :=
  L.getD al false = true → ∃ q, val al = .pointer (some ⟨q, 0, none⟩) ∧ W0.heap.size ≤ q ∧ W.heap[q]? = some (.cells (if L.getD st false then c1 else c0) T (0, 0))
def RBB (Q : Nat → Value → World → Prop) (W0 : World) (a1 a2 s1 s2 : Nat) (c0 c1 c2 : Array Value) (T : TypeId) (val : Nat → Value) (L : Array Bool) (W : World) : Prop :=
  Below W0.heap.size W0 W ∧ (∀ j, L.getD j false = true → j ≠ a1 → j ≠ a2 → Q j (val j) W) ∧ RBX W0 a1 s1 c0 c1 T val L W ∧ RBX W0 a2 s2 c0 c2 T val L W ∧
  (L.getD a1 false = true → L.getD a2 false = true → val a1 ≠ val a2)
section
variable {Q : Nat → Value → World → Prop} {W0 W W' : World} {a1 a2 s1 s2 i al st : Nat} {c0 c1 c2 : Array Value} {T : TypeId} {v : Value} {val : Nat → Value} {L : Array Bool}
theorem RBX.step (h : RBX W0 al st c0 c1 T val L W) (hb : Below W.heap.size W W') (h1 : i ≠ al) (h2 : i ≠ st) : RBX W0 al st c0 c1 T (upd val i v) (L.setIfInBounds i true) W' := fun hl => by
  rw [getD_set_other h1] at hl
  obtain ⟨q, e1, e2, e3⟩ := h hl
  exact ⟨q, by rw [upd_other (fun e => h1 e.symm)]; exact e1, e2, by rw [getD_set_other h2]; exact (hb.block q (lt_of_block e3)).trans e3⟩
theorem RBX.made (hM : W0.heap.size ≤ W.heap.size) (hN : L.getD st false = false) (hne : al ≠ st) : RBX W0 al st c0 c1 T (upd val al (.pointer (some ⟨W.heap.size, 0, none⟩))) (L.setIfInBounds al true) (W.alloc (.cells c0 T)) := fun _ =>
  ⟨_, upd_same _ _ _, hM, by rw [getD_set_other hne, hN, if_neg (by simp)]; exact blk_new _ _ _ rfl⟩
theorem RBX.filled {q : Nat} (ha : val al = .pointer (some ⟨q, 0, none⟩)) (hM : W0.heap.size ≤ q) (hs : st < L.size) (hblk : W'.heap[q]? = some (.cells c1 T (0, 0))) (hne : al ≠ st) : RBX W0 al st c0 c1 T (upd val st v) (L.setIfInBounds st true) W' := fun _ =>
  ⟨q, by rw [upd_other hne]; exact ha, hM, by rw [getD_set_eq hs]; exact hblk⟩
theorem RBX.other {q : Nat} (h : RBX W0 al st c0 c1 T val L W) (hk : ∀ b, b ≠ q → W'.heap[b]? = W.heap[b]?) (hne : L.getD al false = true → val al ≠ .pointer (some ⟨q, 0, none⟩)) (h1 : i ≠ al) (h2 : i ≠ st) : RBX W0 al st c0 c1 T (upd val i v) (L.setIfInBounds i true) W' := fun hl => by
  rw [getD_set_other h1] at hl
  obtain ⟨q', e1, e2, e3⟩ := h hl
  refine ⟨q', by rw [upd_other (fun e => h1 e.symm)]; exact e1, e2, ?_⟩
  rw [getD_set_other h2, hk q' (fun e => hne hl (by rw [e1, e]))]
  exact e3
theorem RBB.start (Q : Nat → Value → World → Prop) (W0 : World) (a1 a2 s1 s2 : Nat) (c0 c1 c2 : Array Value) (T : TypeId) (n : Nat) : RBB Q W0 a1 a2 s1 s2 c0 c1 c2 T (fun _ => undef) (Array.replicate n false) W0.drew :=
  ⟨(Below.refl _ _).drew, fun j h => (by rw [getD_replicate_no] at h; cases h), fun h => (by rw [getD_replicate_no] at h; cases h), fun h => (by rw [getD_replicate_no] at h; cases h), fun h => (by rw [getD_replicate_no] at h; cases h)⟩
theorem RBB.vals (h : RBB Q W0 a1 a2 s1 s2 c0 c1 c2 T val L W) (hQ : Still Q) (hq : i ≠ a1 → i ≠ a2 → Q i v W') : ∀ j, (L.setIfInBounds i true).getD j false = true → j ≠ a1 → j ≠ a2 → Q j (upd val i v j) W' := fun j hj h1 h2 => by
  by_cases e : j = i
  · subst e; rw [upd_same]; exact hq h1 h2
  · rw [upd_other e]
    rw [getD_set_other (fun h => e h.symm)] at hj
    exact hQ _ _ _ _ (h.2.1 j hj h1 h2)
theorem RBB.step (h : RBB Q W0 a1 a2 s1 s2 c0 c1 c2 T val L W) (hQ : Still Q) (hq : Q i v W) (h1 : i ≠ a1) (h2 : i ≠ a2) (h3 : i ≠ s1) (h4 : i ≠ s2) : RBB Q W0 a1 a2 s1 s2 c0 c1 c2 T (upd val i v) (L.setIfInBounds i true) W :=
  ⟨h.1, h.vals hQ (fun _ _ => hq), h.2.2.1.step (Below.refl _ _) h1 h3, h.2.2.2.1.step (Below.refl _ _) h2 h4, fun k1 k2 => by
    rw [getD_set_other h1] at k1
    rw [getD_set_other h2] at k2
    rw [upd_other (fun e => h1 e.symm), upd_other (fun e => h2 e.symm)]
    exact h.2.2.2.2 k1 k2⟩
theorem RBB.stepB (h : RBB Q W0 a1 a2 s1 s2 c0 c1 c2 T val L W) (hQ : Still Q) (hq : Q i v W') (hb : Below W.heap.size W W') (h1 : i ≠ a1) (h2 : i ≠ a2) (h3 : i ≠ s1) (h4 : i ≠ s2) : RBB Q W0 a1 a2 s1 s2 c0 c1 c2 T (upd val i v) (L.setIfInBounds i true) W' :=
  ⟨h.1.trans (hb.mono h.1.size), h.vals hQ (fun _ _ => hq), h.2.2.1.step hb h1 h3, h.2.2.2.1.step hb h2 h4, fun k1 k2 => by
    rw [getD_set_other h1] at k1
    rw [getD_set_other h2] at k2
    rw [upd_other (fun e => h1 e.symm), upd_other (fun e => h2 e.symm)]
    exact h.2.2.2.2 k1 k2⟩
theorem RBX.lt (h : RBX W0 al st c0 c1 T val L W) (hl : L.getD al false = true) : val al ≠ .pointer (some ⟨W.heap.size, 0, none⟩) := fun e => by
  obtain ⟨q, e1, _, e3⟩ := h hl
  rw [e1] at e
  injection e with e
  injection e with e
  injection e with e
  have := lt_of_block e3
  omega
theorem RBB.made1 (h : RBB Q W0 a1 a2 s1 s2 c0 c1 c2 T val L W) (hQ : Still Q) (hN : L.getD s1 false = false) (n12 : a1 ≠ a2) (n1 : a1 ≠ s1) (n2 : a1 ≠ s2) : RBB Q W0 a1 a2 s1 s2 c0 c1 c2 T (upd val a1 (.pointer (some ⟨W.heap.size, 0, none⟩))) (L.setIfInBounds a1 true) (W.alloc (.cells c0 T)) := by
  have hb : Below W.heap.size W (W.alloc (.cells c0 T)) := (Below.refl _ _).alloc (Nat.le_refl _) _
  refine ⟨h.1.trans (hb.mono h.1.size), h.vals hQ (fun k _ => absurd rfl k), RBX.made h.1.size hN n1, h.2.2.2.1.step hb n12 n2, fun _ k2 => ?_⟩
  rw [getD_set_other n12] at k2
  rw [upd_same, upd_other (fun e => n12 e.symm)]
  exact fun e => h.2.2.2.1.lt k2 e.symm
theorem RBB.made2 (h : RBB Q W0 a1 a2 s1 s2 c0 c1 c2 T val L W) (hQ : Still Q) (hN : L.getD s2 false = false) (n12 : a1 ≠ a2) (n1 : a2 ≠ s1) (n2 : a2 ≠ s2) : RBB Q W0 a1 a2 s1 s2 c0 c1 c2 T (upd val a2 (.pointer (some ⟨W.heap.size, 0, none⟩))) (L.setIfInBounds a2 true) (W.alloc (.cells c0 T)) := by
  have hb : Below W.heap.size W (W.alloc (.cells c0 T)) := (Below.refl _ _).alloc (Nat.le_refl _) _
  refine ⟨h.1.trans (hb.mono h.1.size), h.vals hQ (fun _ k => absurd rfl k), h.2.2.1.step hb (fun e => n12 e.symm) n1, RBX.made h.1.size hN n2, fun k1 _ => ?_⟩
  rw [getD_set_other (fun e => n12 e.symm)] at k1
  rw [upd_same, upd_other n12]
  exact h.2.2.1.lt k1
theorem RBB.filled1 {q : Nat} (h : RBB Q W0 a1 a2 s1 s2 c0 c1 c2 T val L W) (hQ : Still Q) (hq : Q s1 v W') (hl1 : L.getD a1 false = true) (ha : val a1 = .pointer (some ⟨q, 0, none⟩)) (hM : W0.heap.size ≤ q) (hs : s1 < L.size) (hb : Below W0.heap.size W0 W') (hk : ∀ b, b ≠ q → W'.heap[b]? = W.heap[b]?) (hblk : W'.heap[q]? = some (.cells c1 T (0, 0))) (n1 : a1 ≠ s1) (n2 : s1 ≠ a2) (n3 : s1 ≠ s2) : RBB Q W0 a1 a2 s1 s2 c0 c1 c2 T (upd val s1 v) (L.setIfInBounds s1 true) W' := by
  refine ⟨hb, h.vals hQ (fun _ _ => hq), RBX.filled ha hM hs hblk n1, h.2.2.2.1.other hk (fun k2 e => h.2.2.2.2 hl1 k2 (by rw [ha, e])) n2 n3, fun k1 k2 => ?_⟩
  rw [getD_set_other (fun e => n1 e.symm)] at k1
  rw [getD_set_other n2] at k2
  rw [upd_other n1, upd_other (fun e => n2 e.symm)]
  exact h.2.2.2.2 k1 k2
theorem RBB.filled2 {q : Nat} (h : RBB Q W0 a1 a2 s1 s2 c0 c1 c2 T val L W) (hQ : Still Q) (hq : Q s2 v W') (hl2 : L.getD a2 false = true) (ha : val a2 = .pointer (some ⟨q, 0, none⟩)) (hM : W0.heap.size ≤ q) (hs : s2 < L.size) (hb : Below W0.heap.size W0 W') (hk : ∀ b, b ≠ q → W'.heap[b]? = W.heap[b]?) (hblk : W'.heap[q]? = some (.cells c2 T (0, 0))) (n1 : a2 ≠ s2) (n2 : s2 ≠ a1) (n3 : s2 ≠ s1) : RBB Q W0 a1 a2 s1 s2 c0 c1 c2 T (upd val s2 v) (L.setIfInBounds s2 true) W' := by
  refine ⟨hb, h.vals hQ (fun _ _ => hq), h.2.2.1.other hk (fun k1 e => h.2.2.2.2 k1 hl2 (by rw [ha, e])) n2 n3, RBX.filled ha hM hs hblk n1, fun k1 k2 => ?_⟩
  rw [getD_set_other n2] at k1
  rw [getD_set_other (fun e => n1 e.symm)] at k2
  rw [upd_other n1, upd_other (fun e => n2 e.symm)]
  exact h.2.2.2.2 k1 k2
variable {vals : List (Option Value)} {ex : Nat → Value → World → Prop}
theorem RBB.go (h : RBB Q W0 a1 a2 s1 s2 c0 c1 c2 T val L W) (hQ : Still Q) (HQ : Hid (Q = QG vals ex)) (i : Nat) {x : Value} (hx : vals[i]? = some (some x)) (h1 : i ≠ a1) (h2 : i ≠ a2) (h3 : i ≠ s1) (h4 : i ≠ s2) : ∀ v, v = x → RBB Q W0 a1 a2 s1 s2 c0 c1 c2 T (upd val i v) (L.setIfInBounds i true) W :=
  fun _ e => h.step hQ (QG.put HQ hx e) h1 h2 h3 h4
theorem RBB.goB (h : RBB Q W0 a1 a2 s1 s2 c0 c1 c2 T val L W) (hQ : Still Q) (HQ : Hid (Q = QG vals ex)) (i : Nat) {x : Value} (hx : vals[i]? = some (some x)) (h1 : i ≠ a1) (h2 : i ≠ a2) (h3 : i ≠ s1) (h4 : i ≠ s2) : ∀ v W', Below W.heap.size W W' → v = x → RBB Q W0 a1 a2 s1 s2 c0 c1 c2 T (upd val i v) (L.setIfInBounds i true) W' :=
  fun _ _ hb e => h.stepB hQ (QG.put HQ hx e) hb h1 h2 h3 h4
end
theorem heap_sets {W : World} {q : Nat} : ∀ (l : List (Nat × Value)) (b : Nat), b ≠ q → (l.foldl (fun y p => y.setCell ⟨q, p.1, none⟩ p.2) W).heap[b]? = W.heap[b]?
  | [], _, _ => rfl
  | p :: l, b, h => (heap_sets (W := W.setCell ⟨q, p.1, none⟩ p.2) l b h).trans (Below.heap_setCell _ _ _ _ h)
end Go.Proofs.Ythhokiigdgpmcaa

/- A drawn region with an append of one number to a list of the call's own, and reads of other blocks in any order with it. -/
namespace Go.Proofs.Ythhokiigdgpmcaa
open Go.RowKit

/-- A slice of one number, in memory. -/
def OneI (y : Int) (v : Value) (W : World) : Prop := ∃ g, v = .slice (some ⟨g, 0, none⟩) 1 1 ∧ W.cell? ⟨g, 0, none⟩ = some (.int .i64 y)
theorem OneI.stay {y : Int} {v : Value} {W W' : World} (h : OneI y v W) (hb : Below W.heap.size W W') : OneI y v W' := by
  obtain ⟨g, e, h1⟩ := h
  exact ⟨g, e, cell_keep hb h1⟩
theorem OneI.new {y : Int} {W : World} {T : TypeId} {m : Nat × Nat} : OneI y (.slice (some ⟨W.heap.size, 0, none⟩) 1 1) (W.alloc (.cells #[.int .i64 y] T m)) :=
  ⟨_, rfl, by rw [cell_newest]; rfl⟩
theorem step_pushI {F : Fence} {n : Nat} {w : World} {o : Oper} {a : Act} {K : Act → World → Prop} {Q : Exit → Act → World → Prop} (s x : Operand)
    (hop : o.op = .call { callee := .builtin .append, args := #[s, x], argTypes := #[22, 22] }) (base : Nat) (v : Value) (xs : List Int) (hs : a.eval s = v) (hown : OI base v xs w)
    (vx : Value) (y : Int) (hx : a.eval x = vx) (hy : OneI y vx w) (hlen : xs.length ≤ 1000000) (hbase : base ≤ w.heap.size)
    (h : ∀ v' w', OI base v' (xs ++ [y]) w' → w.grownBy w' v.ownBlock → K (a.put o.dst v') w') : o.wpIn F n Try.prog a w K Q := by
  obtain ⟨g, rfl, h1⟩ := hy
  exact step_push s x hop base v xs hs hown g y hx h1 hlen hbase h

def RA (Q E : Nat → Value → World → Prop) (W0 : World) (s t : Nat) (u : Value) (P : Value → World → Prop) (val : Nat → Value) (L : Array Bool) (W : World) : Prop :=
  (∀ j, L.getD j false = true → j ≠ s → j ≠ t → Q j (val j) W) ∧
  (L.getD s false = false → Below W0.heap.size W0 W ∧ ∀ j, L.getD j false = true → E j (val j) W) ∧
  (L.getD s false = true → P (val s) W ∧ (L.getD t false = true → val t = val s) ∧ ∃ y, Below W0.heap.size W0 y ∧ y.grownBy W u.ownBlock)
section
variable {Q E : Nat → Value → World → Prop} {W0 W W' : World} {s t i : Nat} {u v : Value} {P : Value → World → Prop} {val : Nat → Value} {L : Array Bool}
theorem World.grownBy.same {w : World} {r : Option Nat} : w.grownBy w r := ⟨rfl, rfl, rfl, Nat.le_refl _, fun _ _ _ => rfl⟩
theorem RA.start (Q E : Nat → Value → World → Prop) (W0 : World) (s t : Nat) (u : Value) (P : Value → World → Prop) (n : Nat) : RA Q E W0 s t u P (fun _ => undef) (Array.replicate n false) W0.drew :=
  ⟨fun j h => (by rw [getD_replicate_no] at h; cases h), fun _ => ⟨(Below.refl _ _).drew, fun j h => (by rw [getD_replicate_no] at h; cases h)⟩, fun h => (by rw [getD_replicate_no] at h; cases h)⟩
theorem RA.vals (h : RA Q E W0 s t u P val L W) (hQ : Still Q) (hq : Q i v W') : ∀ j, (L.setIfInBounds i true).getD j false = true → j ≠ s → j ≠ t → Q j (upd val i v j) W' := fun j hj h1 h2 => by
  by_cases e : j = i
  · subst e; rw [upd_same]; exact hq
  · rw [upd_other e]
    rw [getD_set_other (fun h => e h.symm)] at hj
    exact hQ _ _ _ _ (h.1 j hj h1 h2)
/-- An operation ahead of the append. -/
theorem RA.step (h : RA Q E W0 s t u P val L W) (hQ : Still Q) (hE : Stays E) (hN : L.getD s false = false) (hb : Below W.heap.size W W') (hq : Q i v W') (he : E i v W') (hs : i ≠ s) : RA Q E W0 s t u P (upd val i v) (L.setIfInBounds i true) W' := by
  refine ⟨h.vals hQ hq, fun _ => ⟨(h.2.1 hN).1.trans (hb.mono (h.2.1 hN).1.size), fun j hj => ?_⟩, fun h2 => (by rw [getD_set_other hs, hN] at h2; cases h2)⟩
  by_cases e : j = i
  · subst e; rw [upd_same]; exact he
  · rw [upd_other e]
    rw [getD_set_other (fun h => e h.symm)] at hj
    exact hE _ _ _ _ ((h.2.1 hN).2 j hj) hb
/-- An operation that reads. -/
theorem RA.read (h : RA Q E W0 s t u P val L W) (hQ : Still Q) (_hE : Stays E) (hq : Q i v W) (he : E i v W) (hs : i ≠ s) (ht : i ≠ t) : RA Q E W0 s t u P (upd val i v) (L.setIfInBounds i true) W := by
  refine ⟨h.vals hQ hq, fun h2 => ?_, fun h2 => ?_⟩
  · rw [getD_set_other hs] at h2
    refine ⟨(h.2.1 h2).1, fun j hj => ?_⟩
    by_cases e : j = i
    · subst e; rw [upd_same]; exact he
    · rw [upd_other e]
      rw [getD_set_other (fun h => e h.symm)] at hj
      exact (h.2.1 h2).2 j hj
  · rw [getD_set_other hs] at h2
    obtain ⟨a, b, c⟩ := h.2.2 h2
    refine ⟨by rw [upd_other (fun e => hs e.symm)]; exact a, fun h3 => ?_, c⟩
    rw [getD_set_other ht] at h3
    rw [upd_other (fun e => ht e.symm), upd_other (fun e => hs e.symm)]
    exact b h3
theorem RA.push (h : RA Q E W0 s t u P val L W) (hQ : Still Q) (hls : s < L.size) (hN : L.getD s false = false) (hT : L.getD t false = false) (hst : s ≠ t) (hp : P v W') (hg : W.grownBy W' u.ownBlock) : RA Q E W0 s t u P (upd val s v) (L.setIfInBounds s true) W' := by
  refine ⟨fun j hj h1 h2 => ?_, fun h2 => (by rw [getD_set_eq hls] at h2; cases h2), fun _ => ⟨by rw [upd_same]; exact hp, fun h3 => (by rw [getD_set_other hst, hT] at h3; cases h3), W, (h.2.1 hN).1, hg⟩⟩
  rw [upd_other h1]
  rw [getD_set_other (fun h => h1 h.symm)] at hj
  exact hQ _ _ _ _ (h.1 j hj h1 h2)
theorem RA.assign (h : RA Q E W0 s t u P val L W) (hS : L.getD s false = true) (hst : s ≠ t) : RA Q E W0 s t u P (upd val t (val s)) (L.setIfInBounds t true) W := by
  refine ⟨fun j hj h1 h2 => ?_, fun h2 => (by rw [getD_set_other hst.symm, hS] at h2; cases h2), fun _ => ?_⟩
  · rw [upd_other h2]
    rw [getD_set_other (fun h => h2 h.symm)] at hj
    exact h.1 j hj h1 h2
  · obtain ⟨a, b, c⟩ := h.2.2 hS
    exact ⟨by rw [upd_other hst]; exact a, fun _ => by rw [upd_same, upd_other hst], c⟩
theorem RA.blk {b : Nat} {o : Obj} (h : RA Q E W0 s t u P val L W) (hb : W0.heap[b]? = some o) (hne : some b ≠ u.ownBlock) : W.heap[b]? = some o := by
  cases hs : L.getD s false with
  | false => exact ((h.2.1 hs).1.block b (lt_of_block hb)).trans hb
  | true =>
    obtain ⟨_, _, y, hy, hg⟩ := h.2.2 hs
    have h1 := (hy.block b (lt_of_block hb)).trans hb
    exact (hg.block b (lt_of_block h1) hne).trans h1
theorem RA.cell {b o : Nat} {x : Value} (h : RA Q E W0 s t u P val L W) (hb : W0.cell? ⟨b, o, none⟩ = some x) (hne : some b ≠ u.ownBlock) : W.cell? ⟨b, o, none⟩ = some x := by
  cases hs : L.getD s false with
  | false => exact cell_keep (h.2.1 hs).1 hb
  | true =>
    obtain ⟨_, _, y, hy, hg⟩ := h.2.2 hs
    have h1 := cell_keep hy hb
    exact (World.cell?_of_block (hg.block b (World.block_lt_of_cell? _ _ h1) hne)).trans h1
variable {vals : List (Option Value)} {ex : Nat → Value → World → Prop}
theorem RA.go (h : RA Q E W0 s t u P val L W) (hQ : Still Q) (hE : Stays E) (hN : L.getD s false = false) (HQ : Hid (Q = QG vals ex)) (i : Nat) {x : Value} (hx : vals[i]? = some (some x)) (he : ∀ v W, E i v W) (hs : i ≠ s) : ∀ v W', Below W.heap.size W W' → v = x → RA Q E W0 s t u P (upd val i v) (L.setIfInBounds i true) W' :=
  fun v W' hb e => h.step hQ hE hN hb (QG.put HQ hx e) (he v W') hs
theorem RA.goR (h : RA Q E W0 s t u P val L W) (hQ : Still Q) (hE : Stays E) (HQ : Hid (Q = QG vals ex)) (i : Nat) {x : Value} (hx : vals[i]? = some (some x)) (he : ∀ v W, E i v W) (hs : i ≠ s) (ht : i ≠ t) : ∀ v, v = x → RA Q E W0 s t u P (upd val i v) (L.setIfInBounds i true) W :=
  fun v e => h.read hQ hE (QG.put HQ hx e) (he v W) hs ht
end
theorem Fr.gvs {Q : Nat → Value → World → Prop} {vals : List (Option Value)} {ex : Nat → Value → World → Prop} {ops : Array Oper} {T : Array Value} {val : Nat → Value} {L : Array Bool} {a : Act} {W : World} {s' t' : Nat} (h : Fr ops T val L a) (hR : ∀ j, L.getD j false = true → j ≠ s' → j ≠ t' → Q j (val j) W) (HQ : Hid (Q = QG vals ex)) (i : Nat) (h1 : i ≠ s') (h2 : i ≠ t') {s : Tmp} {x : Value} (hi : dstOf ops i = some s) (hl : L.getD i false = true) (hx : vals[i]? = some (some x)) : a.tmps[s]?.getD undef = x :=
  h.gave i hi hl (QG.val HQ hx (hR i hl h1 h2))
end Go.Proofs.Ythhokiigdgpmcaa

/- needs, margin of a machine. -/
namespace Go.Proofs.Ythhokiigdgpmcaa
open Go.RowKit

set_option maxRecDepth 100000
theorem mneeds_any (r : RO) (a : AI) (MS : Array Value) (hm : MS = #[.slice r.h.ax r.h.X.length r.h.cx, .slice r.h.ay r.h.Y.length r.h.cy, .slice r.h.av r.h.V.length r.h.cv, .slice r.g.ax r.g.X.length r.g.cx, .slice r.g.ay r.g.Y.length r.g.cy, .slice r.g.av r.g.V.length r.g.cv, .slice r.l.ax r.l.X.length r.l.cx, .slice r.l.ay r.l.Y.length r.l.cy, .slice r.l.av r.l.V.length r.l.cv, .slice r.p.ax r.p.X.length r.p.cx, .slice r.p.ay r.p.Y.length r.p.cy, .slice r.p.av r.p.V.length r.p.cv, .slice r.n.ax r.n.X.length r.n.cx, .slice r.n.ay r.n.Y.length r.n.cy, .slice r.n.av r.n.V.length r.n.cv, .slice r.a.ax r.a.X.length r.a.cx, .slice r.a.ay r.a.Y.length r.a.cy, .slice r.a.av r.a.V.length r.a.cv, .slice r.b.ax r.b.X.length r.b.cx, .slice r.b.ay r.b.Y.length r.b.cy, .slice r.b.av r.b.V.length r.b.cv, .slice r.d.ax r.d.X.length r.d.cx, .slice r.d.ay r.d.Y.length r.d.cy, .slice r.d.av r.d.V.length r.d.cv, .int .i64 r.cl, .int .i64 r.bu, .int .i64 a.w.1, .int .i64 a.w.2, .int .i64 a.t.1, .int .i64 a.t.2, .int .i64 a.h.1, .int .i64 a.h.2, .int .i64 a.v.1, .int .i64 a.v.2]) (s : Int × Int) (w : World) (rg : RG w r) (hv : Hov r a s) :
    Calls Try.prog 62 #[.agg MS, .agg #[.int .i64 s.1, .int .i64 s.2]] w fun e w' => e = .returned (.agg #[.int .i64 (ndN r a s).1, .int .i64 (ndN r a s).2]) ∧ Below w.heap.size w w' := by
  have HH := Lib.hid (fun (W : World) => show Calls Try.prog 60 #[.agg MS] W fun e w' => e = .returned (.agg #[.slice r.h.ax r.h.X.length r.h.cx, .slice r.h.ay r.h.Y.length r.h.cy, .slice r.h.av r.h.V.length r.h.cv, .int .i64 a.w.1, .int .i64 a.w.2, .int .i64 a.t.1, .int .i64 a.t.2]) ∧ Below W.heap.size W w' by rw [hm]; exact hover_any r a W)
  have HG := Lib.hid (fun (W : World) => show Calls Try.prog 61 #[.agg MS, .agg #[.int .i64 s.1, .int .i64 s.2]] W fun e w' => e = .returned (.agg #[.slice r.g.ax r.g.X.length r.g.cx, .slice r.g.ay r.g.Y.length r.g.cy, .slice r.g.av r.g.V.length r.g.cv, .int .i64 s.1, .int .i64 s.2, .int .i64 a.v.1, .int .i64 a.v.2]) ∧ Below W.heap.size W w' by rw [hm]; exact ground_any r a s W)
  have HBH := Lib.hid (fun (W : World) (hW : Below w.heap.size w W) => show Calls Try.prog 67 #[.agg #[.slice r.h.ax r.h.X.length r.h.cx, .slice r.h.ay r.h.Y.length r.h.cy, .slice r.h.av r.h.V.length r.h.cv, .int .i64 a.w.1, .int .i64 a.w.2, .int .i64 a.t.1, .int .i64 a.t.2]] W fun e w' => e = .returned (.agg #[.int .i64 (loH r a).bn.1, .int .i64 (loH r a).bn.2]) ∧ Below W.heap.size W w' from lbound_any (loH r a) W (rg.h.below hW) hv.h.cb)
  have HBG := Lib.hid (fun (W : World) (hW : Below w.heap.size w W) => show Calls Try.prog 67 #[.agg #[.slice r.g.ax r.g.X.length r.g.cx, .slice r.g.ay r.g.Y.length r.g.cy, .slice r.g.av r.g.V.length r.g.cv, .int .i64 s.1, .int .i64 s.2, .int .i64 a.v.1, .int .i64 a.v.2]] W fun e w' => e = .returned (.agg #[.int .i64 (loG r a s).bn.1, .int .i64 (loG r a s).bn.2]) ∧ Below W.heap.size W w' from lbound_any (loG r a s) W (rg.g.below hW) hv.g.cb)
  have b1 := hv.h.bd (by omega) (by omega)
  have b2 := hv.g.bd (by omega) (by omega)
  have b3 := hv.h.le
  have b4 := hv.g.le
  unfold ndN
  generalize (loH r a).bn.1 = p1 at *
  generalize (loH r a).bn.2 = p2 at *
  generalize (loG r a s).bn.1 = q1 at *
  generalize (loG r a s).bn.2 = q2 at *
  have m1 := mul_mono (a := 0) (b := 0) (c := p1) (d := q1) (by omega) (by omega) (by omega) (by omega)
  have m2 := mul_mono (a := p1) (b := q1) (c := 100000) (d := 100) (by omega) (by omega) (by omega) (by omega)
  have m3 := mul_mono (a := 0) (b := 0) (c := p2) (d := q2) (by omega) (by omega) (by omega) (by omega)
  have m4 := mul_mono (a := p2) (b := q2) (c := 100000) (d := 100) (by omega) (by omega) (by omega) (by omega)
  have HF := Lib.hid (fun (W : World) => floor_any (p1 * q1) 100 W (by omega) (by omega) (by omega) (by omega))
  have HC := Lib.hid (fun (W : World) => ceil_any (p2 * q2) 100 W (by omega) (by omega) (by omega) (by omega))
  have hw1 : IntKind.i64.wrap (p1 * q1) = p1 * q1 := IntWalk.i64_in _ (by omega)
  have hw2 : IntKind.i64.wrap (p2 * q2) = p2 * q2 := IntWalk.i64_in _ (by omega)
  clear m1 m2 m3 m4 b1 b2 b3 b4
  generalize hx1 : p1 * q1 = x1 at *
  generalize hx2 : p2 * q2 = x2 at *
  generalize fl x1 100 = f1 at *
  generalize cl x2 100 = f2 at *
  have HMZ := Lib.hid (show MS.size = 34 by rw [hm]; rfl)
  have X1 := Lib.hid (((BK.new (w := w) (cs := MS) (T := 87)).old (x := .cells #[.int .i64 s.1, .int .i64 s.2] 34)).old (x := .cells #[.int .i64 0, .int .i64 0] 34))
  have X2 := Lib.hid ((BK.newg (w := w.alloc (.cells MS 87)) (g := w.heap.size + 1) (cs := #[.int .i64 s.1, .int .i64 s.2]) (T := 34) (by simp)).old (x := .cells #[.int .i64 0, .int .i64 0] 34))
  have X3 := Lib.hid (BK.newg (w := (w.alloc (.cells MS 87)).alloc (.cells #[.int .i64 s.1, .int .i64 s.2] 34)) (g := w.heap.size + 1 + 1) (cs := #[.int .i64 0, .int .i64 0]) (T := 34) (by simp))
  have HB := Lib.hid (show Below w.heap.size w (((w.alloc (.cells MS 87)).alloc (.cells #[.int .i64 s.1, .int .i64 s.2] 34)).alloc (.cells #[.int .i64 0, .int .i64 0] 34)) by go_grown)
  clear hm hv rg
  go_enter Try.func62, Try.ntmps62
  go_upto_region 1 with fail
  generalize ((w.alloc (.cells MS 87)).alloc (.cells #[.int .i64 s.1, .int .i64 s.2] 34)).alloc (.cells #[.int .i64 0, .int .i64 0] 34) = W1 at *
  have s0 : W1.cell? ⟨w.heap.size + 1, 0, none⟩ = some (.int .i64 s.1) := X2.out.cell 0
  have s1 : W1.cell? ⟨w.heap.size + 1, 1, none⟩ = some (.int .i64 s.2) := X2.out.cell 1
  obtain ⟨Qa, hQa⟩ : ∃ q9 : Nat → Value → World → Prop, q9 = QG [some (.agg MS), some (.agg #[.slice r.h.ax r.h.X.length r.h.cx, .slice r.h.ay r.h.Y.length r.h.cy, .slice r.h.av r.h.V.length r.h.cv, .int .i64 a.w.1, .int .i64 a.w.2, .int .i64 a.t.1, .int .i64 a.t.2]), some (.agg #[.int .i64 p1, .int .i64 p2]), some (.agg MS), some (.agg #[.int .i64 s.1, .int .i64 s.2]), some (.agg #[.slice r.g.ax r.g.X.length r.g.cx, .slice r.g.ay r.g.Y.length r.g.cy, .slice r.g.av r.g.V.length r.g.cv, .int .i64 s.1, .int .i64 s.2, .int .i64 a.v.1, .int .i64 a.v.2]), some (.agg #[.int .i64 q1, .int .i64 q2]), none, none, none, none] (fun _ _ _ => True) := ⟨_, rfl⟩
  have hSt : Still Qa := by rw [hQa]; exact QG.still
  have HQa := Lib.hid hQa
  clear hQa
  refine wpIn_wide.1 (region_inv2 (n := 9) (by kernel_rfl) (RBB Qa W1 7 8 9 10 #[.int .i64 0, .int .i64 0] #[.int .i64 p1, .int .i64 p2] #[.int .i64 q1, .int .i64 q2] 34) (by kernel_rfl) rfl (RBB.start _ _ _ _ _ _ _ _ _ _ _) ?hstepa ?henda)
  case hstepa =>
    intro i' o ho val L b' x9 hF hR hpre hl
    match i', ho with
    | 0, ho =>
      simp at ho; subst ho; refine step_plain rfl ?_; have e2 := hF.was 2 (by kernel_rfl) rfl; have hgoal := hR.goB hSt HQa 0 rfl (by decide) (by decide) (by decide) (by decide)
      exact inM (X1.out.keep hR.1) HMZ.out (e2.trans rfl) ⟨_, rfl, hgoal _ _ (Below.refl _ _) rfl⟩
    | 1, ho =>
      simp at ho; subst ho; refine step_plain rfl ?_; have e7 := hF.gvs hR.2.1 HQa 0 (by decide) (by decide) rfl (hpre ⟨0, .data⟩ (by simp) rfl) rfl; have hgoal := hR.goB hSt HQa 1 rfl (by decide) (by decide) (by decide) (by decide)
      have hM := Lib.hid hR.1
      clear hF hpre hl hR; go_simp
      refine ⟨trivial, ?_⟩
      refine CallsIn.mono (callsIn_wide.2 (HH.out _)) ?_
      rintro e w9 ⟨rfl, hb9⟩
      exact ⟨_, rfl, hgoal _ _ hb9 rfl⟩
    | 2, ho =>
      simp at ho; subst ho; refine step_plain rfl ?_; have e8 := hF.gvs hR.2.1 HQa 1 (by decide) (by decide) rfl (hpre ⟨1, .data⟩ (by simp) rfl) rfl; have hgoal := hR.goB hSt HQa 2 rfl (by decide) (by decide) (by decide) (by decide)
      have hM := Lib.hid hR.1
      clear hF hpre hl hR; go_simp
      refine ⟨trivial, ?_⟩
      refine CallsIn.mono (callsIn_wide.2 (HBH.out _ (HB.out.trans (hM.out.mono HB.out.size)))) ?_
      rintro e w9 ⟨rfl, hb9⟩
      exact ⟨_, rfl, hgoal _ _ hb9 rfl⟩
    | 3, ho =>
      simp at ho; subst ho; refine step_plain rfl ?_; have e2 := hF.was 2 (by kernel_rfl) rfl; have hgoal := hR.goB hSt HQa 3 rfl (by decide) (by decide) (by decide) (by decide)
      exact inM (X1.out.keep hR.1) HMZ.out (e2.trans rfl) ⟨_, rfl, hgoal _ _ (Below.refl _ _) rfl⟩
    | 4, ho =>
      simp at ho; subst ho; refine step_plain rfl ?_; have e3 := hF.was 3 (by kernel_rfl) rfl; have hgoal := hR.go hSt HQa 4 rfl (by decide) (by decide) (by decide) (by decide); have q0 := cell_keep hR.1 s0; have q1 := cell_keep hR.1 s1; clear hF hpre hl hR; go_simp; exact ⟨_, rfl, hgoal _ rfl⟩
    | 5, ho =>
      simp at ho; subst ho; refine step_plain rfl ?_; have e10 := hF.gvs hR.2.1 HQa 3 (by decide) (by decide) rfl (hpre ⟨3, .data⟩ (by simp) rfl) rfl; have e11 := hF.gvs hR.2.1 HQa 4 (by decide) (by decide) rfl (hpre ⟨4, .data⟩ (by simp) rfl) rfl; have hgoal := hR.goB hSt HQa 5 rfl (by decide) (by decide) (by decide) (by decide)
      have hM := Lib.hid hR.1
      clear hF hpre hl hR; go_simp
      refine ⟨trivial, ?_⟩
      refine CallsIn.mono (callsIn_wide.2 (HG.out _)) ?_
      rintro e w9 ⟨rfl, hb9⟩
      exact ⟨_, rfl, hgoal _ _ hb9 rfl⟩
    | 6, ho =>
      simp at ho; subst ho; refine step_plain rfl ?_; have e12 := hF.gvs hR.2.1 HQa 5 (by decide) (by decide) rfl (hpre ⟨5, .data⟩ (by simp) rfl) rfl; have hgoal := hR.goB hSt HQa 6 rfl (by decide) (by decide) (by decide) (by decide)
      have hM := Lib.hid hR.1
      clear hF hpre hl hR; go_simp
      refine ⟨trivial, ?_⟩
      refine CallsIn.mono (callsIn_wide.2 (HBG.out _ (HB.out.trans (hM.out.mono HB.out.size)))) ?_
      rintro e w9 ⟨rfl, hb9⟩
      exact ⟨_, rfl, hgoal _ _ hb9 rfl⟩
    | 7, ho =>
      simp at ho; subst ho; refine step_plain rfl ?_; have hN := hF.later hl 9 rfl (e := ⟨7, .data⟩) (by simp) rfl rfl; have hgoal := RBB.made1 hR hSt hN (by decide) (by decide) (by decide); clear hF hpre hl hR hN; go_simp; exact ⟨_, rfl, hgoal⟩
    | 8, ho =>
      simp at ho; subst ho; refine step_plain rfl ?_; have hN := hF.later hl 10 rfl (e := ⟨8, .data⟩) (by simp) rfl rfl; have hgoal := RBB.made2 hR hSt hN (by decide) (by decide) (by decide); clear hF hpre hl hR hN; go_simp; exact ⟨_, rfl, hgoal⟩
    | 9, ho =>
      simp at ho; subst ho; refine step_plain rfl ?_; have e5 := hF.gave 7 rfl (hpre ⟨7, .data⟩ (by simp) rfl) rfl; have e9 := hF.gvs hR.2.1 HQa 2 (by decide) (by decide) rfl (hpre ⟨2, .data⟩ (by simp) rfl) rfl
      have hls : 9 < L.size := by rw [hF.lsize]; decide
      have hN0 : L.getD 9 false = false := by rw [← getD_same hls]; exact hl
      have hal := hpre ⟨7, .data⟩ (by simp) rfl
      obtain ⟨q, qe, qM, qb⟩ := hR.2.2.1 hal
      rw [hN0] at qb
      simp only [Bool.false_eq_true, if_false] at qb
      rw [qe] at e5
      have g0 := cellOf (o := 0) qb rfl; have f0 := freeOf (o := 0) qb; have g1 := cellOf (o := 1) qb rfl; have f1 := freeOf (o := 1) qb; have hgoal := RBB.filled1 (v := undef) hR hSt (QG.none HQa 9 rfl (fun _ _ => trivial) _ _) hal qe qM hls ((hR.1.setCell (p := ⟨q, 0, none⟩) qM (.int .i64 p1)).setCell (p := ⟨q, 1, none⟩) qM (.int .i64 p2)) (fun b9 hb9 => ((Below.heap_setCell _ ⟨q, 1, none⟩ _ b9 hb9).trans (Below.heap_setCell _ ⟨q, 0, none⟩ _ b9 hb9))) ((block_setCell (o := 1) (.int .i64 p2) (block_setCell (o := 0) (.int .i64 p1) qb)).trans (by rfl)) (by decide) (by decide) (by decide)
      have hq := lt_of_block qb
      have HG := Lib.hid hgoal
      clear hF hpre hl hR hls hN0 hal qe qb hgoal; go_simp
      exact ⟨undef, HG.out⟩
    | 10, ho =>
      simp at ho; subst ho; refine step_plain rfl ?_; have e6 := hF.gave 8 rfl (hpre ⟨8, .data⟩ (by simp) rfl) rfl; have e13 := hF.gvs hR.2.1 HQa 6 (by decide) (by decide) rfl (hpre ⟨6, .data⟩ (by simp) rfl) rfl
      have hls : 10 < L.size := by rw [hF.lsize]; decide
      have hN0 : L.getD 10 false = false := by rw [← getD_same hls]; exact hl
      have hal := hpre ⟨8, .data⟩ (by simp) rfl
      obtain ⟨q, qe, qM, qb⟩ := hR.2.2.2.1 hal
      rw [hN0] at qb
      simp only [Bool.false_eq_true, if_false] at qb
      rw [qe] at e6
      have g0 := cellOf (o := 0) qb rfl; have f0 := freeOf (o := 0) qb; have g1 := cellOf (o := 1) qb rfl; have f1 := freeOf (o := 1) qb; have hgoal := RBB.filled2 (v := undef) hR hSt (QG.none HQa 10 rfl (fun _ _ => trivial) _ _) hal qe qM hls ((hR.1.setCell (p := ⟨q, 0, none⟩) qM (.int .i64 q1)).setCell (p := ⟨q, 1, none⟩) qM (.int .i64 q2)) (fun b9 hb9 => ((Below.heap_setCell _ ⟨q, 1, none⟩ _ b9 hb9).trans (Below.heap_setCell _ ⟨q, 0, none⟩ _ b9 hb9))) ((block_setCell (o := 1) (.int .i64 q2) (block_setCell (o := 0) (.int .i64 q1) qb)).trans (by rfl)) (by decide) (by decide) (by decide)
      have hq := lt_of_block qb
      have HG := Lib.hid hgoal
      clear hF hpre hl hR hls hN0 hal qe qb hgoal; go_simp
      exact ⟨undef, HG.out⟩
    | i + 11, ho => simp at ho
  case henda =>
    intro val L b' x9 hF hall hR
    have e := hF.all (by kernel_rfl) hall
    obtain ⟨q1a, p1a, M1a, bk1a⟩ := hR.2.2.1 (hall 7 (by decide))
    rw [hall 9 (by decide)] at bk1a
    simp only [if_true] at bk1a
    obtain ⟨q2a, p2a, M2a, bk2a⟩ := hR.2.2.2.1 (hall 8 (by decide))
    rw [hall 10 (by decide)] at bk2a
    simp only [if_true] at bk2a
    have nea : q1a ≠ q2a := fun e9 => hR.2.2.2.2 (hall 7 (by decide)) (hall 8 (by decide)) (by rw [p1a, p2a, e9])
    have hBa := Lib.hid hR.1
    clear hF hall hR hSt HQa
    subst e
    simp [final, dstOf, List.range, List.range.loop]
    rw [p1a, p2a]
    have y0 : x9.cell? ⟨q1a, 0, none⟩ = some (.int .i64 p1) := cellOf (o := 0) bk1a rfl
    have y1 : x9.cell? ⟨q1a, 1, none⟩ = some (.int .i64 p2) := cellOf (o := 1) bk1a rfl
    have y2 : x9.cell? ⟨q2a, 0, none⟩ = some (.int .i64 q1) := cellOf (o := 0) bk2a rfl
    have y3 : x9.cell? ⟨q2a, 1, none⟩ = some (.int .i64 q2) := cellOf (o := 1) bk2a rfl
    have bz := X3.out.keep hBa.out
    have HB9 := Lib.hid (HB.out.trans (hBa.out.mono HB.out.size))
    unfold BK at bz
    clear bk1a bk2a hBa X1 X2 X3 s0 s1 HB
    go_upto_region 2 with fail
    obtain ⟨Qb, hQb⟩ : ∃ q9 : Nat → Value → World → Prop, q9 = QG [some (.pointer (some ⟨q1a, 0, none⟩)), some (.int .i64 p1), some (.pointer (some ⟨q2a, 0, none⟩)), some (.int .i64 q1), some (.int .i64 x1), some (.int .i64 f1), some (.pointer (some ⟨q1a, 1, none⟩)), some (.int .i64 p2), some (.pointer (some ⟨q2a, 1, none⟩)), some (.int .i64 q2), some (.int .i64 x2), some (.int .i64 f2), some (.agg #[.int .i64 f1, .int .i64 f2]), none] (fun _ _ _ => True) := ⟨_, rfl⟩
    have hst : Stays Qb := by rw [hQb]; exact QG.stays (fun _ _ _ _ _ _ => trivial)
    have HQb := Lib.hid hQb
    clear hQb
    obtain ⟨fbX, hfbX⟩ : ∃ f9 : World → World, f9 = (fun y => ((y.setCell ⟨w.heap.size + 1 + 1, 0, none⟩ (.int .i64 f1)).setCell ⟨w.heap.size + 1 + 1, 1, none⟩ (.int .i64 f2))) := ⟨_, rfl⟩
    have HfbX := Lib.hid hfbX
    clear hfbX
    refine wpIn_wide.1 (region_inv2 (n := 9) (by kernel_rfl) (RT Qb x9 13 fbX) (by kernel_rfl) rfl (RT.start _ _ _ _ _) ?hstepb ?hendb)
    case hstepb =>
      intro i' o ho val L b' x hF hR hpre hl
      match i', ho with
      | 0, ho =>
        simp at ho; subst ho; refine step_plain rfl ?_; have hN := hF.later hl 13 rfl (e := ⟨0, .phase⟩) (by simp) rfl rfl
        have hR := hR.1 hN
        have e5 := hF.was 5 (by kernel_rfl) rfl; have hgoal := RT.go (f := fbX) hR hst HQb 0 rfl (by decide) hN; clear hF hpre hl hR hN; go_simp; exact ⟨_, rfl, hgoal _ _ (Below.refl _ _) rfl⟩
      | 1, ho =>
        simp at ho; subst ho; refine step_plain rfl ?_; have hN := hF.later hl 13 rfl (e := ⟨1, .phase⟩) (by simp) rfl rfl
        have hR := hR.1 hN
        have e14 := hF.gv hR.2 HQb 0 rfl (hpre ⟨0, .data⟩ (by simp) rfl) rfl; have hgoal := RT.go (f := fbX) hR hst HQb 1 rfl (by decide) hN; have q0 := cell_keep hR.1 y0; clear hF hpre hl hR hN; go_simp; exact ⟨_, rfl, hgoal _ _ (Below.refl _ _) rfl⟩
      | 2, ho =>
        simp at ho; subst ho; refine step_plain rfl ?_; have hN := hF.later hl 13 rfl (e := ⟨2, .phase⟩) (by simp) rfl rfl
        have hR := hR.1 hN
        have e6 := hF.was 6 (by kernel_rfl) rfl; have hgoal := RT.go (f := fbX) hR hst HQb 2 rfl (by decide) hN; clear hF hpre hl hR hN; go_simp; exact ⟨_, rfl, hgoal _ _ (Below.refl _ _) rfl⟩
      | 3, ho =>
        simp at ho; subst ho; refine step_plain rfl ?_; have hN := hF.later hl 13 rfl (e := ⟨3, .phase⟩) (by simp) rfl rfl
        have hR := hR.1 hN
        have e16 := hF.gv hR.2 HQb 2 rfl (hpre ⟨2, .data⟩ (by simp) rfl) rfl; have hgoal := RT.go (f := fbX) hR hst HQb 3 rfl (by decide) hN; have q0 := cell_keep hR.1 y2; clear hF hpre hl hR hN; go_simp; exact ⟨_, rfl, hgoal _ _ (Below.refl _ _) rfl⟩
      | 4, ho =>
        simp at ho; subst ho; refine step_plain rfl ?_; have hN := hF.later hl 13 rfl (e := ⟨4, .phase⟩) (by simp) rfl rfl
        have hR := hR.1 hN
        have e15 := hF.gv hR.2 HQb 1 rfl (hpre ⟨1, .data⟩ (by simp) rfl) rfl; have e17 := hF.gv hR.2 HQb 3 rfl (hpre ⟨3, .data⟩ (by simp) rfl) rfl; have hgoal := RT.go (f := fbX) hR hst HQb 4 rfl (by decide) hN; clear hF hpre hl hR hN; go_simp; exact ⟨_, rfl, hgoal _ _ (Below.refl _ _) rfl⟩
      | 5, ho =>
        simp at ho; subst ho; refine step_plain rfl ?_; have hN := hF.later hl 13 rfl (e := ⟨5, .phase⟩) (by simp) rfl rfl
        have hR := hR.1 hN
        have e18 := hF.gv hR.2 HQb 4 rfl (hpre ⟨4, .data⟩ (by simp) rfl) rfl; have hgoal := RT.go (f := fbX) hR hst HQb 5 rfl (by decide) hN
        have hM := Lib.hid hR.1
        clear hF hpre hl hR hN; go_simp
        refine ⟨trivial, ?_⟩
        refine CallsIn.mono (callsIn_wide.2 (HF.out _)) ?_
        rintro e w9 ⟨rfl, rfl⟩
        exact ⟨_, rfl, hgoal _ _ (Below.refl _ _) rfl⟩
      | 6, ho =>
        simp at ho; subst ho; refine step_plain rfl ?_; have hN := hF.later hl 13 rfl (e := ⟨6, .phase⟩) (by simp) rfl rfl
        have hR := hR.1 hN
        have e5 := hF.was 5 (by kernel_rfl) rfl; have hgoal := RT.go (f := fbX) hR hst HQb 6 rfl (by decide) hN; clear hF hpre hl hR hN; go_simp; exact ⟨_, rfl, hgoal _ _ (Below.refl _ _) rfl⟩
      | 7, ho =>
        simp at ho; subst ho; refine step_plain rfl ?_; have hN := hF.later hl 13 rfl (e := ⟨7, .phase⟩) (by simp) rfl rfl
        have hR := hR.1 hN
        have e20 := hF.gv hR.2 HQb 6 rfl (hpre ⟨6, .data⟩ (by simp) rfl) rfl; have hgoal := RT.go (f := fbX) hR hst HQb 7 rfl (by decide) hN; have q0 := cell_keep hR.1 y1; clear hF hpre hl hR hN; go_simp; exact ⟨_, rfl, hgoal _ _ (Below.refl _ _) rfl⟩
      | 8, ho =>
        simp at ho; subst ho; refine step_plain rfl ?_; have hN := hF.later hl 13 rfl (e := ⟨8, .phase⟩) (by simp) rfl rfl
        have hR := hR.1 hN
        have e6 := hF.was 6 (by kernel_rfl) rfl; have hgoal := RT.go (f := fbX) hR hst HQb 8 rfl (by decide) hN; clear hF hpre hl hR hN; go_simp; exact ⟨_, rfl, hgoal _ _ (Below.refl _ _) rfl⟩
      | 9, ho =>
        simp at ho; subst ho; refine step_plain rfl ?_; have hN := hF.later hl 13 rfl (e := ⟨9, .phase⟩) (by simp) rfl rfl
        have hR := hR.1 hN
        have e22 := hF.gv hR.2 HQb 8 rfl (hpre ⟨8, .data⟩ (by simp) rfl) rfl; have hgoal := RT.go (f := fbX) hR hst HQb 9 rfl (by decide) hN; have q0 := cell_keep hR.1 y3; clear hF hpre hl hR hN; go_simp; exact ⟨_, rfl, hgoal _ _ (Below.refl _ _) rfl⟩
      | 10, ho =>
        simp at ho; subst ho; refine step_plain rfl ?_; have hN := hF.later hl 13 rfl (e := ⟨10, .phase⟩) (by simp) rfl rfl
        have hR := hR.1 hN
        have e21 := hF.gv hR.2 HQb 7 rfl (hpre ⟨7, .data⟩ (by simp) rfl) rfl; have e23 := hF.gv hR.2 HQb 9 rfl (hpre ⟨9, .data⟩ (by simp) rfl) rfl; have hgoal := RT.go (f := fbX) hR hst HQb 10 rfl (by decide) hN; clear hF hpre hl hR hN; go_simp; exact ⟨_, rfl, hgoal _ _ (Below.refl _ _) rfl⟩
      | 11, ho =>
        simp at ho; subst ho; refine step_plain rfl ?_; have hN := hF.later hl 13 rfl (e := ⟨11, .phase⟩) (by simp) rfl rfl
        have hR := hR.1 hN
        have e24 := hF.gv hR.2 HQb 10 rfl (hpre ⟨10, .data⟩ (by simp) rfl) rfl; have hgoal := RT.go (f := fbX) hR hst HQb 11 rfl (by decide) hN
        have hM := Lib.hid hR.1
        clear hF hpre hl hR hN; go_simp
        refine ⟨trivial, ?_⟩
        refine CallsIn.mono (callsIn_wide.2 (HC.out _)) ?_
        rintro e w9 ⟨rfl, rfl⟩
        exact ⟨_, rfl, hgoal _ _ (Below.refl _ _) rfl⟩
      | 12, ho =>
        simp at ho; subst ho; refine step_plain rfl ?_; have hN := hF.later hl 13 rfl (e := ⟨12, .phase⟩) (by simp) rfl rfl
        have hR := hR.1 hN
        have e19 := hF.gv hR.2 HQb 5 rfl (hpre ⟨5, .data⟩ (by simp) rfl) rfl; have e25 := hF.gv hR.2 HQb 11 rfl (hpre ⟨11, .data⟩ (by simp) rfl) rfl; have hgoal := RT.go (f := fbX) hR hst HQb 12 rfl (by decide) hN
        have hM := Lib.hid hR.1
        clear hF hpre hl hR hN; go_simp
        refine ⟨trivial, ?_⟩
        refine CallsIn.mono (callsIn_wide.2 (rspan_any f1 f2 _)) ?_
        rintro e w9 ⟨rfl, hb9⟩
        exact ⟨_, rfl, hgoal _ _ hb9 rfl⟩
      | 13, ho =>
        simp at ho; subst ho; refine step_plain rfl ?_; have hN := hF.none2 hl (by decide)
        have hls : 13 < L.size := by rw [hF.lsize]; decide
        have hR := hR.1 hN
        have e4 := hF.was 4 (by kernel_rfl) rfl; have e26 := hF.gv hR.2 HQb 12 rfl (hpre ⟨12, .data⟩ (by simp) rfl) rfl
        have qb := (hR.1.block (w.heap.size + 1 + 1) (lt_of_block bz)).trans bz
        have g0 := cellOf (o := 0) qb rfl; have f0 := freeOf (o := 0) qb; have g1 := cellOf (o := 1) qb rfl; have f1 := freeOf (o := 1) qb; have hgoal := RT.store (f := fbX) (v := undef) hR hls
        have hq := lt_of_block qb
        have HG := Lib.hid hgoal
        clear hF hpre hl hR hls hN qb hgoal; go_simp
        exact ⟨undef, by have h9 := HG.out; rw [HfbX.out] at h9 ⊢; exact h9⟩
      | i + 14, ho => simp at ho
    case hendb =>
      intro val L b' x hF hall hR
      have e := hF.all (by kernel_rfl) hall
      obtain ⟨yb, hyb, eyb, hqb⟩ := hR.done (hall 13 (by decide))
      rw [HfbX.out] at eyb; dsimp only at eyb
      have bkb := (block_setCell (o := 1) (.int .i64 f2) (block_setCell (o := 0) (.int .i64 f1) ((hyb.block (w.heap.size + 1 + 1) (lt_of_block bz)).trans bz)))
      rw [← eyb] at bkb
      have hXb := Lib.hid (fun n9 w9 (h9 : Below n9 w9 x9) (hn9 : n9 ≤ w.heap.size + 1 + 1) => show Below n9 w9 x by rw [eyb]; exact (((h9.trans (hyb.mono (by have := lt_of_block bz; omega))).setCell (p := ⟨w.heap.size + 1 + 1, 0, none⟩) hn9 (.int .i64 f1)).setCell (p := ⟨w.heap.size + 1 + 1, 1, none⟩) hn9 (.int .i64 f2)))
      clear hF hall hR hst HfbX hqb hyb eyb HQb 
      subst e
      simp [final, dstOf, List.range, List.range.loop]
      have z0 := cellOf (o := 0) bkb rfl
      have z1 := cellOf (o := 1) bkb rfl
      have HB4 := Lib.hid (hXb.out _ _ HB9.out (by omega))
      clear bkb hXb
      go_wp2
      exact bodyPost_ret (v := .agg #[.int .i64 f1, .int .i64 f2]) (by simp [results, Try.results62, go_sem, z0, z1]) rfl ⟨rfl, HB4.out⟩
end Go.Proofs.Ythhokiigdgpmcaa
